/-
  DERIVED. GIVEN WITH THE SEED: THE CARDS: each row of YtgecdacgmehmbaaGreatDoorRows.lean that lists a variable, with what it lists TIED to the program's text (the seventh form; the later family's looks); each row that meets fmt, with fmt's text TOLD by the authors' own Lean function (tested against real Go, not proved from fmt's source: count such statements apart). THE CARD IS WHAT COUNTS. Prove the row's statement (the work); the ties are given (YtgecdacgmehmbaaGreatDoorTie.lean); close each card by the builder's one call (the guide's Derived/Test/ToyasCard.lean, 'card_holds'). Laid BY PROGRAM, IN A SANDBOX (cutbox-door.mjs). By AI agents, Wed Nov 11 2026. No macro, syntax, notation, axiom, sorry.
-/
import Derived.Test.YtgecdacgmehmbaaGreatDoorRows
import GoSem.ClaimSeven
namespace Go.Proofs.YtgecdacgmehmbaaGreatDoor
namespace Rows

/-- THE TIED CARD OF 'laws.FnExactRunStart'. -/
def fnExactRunStartCard : Claim7 := { stood := { row := fnExactRunStartRow, standIns := [], harness := (true, "92da3131d7cd64c846629919b0328f2b0eb2b3270754f1901f0ebcfc1be53a6d"), looks := true }, kinds := [], alts := [], laidByText := true, laidKinds := [.handle, .data], laidTests := true, laidLooks := .later }
def FnExactRunStartCardSaid : Prop := Claim7.holds Tryz.pinned (.plain (OpenSpec.ofChange fnExactRunStartSpec)) fnExactRunStartCard

/-- THE SECOND FORM's CARD OF 'laws.FnExactRunStart'. -/
def fnExactRunStartUptoCard : Claim7 := { stood := { row := fnExactRunStartUptoRow, standIns := [], harness := (true, "92da3131d7cd64c846629919b0328f2b0eb2b3270754f1901f0ebcfc1be53a6d"), looks := true }, kinds := [], alts := [], laidByText := true, laidKinds := [.handle, .data], laidTests := true, laidLooks := .later }
def FnExactRunStartUptoCardSaid : Prop := Claim7.holds Tryz.pinned (.plain (OpenSpec.upto fnExactRunStartSpec)) fnExactRunStartUptoCard
end Rows
end Go.Proofs.YtgecdacgmehmbaaGreatDoor
