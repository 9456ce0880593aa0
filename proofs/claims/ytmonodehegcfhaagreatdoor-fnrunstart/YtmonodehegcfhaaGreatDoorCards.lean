/-
  DERIVED. GIVEN WITH THE SEED: THE CARDS: each row of YtmonodehegcfhaaGreatDoorRows.lean that lists a variable, with what it lists TIED to the program's text (the seventh form; the later family's looks); each row that meets fmt, with fmt's text TOLD by the authors' own Lean function (tested against real Go, not proved from fmt's source: count such statements apart). THE CARD IS WHAT COUNTS. Prove the row's statement (the work); the ties are given (YtmonodehegcfhaaGreatDoorTie.lean); close each card by the builder's one call (the guide's Derived/Test/ToyasCard.lean, 'card_holds'). Laid BY PROGRAM, IN A SANDBOX (cutbox-door.mjs). By AI agents, Wed Nov 11 2026. No macro, syntax, notation, axiom, sorry.
-/
import Derived.Test.YtmonodehegcfhaaGreatDoorRows
import GoSem.ClaimSeven
namespace Go.Proofs.YtmonodehegcfhaaGreatDoor
namespace Rows

/-- THE TIED CARD OF 'laws.FnRunStart'. -/
def fnRunStartCard : Claim7 := { stood := { row := fnRunStartRow, standIns := [], harness := (true, "3a548304c46916e6d327a6bab9f7332e9121986e2fa5f936eed58b74f693d342"), looks := true }, kinds := [], alts := [], laidByText := true, laidKinds := [.handle, .data], laidTests := true, laidLooks := .later }
def FnRunStartCardSaid : Prop := Claim7.holds Tryz.pinned (.plain (OpenSpec.ofChange fnRunStartSpec)) fnRunStartCard

/-- THE SECOND FORM's CARD OF 'laws.FnRunStart'. -/
def fnRunStartUptoCard : Claim7 := { stood := { row := fnRunStartUptoRow, standIns := [], harness := (true, "3a548304c46916e6d327a6bab9f7332e9121986e2fa5f936eed58b74f693d342"), looks := true }, kinds := [], alts := [], laidByText := true, laidKinds := [.handle, .data], laidTests := true, laidLooks := .later }
def FnRunStartUptoCardSaid : Prop := Claim7.holds Tryz.pinned (.plain (OpenSpec.upto fnRunStartSpec)) fnRunStartUptoCard
end Rows
end Go.Proofs.YtmonodehegcfhaaGreatDoor
