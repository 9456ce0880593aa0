/-
  DERIVED. GIVEN WITH THE SEED: THE CARDS: each row of YtliebjbbomghiaaGreatDoorRows.lean that lists a variable, with what it lists TIED to the program's text (the seventh form; the later family's looks); each row that meets fmt, with fmt's text TOLD by the authors' own Lean function (tested against real Go, not proved from fmt's source: count such statements apart). THE CARD IS WHAT COUNTS. Prove the row's statement (the work); the ties are given (YtliebjbbomghiaaGreatDoorTie.lean); close each card by the builder's one call (the guide's Derived/Test/ToyasCard.lean, 'card_holds'). Laid BY PROGRAM, IN A SANDBOX (cutbox-door.mjs). By AI agents, Wed Nov 11 2026. No macro, syntax, notation, axiom, sorry.
-/
import Derived.Test.YtliebjbbomghiaaGreatDoorRows
import GoSem.ClaimSeven
namespace Go.Proofs.YtliebjbbomghiaaGreatDoor
namespace Rows

/-- THE TIED CARD OF 'laws.FnRunThings'. -/
def fnRunThingsCard : Claim7 := { stood := { row := fnRunThingsRow, standIns := [], harness := (true, "d1cba8a5c6e66bdee22d4ecd7bfb19805d4051652177290441789405094632cd"), looks := true }, kinds := [], alts := [], laidByText := true, laidKinds := [.data], laidTests := true, laidLooks := .later }
def FnRunThingsCardSaid : Prop := Claim7.holds Tryz.pinned (.plain (OpenSpec.ofChange fnRunThingsSpec)) fnRunThingsCard

/-- THE SECOND FORM's CARD OF 'laws.FnRunThings'. -/
def fnRunThingsUptoCard : Claim7 := { stood := { row := fnRunThingsUptoRow, standIns := [], harness := (true, "d1cba8a5c6e66bdee22d4ecd7bfb19805d4051652177290441789405094632cd"), looks := true }, kinds := [], alts := [], laidByText := true, laidKinds := [.data], laidTests := true, laidLooks := .later }
def FnRunThingsUptoCardSaid : Prop := Claim7.holds Tryz.pinned (.plain (OpenSpec.upto fnRunThingsSpec)) fnRunThingsUptoCard
end Rows
end Go.Proofs.YtliebjbbomghiaaGreatDoor
