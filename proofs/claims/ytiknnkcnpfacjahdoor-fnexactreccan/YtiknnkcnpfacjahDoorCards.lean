/-
  DERIVED. GIVEN WITH THE SEED: THE CARDS: each row of YtiknnkcnpfacjahDoorRows.lean that lists a variable, with what it lists TIED to the program's text (the seventh form; the later family's looks); each row that meets fmt, with fmt's text TOLD by the authors' own Lean function (tested against real Go, not proved from fmt's source: count such statements apart). THE CARD IS WHAT COUNTS. Prove the row's statement (the work); the ties are given (YtiknnkcnpfacjahDoorTie.lean); close each card by the builder's one call (the guide's Derived/Test/ToyasCard.lean, 'card_holds'). Laid BY PROGRAM, IN A SANDBOX (cutbox-door.mjs). By AI agents, Wed Nov 11 2026. No macro, syntax, notation, axiom, sorry.
-/
import Derived.Test.YtiknnkcnpfacjahDoorRows
import GoSem.ClaimSeven
namespace Go.Proofs.YtiknnkcnpfacjahDoor
namespace Rows

/-- THE TIED CARD OF 'laws.FnExactRecCan'. -/
def fnExactRecCanCard : Claim7 := { stood := { row := fnExactRecCanRow, standIns := [], harness := (true, "8b6b4448e53dee40f55e24d636a14a21195c6d218a66ff9411aee2a4c4257822"), looks := true }, kinds := [], alts := [], laidByText := true, laidKinds := [.data], laidTests := true, laidLooks := .later }
def FnExactRecCanCardSaid : Prop := Claim7.holds Tryd.pinned (.plain (OpenSpec.ofChange fnExactRecCanSpec)) fnExactRecCanCard

/-- THE SECOND FORM's CARD OF 'laws.FnExactRecCan'. -/
def fnExactRecCanUptoCard : Claim7 := { stood := { row := fnExactRecCanUptoRow, standIns := [], harness := (true, "8b6b4448e53dee40f55e24d636a14a21195c6d218a66ff9411aee2a4c4257822"), looks := true }, kinds := [], alts := [], laidByText := true, laidKinds := [.data], laidTests := true, laidLooks := .later }
def FnExactRecCanUptoCardSaid : Prop := Claim7.holds Tryd.pinned (.plain (OpenSpec.upto fnExactRecCanSpec)) fnExactRecCanUptoCard
end Rows
end Go.Proofs.YtiknnkcnpfacjahDoor
