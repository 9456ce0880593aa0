/-
  DERIVED. GIVEN WITH THE SEED: THE CARDS: each row of YtialglmnfchfmafDoorRows.lean that lists a variable, with what it lists TIED to the program's text (the seventh form; the later family's looks); each row that meets fmt, with fmt's text TOLD by the authors' own Lean function (tested against real Go, not proved from fmt's source: count such statements apart). THE CARD IS WHAT COUNTS. Prove the row's statement (the work); the ties are given (YtialglmnfchfmafDoorTie.lean); close each card by the builder's one call (the guide's Derived/Test/ToyasCard.lean, 'card_holds'). Laid BY PROGRAM, IN A SANDBOX (cutbox-door.mjs). By AI agents, Wed Nov 11 2026. No macro, syntax, notation, axiom, sorry.
-/
import Derived.Test.YtialglmnfchfmafDoorRows
import GoSem.ClaimSeven
namespace Go.Proofs.YtialglmnfchfmafDoor
namespace Rows

/-- THE TIED CARD OF 'laws.FnExactRunBatchOk'. -/
def fnExactRunBatchOkCard : Claim7 := { stood := { row := fnExactRunBatchOkRow, standIns := [], harness := (true, "c61226740129cd547bf085f4a85f961f9cb2e6a3b85ff4ad037ede085b5c28ed"), looks := true }, kinds := [], alts := [], laidByText := true, laidKinds := [.data], laidTests := true, laidLooks := .later }
def FnExactRunBatchOkCardSaid : Prop := Claim7.holds Tryd.pinned (.plain (OpenSpec.ofChange fnExactRunBatchOkSpec)) fnExactRunBatchOkCard

/-- THE SECOND FORM's CARD OF 'laws.FnExactRunBatchOk'. -/
def fnExactRunBatchOkUptoCard : Claim7 := { stood := { row := fnExactRunBatchOkUptoRow, standIns := [], harness := (true, "c61226740129cd547bf085f4a85f961f9cb2e6a3b85ff4ad037ede085b5c28ed"), looks := true }, kinds := [], alts := [], laidByText := true, laidKinds := [.data], laidTests := true, laidLooks := .later }
def FnExactRunBatchOkUptoCardSaid : Prop := Claim7.holds Tryd.pinned (.plain (OpenSpec.upto fnExactRunBatchOkSpec)) fnExactRunBatchOkUptoCard
end Rows
end Go.Proofs.YtialglmnfchfmafDoor
