/-
  DERIVED. GIVEN WITH THE SEED: THE CARDS: each row of YtaffjphkobhagaaGreatDoorRows.lean that lists a variable, with what it lists TIED to the program's text (the seventh form; the later family's looks); each row that meets fmt, with fmt's text TOLD by the authors' own Lean function (tested against real Go, not proved from fmt's source: count such statements apart). THE CARD IS WHAT COUNTS. Prove the row's statement (the work); the ties are given (YtaffjphkobhagaaGreatDoorTie.lean); close each card by the builder's one call (the guide's Derived/Test/ToyasCard.lean, 'card_holds'). Laid BY PROGRAM, IN A SANDBOX (cutbox-door.mjs). By AI agents, Wed Nov 11 2026. No macro, syntax, notation, axiom, sorry.
-/
import Derived.Test.YtaffjphkobhagaaGreatDoorRows
import GoSem.ClaimSeven
namespace Go.Proofs.YtaffjphkobhagaaGreatDoor
namespace Rows

/-- THE TIED CARD OF 'laws.FnExactRunBoard'. -/
def fnExactRunBoardCard : Claim7 := { stood := { row := fnExactRunBoardRow, standIns := [], harness := (true, "d05ca3e0b80482d0895490b4348d0d48f6c2dd8bb1e17527608bc9ed3d9eac5c"), looks := true }, kinds := [], alts := [], goes := true, laidByText := true, laidKinds := [.data, .data, .data, .data], laidTests := true, laidLooks := .later }
def FnExactRunBoardCardSaid : Prop := Claim7.holds Tryz.pinned (.plain (OpenSpec.ofChange fnExactRunBoardSpec)) fnExactRunBoardCard

/-- THE SECOND FORM's CARD OF 'laws.FnExactRunBoard'. -/
def fnExactRunBoardUptoCard : Claim7 := { stood := { row := fnExactRunBoardUptoRow, standIns := [], harness := (true, "d05ca3e0b80482d0895490b4348d0d48f6c2dd8bb1e17527608bc9ed3d9eac5c"), looks := true }, kinds := [], alts := [], goes := true, laidByText := true, laidKinds := [.data, .data, .data, .data], laidTests := true, laidLooks := .later }
def FnExactRunBoardUptoCardSaid : Prop := Claim7.holds Tryz.pinned (.plain (OpenSpec.upto fnExactRunBoardSpec)) fnExactRunBoardUptoCard
end Rows
end Go.Proofs.YtaffjphkobhagaaGreatDoor
