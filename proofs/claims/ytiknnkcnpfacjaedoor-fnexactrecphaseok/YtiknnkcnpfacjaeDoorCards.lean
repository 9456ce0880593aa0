/-
  DERIVED. GIVEN WITH THE SEED: THE CARDS: each row of YtiknnkcnpfacjaeDoorRows.lean that lists a variable, with what it lists TIED to the program's text (the seventh form; the later family's looks); each row that meets fmt, with fmt's text TOLD by the authors' own Lean function (tested against real Go, not proved from fmt's source: count such statements apart). THE CARD IS WHAT COUNTS. Prove the row's statement (the work); the ties are given (YtiknnkcnpfacjaeDoorTie.lean); close each card by the builder's one call (the guide's Derived/Test/ToyasCard.lean, 'card_holds'). Laid BY PROGRAM, IN A SANDBOX (cutbox-door.mjs). By AI agents, Wed Nov 11 2026. No macro, syntax, notation, axiom, sorry.
-/
import Derived.Test.YtiknnkcnpfacjaeDoorRows
import GoSem.ClaimSeven
namespace Go.Proofs.YtiknnkcnpfacjaeDoor
namespace Rows

/-- THE TIED CARD OF 'laws.FnExactRecPhaseOk'. -/
def fnExactRecPhaseOkCard : Claim7 := { stood := { row := fnExactRecPhaseOkRow, standIns := [], harness := (true, "28d1be18f60d60c2db3d671c796ace62bb12a3d73fb91900bb5ceb03486bca78"), looks := true }, kinds := [], alts := [], laidByText := true, laidKinds := [.data], laidTests := true, laidLooks := .later }
def FnExactRecPhaseOkCardSaid : Prop := Claim7.holds Tryd.pinned (.plain (OpenSpec.ofChange fnExactRecPhaseOkSpec)) fnExactRecPhaseOkCard

/-- THE SECOND FORM's CARD OF 'laws.FnExactRecPhaseOk'. -/
def fnExactRecPhaseOkUptoCard : Claim7 := { stood := { row := fnExactRecPhaseOkUptoRow, standIns := [], harness := (true, "28d1be18f60d60c2db3d671c796ace62bb12a3d73fb91900bb5ceb03486bca78"), looks := true }, kinds := [], alts := [], laidByText := true, laidKinds := [.data], laidTests := true, laidLooks := .later }
def FnExactRecPhaseOkUptoCardSaid : Prop := Claim7.holds Tryd.pinned (.plain (OpenSpec.upto fnExactRecPhaseOkSpec)) fnExactRecPhaseOkUptoCard
end Rows
end Go.Proofs.YtiknnkcnpfacjaeDoor
