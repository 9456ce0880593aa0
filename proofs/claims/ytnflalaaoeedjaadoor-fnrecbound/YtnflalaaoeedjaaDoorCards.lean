/-
  DERIVED. GIVEN WITH THE SEED: THE CARDS: each row of YtnflalaaoeedjaaDoorRows.lean that lists a variable, with what it lists TIED to the program's text (the seventh form; the later family's looks); each row that meets fmt, with fmt's text TOLD by the authors' own Lean function (tested against real Go, not proved from fmt's source: count such statements apart). THE CARD IS WHAT COUNTS. Prove the row's statement (the work); the ties are given (YtnflalaaoeedjaaDoorTie.lean); close each card by the builder's one call (the guide's Derived/Test/ToyasCard.lean, 'card_holds'). Laid BY PROGRAM, IN A SANDBOX (cutbox-door.mjs). By AI agents, Wed Nov 11 2026. No macro, syntax, notation, axiom, sorry.
-/
import Derived.Test.YtnflalaaoeedjaaDoorRows
import GoSem.ClaimSeven
namespace Go.Proofs.YtnflalaaoeedjaaDoor
namespace Rows

/-- THE TIED CARD OF 'laws.FnRecBound'. -/
def fnRecBoundCard : Claim7 := { stood := { row := fnRecBoundRow, standIns := [], harness := (true, "a7f60df0b74869291ba2513c66844d22f76fb44f2bc43c4bc07d9d244718e693"), looks := true }, kinds := [], alts := [], laidByText := true, laidKinds := [.data], laidTests := true, laidLooks := .later }
def FnRecBoundCardSaid : Prop := Claim7.holds Tryd.pinned (.plain (OpenSpec.ofChange fnRecBoundSpec)) fnRecBoundCard

/-- THE TIED CARD OF 'laws.FnRecCan'. -/
def fnRecCanCard : Claim7 := { stood := { row := fnRecCanRow, standIns := [], harness := (true, "a7f60df0b74869291ba2513c66844d22f76fb44f2bc43c4bc07d9d244718e693"), looks := true }, kinds := [], alts := [], laidByText := true, laidKinds := [.data], laidTests := true, laidLooks := .later }
def FnRecCanCardSaid : Prop := Claim7.holds Tryd.pinned (.plain (OpenSpec.ofChange fnRecCanSpec)) fnRecCanCard

/-- THE TIED CARD OF 'laws.FnRecPhase'. -/
def fnRecPhaseCard : Claim7 := { stood := { row := fnRecPhaseRow, standIns := [], harness := (true, "a7f60df0b74869291ba2513c66844d22f76fb44f2bc43c4bc07d9d244718e693"), looks := true }, kinds := [], alts := [], laidByText := true, laidKinds := [.data], laidTests := true, laidLooks := .later }
def FnRecPhaseCardSaid : Prop := Claim7.holds Tryd.pinned (.plain (OpenSpec.ofChange fnRecPhaseSpec)) fnRecPhaseCard

/-- THE SECOND FORM's CARD OF 'laws.FnRecBound'. -/
def fnRecBoundUptoCard : Claim7 := { stood := { row := fnRecBoundUptoRow, standIns := [], harness := (true, "a7f60df0b74869291ba2513c66844d22f76fb44f2bc43c4bc07d9d244718e693"), looks := true }, kinds := [], alts := [], laidByText := true, laidKinds := [.data], laidTests := true, laidLooks := .later }
def FnRecBoundUptoCardSaid : Prop := Claim7.holds Tryd.pinned (.plain (OpenSpec.upto fnRecBoundSpec)) fnRecBoundUptoCard

/-- THE SECOND FORM's CARD OF 'laws.FnRecCan'. -/
def fnRecCanUptoCard : Claim7 := { stood := { row := fnRecCanUptoRow, standIns := [], harness := (true, "a7f60df0b74869291ba2513c66844d22f76fb44f2bc43c4bc07d9d244718e693"), looks := true }, kinds := [], alts := [], laidByText := true, laidKinds := [.data], laidTests := true, laidLooks := .later }
def FnRecCanUptoCardSaid : Prop := Claim7.holds Tryd.pinned (.plain (OpenSpec.upto fnRecCanSpec)) fnRecCanUptoCard

/-- THE SECOND FORM's CARD OF 'laws.FnRecPhase'. -/
def fnRecPhaseUptoCard : Claim7 := { stood := { row := fnRecPhaseUptoRow, standIns := [], harness := (true, "a7f60df0b74869291ba2513c66844d22f76fb44f2bc43c4bc07d9d244718e693"), looks := true }, kinds := [], alts := [], laidByText := true, laidKinds := [.data], laidTests := true, laidLooks := .later }
def FnRecPhaseUptoCardSaid : Prop := Claim7.holds Tryd.pinned (.plain (OpenSpec.upto fnRecPhaseSpec)) fnRecPhaseUptoCard
end Rows
end Go.Proofs.YtnflalaaoeedjaaDoor
