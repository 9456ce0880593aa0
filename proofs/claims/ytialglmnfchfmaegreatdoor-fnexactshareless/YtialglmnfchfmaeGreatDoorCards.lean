/-
  DERIVED. GIVEN WITH THE SEED: THE CARDS: each row of YtialglmnfchfmaeGreatDoorRows.lean that lists a variable, with what it lists TIED to the program's text (the seventh form; the later family's looks); each row that meets fmt, with fmt's text TOLD by the authors' own Lean function (tested against real Go, not proved from fmt's source: count such statements apart). THE CARD IS WHAT COUNTS. Prove the row's statement (the work); the ties are given (YtialglmnfchfmaeGreatDoorTie.lean); close each card by the builder's one call (the guide's Derived/Test/ToyasCard.lean, 'card_holds'). Laid BY PROGRAM, IN A SANDBOX (cutbox-door.mjs). By AI agents, Wed Nov 11 2026. No macro, syntax, notation, axiom, sorry.
-/
import Derived.Test.YtialglmnfchfmaeGreatDoorRows
import GoSem.ClaimSeven
namespace Go.Proofs.YtialglmnfchfmaeGreatDoor
namespace Rows

/-- THE TIED CARD OF 'laws.FnExactShareLess'. -/
def fnExactShareLessCard : Claim7 := { stood := { row := fnExactShareLessRow, standIns := [], harness := (true, "737f8c923e2cf4fca191effaa259cd281eb8ed03e714fb47ef3de5b5bea4f0de"), looks := true }, kinds := [], alts := [], laidByText := true, laidKinds := [.handle], laidTests := true, laidLooks := .later }
def FnExactShareLessCardSaid : Prop := Claim7.holds Tryz.pinned (.plain (OpenSpec.ofChange fnExactShareLessSpec)) fnExactShareLessCard

/-- THE TIED CARD OF 'laws.FnExactShareLeave'. -/
def fnExactShareLeaveCard : Claim7 := { stood := { row := fnExactShareLeaveRow, standIns := [], harness := (true, "737f8c923e2cf4fca191effaa259cd281eb8ed03e714fb47ef3de5b5bea4f0de"), looks := true }, kinds := [], alts := [], laidByText := true, laidKinds := [.handle], laidTests := true, laidLooks := .later }
def FnExactShareLeaveCardSaid : Prop := Claim7.holds Tryz.pinned (.plain (OpenSpec.ofChange fnExactShareLeaveSpec)) fnExactShareLeaveCard

/-- THE TIED CARD OF 'laws.FnExactRunThings'. -/
def fnExactRunThingsCard : Claim7 := { stood := { row := fnExactRunThingsRow, standIns := [], harness := (true, "737f8c923e2cf4fca191effaa259cd281eb8ed03e714fb47ef3de5b5bea4f0de"), looks := true }, kinds := [], alts := [], laidByText := true, laidKinds := [.data], laidTests := true, laidLooks := .later }
def FnExactRunThingsCardSaid : Prop := Claim7.holds Tryz.pinned (.plain (OpenSpec.ofChange fnExactRunThingsSpec)) fnExactRunThingsCard

/-- THE SECOND FORM's CARD OF 'laws.FnExactShareLess'. -/
def fnExactShareLessUptoCard : Claim7 := { stood := { row := fnExactShareLessUptoRow, standIns := [], harness := (true, "737f8c923e2cf4fca191effaa259cd281eb8ed03e714fb47ef3de5b5bea4f0de"), looks := true }, kinds := [], alts := [], laidByText := true, laidKinds := [.handle], laidTests := true, laidLooks := .later }
def FnExactShareLessUptoCardSaid : Prop := Claim7.holds Tryz.pinned (.plain (OpenSpec.upto fnExactShareLessSpec)) fnExactShareLessUptoCard

/-- THE SECOND FORM's CARD OF 'laws.FnExactShareLeave'. -/
def fnExactShareLeaveUptoCard : Claim7 := { stood := { row := fnExactShareLeaveUptoRow, standIns := [], harness := (true, "737f8c923e2cf4fca191effaa259cd281eb8ed03e714fb47ef3de5b5bea4f0de"), looks := true }, kinds := [], alts := [], laidByText := true, laidKinds := [.handle], laidTests := true, laidLooks := .later }
def FnExactShareLeaveUptoCardSaid : Prop := Claim7.holds Tryz.pinned (.plain (OpenSpec.upto fnExactShareLeaveSpec)) fnExactShareLeaveUptoCard

/-- THE SECOND FORM's CARD OF 'laws.FnExactRunThings'. -/
def fnExactRunThingsUptoCard : Claim7 := { stood := { row := fnExactRunThingsUptoRow, standIns := [], harness := (true, "737f8c923e2cf4fca191effaa259cd281eb8ed03e714fb47ef3de5b5bea4f0de"), looks := true }, kinds := [], alts := [], laidByText := true, laidKinds := [.data], laidTests := true, laidLooks := .later }
def FnExactRunThingsUptoCardSaid : Prop := Claim7.holds Tryz.pinned (.plain (OpenSpec.upto fnExactRunThingsSpec)) fnExactRunThingsUptoCard
end Rows
end Go.Proofs.YtialglmnfchfmaeGreatDoor
