/-
  DERIVED. GIVEN WITH THE SEED: THE CARDS: each row of YtkapodkidlgkjaaDoorRows.lean that lists a variable, with what it lists TIED to the program's text (the seventh form; the later family's looks); each row that meets fmt, with fmt's text TOLD by the authors' own Lean function (tested against real Go, not proved from fmt's source: count such statements apart). THE CARD IS WHAT COUNTS. Prove the row's statement (the work); the ties are given (YtkapodkidlgkjaaDoorTie.lean); close each card by the builder's one call (the guide's Derived/Test/ToyasCard.lean, 'card_holds'). Laid BY PROGRAM, IN A SANDBOX (cutbox-door.mjs). By AI agents, Wed Nov 11 2026. No macro, syntax, notation, axiom, sorry.
-/
import Derived.Test.YtkapodkidlgkjaaDoorRows
import GoSem.ClaimSeven
namespace Go.Proofs.YtkapodkidlgkjaaDoor
namespace Rows

/-- THE TIED CARD OF 'laws.FnRecBound'. -/
def fnRecBoundCard : Claim7 := { stood := { row := fnRecBoundRow, standIns := [], harness := (true, "04983850279a07eae17f5687ba5953817f439bf20fdf8adeb46d64a1adad09ea"), looks := true }, kinds := [], alts := [], laidByText := true, laidKinds := [.data], laidTests := true, laidLooks := .later }
def FnRecBoundCardSaid : Prop := Claim7.holds Tryd.pinned (.plain (OpenSpec.ofChange fnRecBoundSpec)) fnRecBoundCard

/-- THE TIED CARD OF 'laws.FnRecGo'. -/
def fnRecGoCard : Claim7 := { stood := { row := fnRecGoRow, standIns := [], harness := (true, "04983850279a07eae17f5687ba5953817f439bf20fdf8adeb46d64a1adad09ea"), looks := true }, kinds := [], alts := [], laidByText := true, laidKinds := [.data], laidTests := true, laidLooks := .later }
def FnRecGoCardSaid : Prop := Claim7.holds Tryd.pinned (.plain (OpenSpec.ofChange fnRecGoSpec)) fnRecGoCard

/-- THE TIED CARD OF 'laws.FnRecCan'. -/
def fnRecCanCard : Claim7 := { stood := { row := fnRecCanRow, standIns := [], harness := (true, "04983850279a07eae17f5687ba5953817f439bf20fdf8adeb46d64a1adad09ea"), looks := true }, kinds := [], alts := [], laidByText := true, laidKinds := [.data], laidTests := true, laidLooks := .later }
def FnRecCanCardSaid : Prop := Claim7.holds Tryd.pinned (.plain (OpenSpec.ofChange fnRecCanSpec)) fnRecCanCard

/-- THE TIED CARD OF 'laws.FnRecPhase'. -/
def fnRecPhaseCard : Claim7 := { stood := { row := fnRecPhaseRow, standIns := [], harness := (true, "04983850279a07eae17f5687ba5953817f439bf20fdf8adeb46d64a1adad09ea"), looks := true }, kinds := [], alts := [], laidByText := true, laidKinds := [.data], laidTests := true, laidLooks := .later }
def FnRecPhaseCardSaid : Prop := Claim7.holds Tryd.pinned (.plain (OpenSpec.ofChange fnRecPhaseSpec)) fnRecPhaseCard

/-- THE SECOND FORM's CARD OF 'laws.FnRecBound'. -/
def fnRecBoundUptoCard : Claim7 := { stood := { row := fnRecBoundUptoRow, standIns := [], harness := (true, "04983850279a07eae17f5687ba5953817f439bf20fdf8adeb46d64a1adad09ea"), looks := true }, kinds := [], alts := [], laidByText := true, laidKinds := [.data], laidTests := true, laidLooks := .later }
def FnRecBoundUptoCardSaid : Prop := Claim7.holds Tryd.pinned (.plain (OpenSpec.upto fnRecBoundSpec)) fnRecBoundUptoCard

/-- THE SECOND FORM's CARD OF 'laws.FnRecGo'. -/
def fnRecGoUptoCard : Claim7 := { stood := { row := fnRecGoUptoRow, standIns := [], harness := (true, "04983850279a07eae17f5687ba5953817f439bf20fdf8adeb46d64a1adad09ea"), looks := true }, kinds := [], alts := [], laidByText := true, laidKinds := [.data], laidTests := true, laidLooks := .later }
def FnRecGoUptoCardSaid : Prop := Claim7.holds Tryd.pinned (.plain (OpenSpec.upto fnRecGoSpec)) fnRecGoUptoCard

/-- THE SECOND FORM's CARD OF 'laws.FnRecCan'. -/
def fnRecCanUptoCard : Claim7 := { stood := { row := fnRecCanUptoRow, standIns := [], harness := (true, "04983850279a07eae17f5687ba5953817f439bf20fdf8adeb46d64a1adad09ea"), looks := true }, kinds := [], alts := [], laidByText := true, laidKinds := [.data], laidTests := true, laidLooks := .later }
def FnRecCanUptoCardSaid : Prop := Claim7.holds Tryd.pinned (.plain (OpenSpec.upto fnRecCanSpec)) fnRecCanUptoCard

/-- THE SECOND FORM's CARD OF 'laws.FnRecPhase'. -/
def fnRecPhaseUptoCard : Claim7 := { stood := { row := fnRecPhaseUptoRow, standIns := [], harness := (true, "04983850279a07eae17f5687ba5953817f439bf20fdf8adeb46d64a1adad09ea"), looks := true }, kinds := [], alts := [], laidByText := true, laidKinds := [.data], laidTests := true, laidLooks := .later }
def FnRecPhaseUptoCardSaid : Prop := Claim7.holds Tryd.pinned (.plain (OpenSpec.upto fnRecPhaseSpec)) fnRecPhaseUptoCard
end Rows
end Go.Proofs.YtkapodkidlgkjaaDoor
