/-
  DERIVED. GIVEN WITH THE SEED: THE CARDS: each row of YtialglmnfchfmadGreatDoorRows.lean that lists a variable, with what it lists TIED to the program's text (the seventh form; the later family's looks); each row that meets fmt, with fmt's text TOLD by the authors' own Lean function (tested against real Go, not proved from fmt's source: count such statements apart). THE CARD IS WHAT COUNTS. Prove the row's statement (the work); the ties are given (YtialglmnfchfmadGreatDoorTie.lean); close each card by the builder's one call (the guide's Derived/Test/ToyasCard.lean, 'card_holds'). Laid BY PROGRAM, IN A SANDBOX (cutbox-door.mjs). By AI agents, Wed Nov 11 2026. No macro, syntax, notation, axiom, sorry.
-/
import Derived.Test.YtialglmnfchfmadGreatDoorRows
import GoSem.ClaimSeven
namespace Go.Proofs.YtialglmnfchfmadGreatDoor
namespace Rows

/-- THE TIED CARD OF 'laws.FnExactShareEnter'. -/
def fnExactShareEnterCard : Claim7 := { stood := { row := fnExactShareEnterRow, standIns := [], harness := (true, "35502afa2f41ee54f88d036d1858d7d1215e0793c61db77ec7e8a23330625050"), looks := true }, kinds := [], alts := [], laidByText := true, laidKinds := [.handle], laidTests := true, laidLooks := .later }
def FnExactShareEnterCardSaid : Prop := Claim7.holds Tryz.pinned (.plain (OpenSpec.ofChange fnExactShareEnterSpec)) fnExactShareEnterCard

/-- THE TIED CARD OF 'laws.FnExactShareAsk'. -/
def fnExactShareAskCard : Claim7 := { stood := { row := fnExactShareAskRow, standIns := [], harness := (true, "35502afa2f41ee54f88d036d1858d7d1215e0793c61db77ec7e8a23330625050"), looks := true }, kinds := [], alts := [], laidByText := true, laidKinds := [.handle], laidTests := true, laidLooks := .later }
def FnExactShareAskCardSaid : Prop := Claim7.holds Tryz.pinned (.plain (OpenSpec.ofChange fnExactShareAskSpec)) fnExactShareAskCard

/-- THE SECOND FORM's CARD OF 'laws.FnExactShareEnter'. -/
def fnExactShareEnterUptoCard : Claim7 := { stood := { row := fnExactShareEnterUptoRow, standIns := [], harness := (true, "35502afa2f41ee54f88d036d1858d7d1215e0793c61db77ec7e8a23330625050"), looks := true }, kinds := [], alts := [], laidByText := true, laidKinds := [.handle], laidTests := true, laidLooks := .later }
def FnExactShareEnterUptoCardSaid : Prop := Claim7.holds Tryz.pinned (.plain (OpenSpec.upto fnExactShareEnterSpec)) fnExactShareEnterUptoCard

/-- THE SECOND FORM's CARD OF 'laws.FnExactShareAsk'. -/
def fnExactShareAskUptoCard : Claim7 := { stood := { row := fnExactShareAskUptoRow, standIns := [], harness := (true, "35502afa2f41ee54f88d036d1858d7d1215e0793c61db77ec7e8a23330625050"), looks := true }, kinds := [], alts := [], laidByText := true, laidKinds := [.handle], laidTests := true, laidLooks := .later }
def FnExactShareAskUptoCardSaid : Prop := Claim7.holds Tryz.pinned (.plain (OpenSpec.upto fnExactShareAskSpec)) fnExactShareAskUptoCard
end Rows
end Go.Proofs.YtialglmnfchfmadGreatDoor
