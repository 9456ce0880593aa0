/-
  DERIVED. GIVEN WITH THE SEED: THE CARDS: each row of YtmfjakieahkacaaGreatDoorRows.lean that lists a variable, with what it lists TIED to the program's text (the seventh form; the later family's looks); each row that meets fmt, with fmt's text TOLD by the authors' own Lean function (tested against real Go, not proved from fmt's source: count such statements apart). THE CARD IS WHAT COUNTS. Prove the row's statement (the work); the ties are given (YtmfjakieahkacaaGreatDoorTie.lean); close each card by the builder's one call (the guide's Derived/Test/ToyasCard.lean, 'card_holds'). Laid BY PROGRAM, IN A SANDBOX (cutbox-door.mjs). By AI agents, Wed Nov 11 2026. No macro, syntax, notation, axiom, sorry.
-/
import Derived.Test.YtmfjakieahkacaaGreatDoorRows
import GoSem.ClaimSeven
namespace Go.Proofs.YtmfjakieahkacaaGreatDoor
namespace Rows

/-- THE TIED CARD OF 'laws.FnShareAsk'. -/
def fnShareAskCard : Claim7 := { stood := { row := fnShareAskRow, standIns := [], harness := (true, "f3974ebdedded4be76730c60e56240c206745ac3d4401a6ed6c2d540b2a724a9"), looks := true }, kinds := [], alts := [], goes := true, laidByText := true, laidKinds := [.handle], laidTests := true, laidLooks := .later }
def FnShareAskCardSaid : Prop := Claim7.holds Tryz.pinned (.plain (OpenSpec.ofChange fnShareAskSpec)) fnShareAskCard

/-- THE SECOND FORM's CARD OF 'laws.FnShareAsk'. -/
def fnShareAskUptoCard : Claim7 := { stood := { row := fnShareAskUptoRow, standIns := [], harness := (true, "f3974ebdedded4be76730c60e56240c206745ac3d4401a6ed6c2d540b2a724a9"), looks := true }, kinds := [], alts := [], goes := true, laidByText := true, laidKinds := [.handle], laidTests := true, laidLooks := .later }
def FnShareAskUptoCardSaid : Prop := Claim7.holds Tryz.pinned (.plain (OpenSpec.upto fnShareAskSpec)) fnShareAskUptoCard
end Rows
end Go.Proofs.YtmfjakieahkacaaGreatDoor
