/-
  DERIVED. GIVEN WITH THE SEED: THE CARDS: each row of YtcgkgmmclfeohaaGreatDoorRows.lean that lists a variable, with what it lists TIED to the program's text (the seventh form; the later family's looks); each row that meets fmt, with fmt's text TOLD by the authors' own Lean function (tested against real Go, not proved from fmt's source: count such statements apart). THE CARD IS WHAT COUNTS. Prove the row's statement (the work); the ties are given (YtcgkgmmclfeohaaGreatDoorTie.lean); close each card by the builder's one call (the guide's Derived/Test/ToyasCard.lean, 'card_holds'). Laid BY PROGRAM, IN A SANDBOX (cutbox-door.mjs). By AI agents, Wed Nov 11 2026. No macro, syntax, notation, axiom, sorry.
-/
import Derived.Test.YtcgkgmmclfeohaaGreatDoorRows
import GoSem.ClaimSeven
namespace Go.Proofs.YtcgkgmmclfeohaaGreatDoor
namespace Rows

/-- THE TIED CARD OF 'laws.FnShareTop'. -/
def fnShareTopCard : Claim7 := { stood := { row := fnShareTopRow, standIns := [], harness := (true, "d0e34719c3764ba83733d049e48f4d91ec4b71d09975db4231324ce49e59c513"), looks := true }, kinds := [], alts := [], goes := true, laidByText := true, laidKinds := [.handle], laidTests := true, laidLooks := .later }
def FnShareTopCardSaid : Prop := Claim7.holds Tryz.pinned (.plain (OpenSpec.ofChange fnShareTopSpec)) fnShareTopCard

/-- THE SECOND FORM's CARD OF 'laws.FnShareTop'. -/
def fnShareTopUptoCard : Claim7 := { stood := { row := fnShareTopUptoRow, standIns := [], harness := (true, "d0e34719c3764ba83733d049e48f4d91ec4b71d09975db4231324ce49e59c513"), looks := true }, kinds := [], alts := [], goes := true, laidByText := true, laidKinds := [.handle], laidTests := true, laidLooks := .later }
def FnShareTopUptoCardSaid : Prop := Claim7.holds Tryz.pinned (.plain (OpenSpec.upto fnShareTopSpec)) fnShareTopUptoCard
end Rows
end Go.Proofs.YtcgkgmmclfeohaaGreatDoor
