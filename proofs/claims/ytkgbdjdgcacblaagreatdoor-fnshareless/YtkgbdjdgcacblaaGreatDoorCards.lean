/-
  DERIVED. GIVEN WITH THE SEED: THE CARDS: each row of YtkgbdjdgcacblaaGreatDoorRows.lean that lists a variable, with what it lists TIED to the program's text (the seventh form; the later family's looks); each row that meets fmt, with fmt's text TOLD by the authors' own Lean function (tested against real Go, not proved from fmt's source: count such statements apart). THE CARD IS WHAT COUNTS. Prove the row's statement (the work); the ties are given (YtkgbdjdgcacblaaGreatDoorTie.lean); close each card by the builder's one call (the guide's Derived/Test/ToyasCard.lean, 'card_holds'). Laid BY PROGRAM, IN A SANDBOX (cutbox-door.mjs). By AI agents, Wed Nov 11 2026. No macro, syntax, notation, axiom, sorry.
-/
import Derived.Test.YtkgbdjdgcacblaaGreatDoorRows
import GoSem.ClaimSeven
namespace Go.Proofs.YtkgbdjdgcacblaaGreatDoor
namespace Rows

/-- THE TIED CARD OF 'laws.FnShareLess'. -/
def fnShareLessCard : Claim7 := { stood := { row := fnShareLessRow, standIns := [], harness := (true, "b5bb979f7d83e0dd287540750c436b4de06c2a5d240c6a9c1e8759dff823a8a2"), looks := true }, kinds := [], alts := [], laidByText := true, laidKinds := [.handle], laidTests := true, laidLooks := .later }
def FnShareLessCardSaid : Prop := Claim7.holds Tryz.pinned (.plain (OpenSpec.ofChange fnShareLessSpec)) fnShareLessCard

/-- THE SECOND FORM's CARD OF 'laws.FnShareLess'. -/
def fnShareLessUptoCard : Claim7 := { stood := { row := fnShareLessUptoRow, standIns := [], harness := (true, "b5bb979f7d83e0dd287540750c436b4de06c2a5d240c6a9c1e8759dff823a8a2"), looks := true }, kinds := [], alts := [], laidByText := true, laidKinds := [.handle], laidTests := true, laidLooks := .later }
def FnShareLessUptoCardSaid : Prop := Claim7.holds Tryz.pinned (.plain (OpenSpec.upto fnShareLessSpec)) fnShareLessUptoCard
end Rows
end Go.Proofs.YtkgbdjdgcacblaaGreatDoor
