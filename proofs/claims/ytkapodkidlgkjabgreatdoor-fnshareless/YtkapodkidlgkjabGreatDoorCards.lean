/-
  DERIVED. GIVEN WITH THE SEED: THE CARDS: each row of YtkapodkidlgkjabGreatDoorRows.lean that lists a variable, with what it lists TIED to the program's text (the seventh form; the later family's looks); each row that meets fmt, with fmt's text TOLD by the authors' own Lean function (tested against real Go, not proved from fmt's source: count such statements apart). THE CARD IS WHAT COUNTS. Prove the row's statement (the work); the ties are given (YtkapodkidlgkjabGreatDoorTie.lean); close each card by the builder's one call (the guide's Derived/Test/ToyasCard.lean, 'card_holds'). Laid BY PROGRAM, IN A SANDBOX (cutbox-door.mjs). By AI agents, Wed Nov 11 2026. No macro, syntax, notation, axiom, sorry.
-/
import Derived.Test.YtkapodkidlgkjabGreatDoorRows
import GoSem.ClaimSeven
namespace Go.Proofs.YtkapodkidlgkjabGreatDoor
namespace Rows

/-- THE TIED CARD OF 'laws.FnShareTop'. -/
def fnShareTopCard : Claim7 := { stood := { row := fnShareTopRow, standIns := [], harness := (true, "56c34783d3c2e226baccdf844c2cbd3ab550f7f3079ff704a76df6073c78027e"), looks := true }, kinds := [], alts := [], goes := true, laidByText := true, laidKinds := [.handle], laidTests := true, laidLooks := .later }
def FnShareTopCardSaid : Prop := Claim7.holds Tryz.pinned (.plain (OpenSpec.ofChange fnShareTopSpec)) fnShareTopCard

/-- THE TIED CARD OF 'laws.FnShareAsk'. -/
def fnShareAskCard : Claim7 := { stood := { row := fnShareAskRow, standIns := [], harness := (true, "56c34783d3c2e226baccdf844c2cbd3ab550f7f3079ff704a76df6073c78027e"), looks := true }, kinds := [], alts := [], goes := true, laidByText := true, laidKinds := [.handle], laidTests := true, laidLooks := .later }
def FnShareAskCardSaid : Prop := Claim7.holds Tryz.pinned (.plain (OpenSpec.ofChange fnShareAskSpec)) fnShareAskCard

/-- THE TIED CARD OF 'laws.FnShareLess'. -/
def fnShareLessCard : Claim7 := { stood := { row := fnShareLessRow, standIns := [], harness := (true, "56c34783d3c2e226baccdf844c2cbd3ab550f7f3079ff704a76df6073c78027e"), looks := true }, kinds := [], alts := [], goes := true, laidByText := true, laidKinds := [.handle], laidTests := true, laidLooks := .later }
def FnShareLessCardSaid : Prop := Claim7.holds Tryz.pinned (.plain (OpenSpec.ofChange fnShareLessSpec)) fnShareLessCard

/-- THE SECOND FORM's CARD OF 'laws.FnShareTop'. -/
def fnShareTopUptoCard : Claim7 := { stood := { row := fnShareTopUptoRow, standIns := [], harness := (true, "56c34783d3c2e226baccdf844c2cbd3ab550f7f3079ff704a76df6073c78027e"), looks := true }, kinds := [], alts := [], goes := true, laidByText := true, laidKinds := [.handle], laidTests := true, laidLooks := .later }
def FnShareTopUptoCardSaid : Prop := Claim7.holds Tryz.pinned (.plain (OpenSpec.upto fnShareTopSpec)) fnShareTopUptoCard

/-- THE SECOND FORM's CARD OF 'laws.FnShareAsk'. -/
def fnShareAskUptoCard : Claim7 := { stood := { row := fnShareAskUptoRow, standIns := [], harness := (true, "56c34783d3c2e226baccdf844c2cbd3ab550f7f3079ff704a76df6073c78027e"), looks := true }, kinds := [], alts := [], goes := true, laidByText := true, laidKinds := [.handle], laidTests := true, laidLooks := .later }
def FnShareAskUptoCardSaid : Prop := Claim7.holds Tryz.pinned (.plain (OpenSpec.upto fnShareAskSpec)) fnShareAskUptoCard

/-- THE SECOND FORM's CARD OF 'laws.FnShareLess'. -/
def fnShareLessUptoCard : Claim7 := { stood := { row := fnShareLessUptoRow, standIns := [], harness := (true, "56c34783d3c2e226baccdf844c2cbd3ab550f7f3079ff704a76df6073c78027e"), looks := true }, kinds := [], alts := [], goes := true, laidByText := true, laidKinds := [.handle], laidTests := true, laidLooks := .later }
def FnShareLessUptoCardSaid : Prop := Claim7.holds Tryz.pinned (.plain (OpenSpec.upto fnShareLessSpec)) fnShareLessUptoCard
end Rows
end Go.Proofs.YtkapodkidlgkjabGreatDoor
