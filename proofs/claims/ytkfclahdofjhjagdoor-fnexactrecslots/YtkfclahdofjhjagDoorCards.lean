/-
  DERIVED. GIVEN WITH THE SEED: THE CARDS: each row of YtkfclahdofjhjagDoorRows.lean that lists a variable, with what it lists TIED to the program's text (the seventh form; the later family's looks); each row that meets fmt, with fmt's text TOLD by the authors' own Lean function (tested against real Go, not proved from fmt's source: count such statements apart). THE CARD IS WHAT COUNTS. Prove the row's statement (the work); the ties are given (YtkfclahdofjhjagDoorTie.lean); close each card by the builder's one call (the guide's Derived/Test/ToyasCard.lean, 'card_holds'). Laid BY PROGRAM, IN A SANDBOX (cutbox-door.mjs). By AI agents, Wed Nov 11 2026. No macro, syntax, notation, axiom, sorry.
-/
import Derived.Test.YtkfclahdofjhjagDoorRows
import GoSem.ClaimSeven
namespace Go.Proofs.YtkfclahdofjhjagDoor
namespace Rows

/-- THE TIED CARD OF 'laws.FnExactRecOk'. -/
def fnExactRecOkCard : Claim7 := { stood := { row := fnExactRecOkRow, standIns := [], harness := (true, "5c6086a8307587e819aab0fcc613f92ee7fe98319ba8f62d20014d69e2a5bc1d"), looks := true }, kinds := [], alts := [], laidByText := true, laidKinds := [.data], laidTests := true, laidLooks := .later }
def FnExactRecOkCardSaid : Prop := Claim7.holds Tryd.pinned (.plain (OpenSpec.ofChange fnExactRecOkSpec)) fnExactRecOkCard

/-- THE TIED CARD OF 'laws.FnExactRecSlots'. -/
def fnExactRecSlotsCard : Claim7 := { stood := { row := fnExactRecSlotsRow, standIns := [], harness := (true, "5c6086a8307587e819aab0fcc613f92ee7fe98319ba8f62d20014d69e2a5bc1d"), looks := true }, kinds := [], alts := [], laidByText := true, laidKinds := [.data], laidTests := true, laidLooks := .later }
def FnExactRecSlotsCardSaid : Prop := Claim7.holds Tryd.pinned (.plain (OpenSpec.ofChange fnExactRecSlotsSpec)) fnExactRecSlotsCard

/-- THE TIED CARD OF 'laws.FnExactRecBound'. -/
def fnExactRecBoundCard : Claim7 := { stood := { row := fnExactRecBoundRow, standIns := [], harness := (true, "5c6086a8307587e819aab0fcc613f92ee7fe98319ba8f62d20014d69e2a5bc1d"), looks := true }, kinds := [], alts := [], laidByText := true, laidKinds := [.data], laidTests := true, laidLooks := .later }
def FnExactRecBoundCardSaid : Prop := Claim7.holds Tryd.pinned (.plain (OpenSpec.ofChange fnExactRecBoundSpec)) fnExactRecBoundCard

/-- THE SECOND FORM's CARD OF 'laws.FnExactRecOk'. -/
def fnExactRecOkUptoCard : Claim7 := { stood := { row := fnExactRecOkUptoRow, standIns := [], harness := (true, "5c6086a8307587e819aab0fcc613f92ee7fe98319ba8f62d20014d69e2a5bc1d"), looks := true }, kinds := [], alts := [], laidByText := true, laidKinds := [.data], laidTests := true, laidLooks := .later }
def FnExactRecOkUptoCardSaid : Prop := Claim7.holds Tryd.pinned (.plain (OpenSpec.upto fnExactRecOkSpec)) fnExactRecOkUptoCard

/-- THE SECOND FORM's CARD OF 'laws.FnExactRecSlots'. -/
def fnExactRecSlotsUptoCard : Claim7 := { stood := { row := fnExactRecSlotsUptoRow, standIns := [], harness := (true, "5c6086a8307587e819aab0fcc613f92ee7fe98319ba8f62d20014d69e2a5bc1d"), looks := true }, kinds := [], alts := [], laidByText := true, laidKinds := [.data], laidTests := true, laidLooks := .later }
def FnExactRecSlotsUptoCardSaid : Prop := Claim7.holds Tryd.pinned (.plain (OpenSpec.upto fnExactRecSlotsSpec)) fnExactRecSlotsUptoCard

/-- THE SECOND FORM's CARD OF 'laws.FnExactRecBound'. -/
def fnExactRecBoundUptoCard : Claim7 := { stood := { row := fnExactRecBoundUptoRow, standIns := [], harness := (true, "5c6086a8307587e819aab0fcc613f92ee7fe98319ba8f62d20014d69e2a5bc1d"), looks := true }, kinds := [], alts := [], laidByText := true, laidKinds := [.data], laidTests := true, laidLooks := .later }
def FnExactRecBoundUptoCardSaid : Prop := Claim7.holds Tryd.pinned (.plain (OpenSpec.upto fnExactRecBoundSpec)) fnExactRecBoundUptoCard
end Rows
end Go.Proofs.YtkfclahdofjhjagDoor
