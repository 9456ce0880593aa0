/-
  DERIVED. GIVEN WITH THE SEED: THE CARDS: each row of YtkapodkidlgkjahDoorRows.lean that lists a variable, with what it lists TIED to the program's text (the seventh form; the later family's looks); each row that meets fmt, with fmt's text TOLD by the authors' own Lean function (tested against real Go, not proved from fmt's source: count such statements apart). THE CARD IS WHAT COUNTS. Prove the row's statement (the work); the ties are given (YtkapodkidlgkjahDoorTie.lean); close each card by the builder's one call (the guide's Derived/Test/ToyasCard.lean, 'card_holds'). Laid BY PROGRAM, IN A SANDBOX (cutbox-door.mjs). By AI agents, Wed Nov 11 2026. No macro, syntax, notation, axiom, sorry.
-/
import Derived.Test.YtkapodkidlgkjahDoorRows
import GoSem.ClaimSeven
namespace Go.Proofs.YtkapodkidlgkjahDoor
namespace Rows

/-- THE TIED CARD OF 'laws.FnExactRecCan'. -/
def fnExactRecCanCard : Claim7 := { stood := { row := fnExactRecCanRow, standIns := [], harness := (true, "e53b8e53ec93c32c853d90e9020d22d678c2c877b9bfa61235d6b4fd75dd8d58"), looks := true }, kinds := [], alts := [], laidByText := true, laidKinds := [.data], laidTests := true, laidLooks := .later }
def FnExactRecCanCardSaid : Prop := Claim7.holds Tryd.pinned (.plain (OpenSpec.ofChange fnExactRecCanSpec)) fnExactRecCanCard

/-- THE TIED CARD OF 'laws.FnExactRecPrint'. -/
def fnExactRecPrintCard : Claim7 := { stood := { row := fnExactRecPrintRow, standIns := [], harness := (true, "e53b8e53ec93c32c853d90e9020d22d678c2c877b9bfa61235d6b4fd75dd8d58"), looks := true }, kinds := [], alts := [], laidByText := true, laidKinds := [.data, .data, .data, .data, .data], laidTests := true, laidLooks := .later }
def FnExactRecPrintCardSaid : Prop := Claim7.holds Tryd.pinned (.plain (OpenSpec.ofChange fnExactRecPrintSpec)) fnExactRecPrintCard

/-- THE TIED CARD OF 'laws.FnExactRecBegin'. -/
def fnExactRecBeginCard : Claim7 := { stood := { row := fnExactRecBeginRow, standIns := [], harness := (true, "e53b8e53ec93c32c853d90e9020d22d678c2c877b9bfa61235d6b4fd75dd8d58"), looks := true }, kinds := [], alts := [], laidByText := true, laidKinds := [.data], laidTests := true, laidLooks := .later }
def FnExactRecBeginCardSaid : Prop := Claim7.holds Tryd.pinned (.plain (OpenSpec.ofChange fnExactRecBeginSpec)) fnExactRecBeginCard

/-- THE TIED CARD OF 'laws.FnExactRecGo'. -/
def fnExactRecGoCard : Claim7 := { stood := { row := fnExactRecGoRow, standIns := [], harness := (true, "e53b8e53ec93c32c853d90e9020d22d678c2c877b9bfa61235d6b4fd75dd8d58"), looks := true }, kinds := [], alts := [], laidByText := true, laidKinds := [.data], laidTests := true, laidLooks := .later }
def FnExactRecGoCardSaid : Prop := Claim7.holds Tryd.pinned (.plain (OpenSpec.ofChange fnExactRecGoSpec)) fnExactRecGoCard

/-- THE TIED CARD OF 'laws.FnExactRecRun'. -/
def fnExactRecRunCard : Claim7 := { stood := { row := fnExactRecRunRow, standIns := [], harness := (true, "e53b8e53ec93c32c853d90e9020d22d678c2c877b9bfa61235d6b4fd75dd8d58"), looks := true }, kinds := [], alts := [], laidByText := true, laidKinds := [.data], laidTests := true, laidLooks := .later }
def FnExactRecRunCardSaid : Prop := Claim7.holds Tryd.pinned (.plain (OpenSpec.ofChange fnExactRecRunSpec)) fnExactRecRunCard

/-- THE SECOND FORM's CARD OF 'laws.FnExactRecCan'. -/
def fnExactRecCanUptoCard : Claim7 := { stood := { row := fnExactRecCanUptoRow, standIns := [], harness := (true, "e53b8e53ec93c32c853d90e9020d22d678c2c877b9bfa61235d6b4fd75dd8d58"), looks := true }, kinds := [], alts := [], laidByText := true, laidKinds := [.data], laidTests := true, laidLooks := .later }
def FnExactRecCanUptoCardSaid : Prop := Claim7.holds Tryd.pinned (.plain (OpenSpec.upto fnExactRecCanSpec)) fnExactRecCanUptoCard

/-- THE SECOND FORM's CARD OF 'laws.FnExactRecPrint'. -/
def fnExactRecPrintUptoCard : Claim7 := { stood := { row := fnExactRecPrintUptoRow, standIns := [], harness := (true, "e53b8e53ec93c32c853d90e9020d22d678c2c877b9bfa61235d6b4fd75dd8d58"), looks := true }, kinds := [], alts := [], laidByText := true, laidKinds := [.data, .data, .data, .data, .data], laidTests := true, laidLooks := .later }
def FnExactRecPrintUptoCardSaid : Prop := Claim7.holds Tryd.pinned (.plain (OpenSpec.upto fnExactRecPrintSpec)) fnExactRecPrintUptoCard

/-- THE SECOND FORM's CARD OF 'laws.FnExactRecBegin'. -/
def fnExactRecBeginUptoCard : Claim7 := { stood := { row := fnExactRecBeginUptoRow, standIns := [], harness := (true, "e53b8e53ec93c32c853d90e9020d22d678c2c877b9bfa61235d6b4fd75dd8d58"), looks := true }, kinds := [], alts := [], laidByText := true, laidKinds := [.data], laidTests := true, laidLooks := .later }
def FnExactRecBeginUptoCardSaid : Prop := Claim7.holds Tryd.pinned (.plain (OpenSpec.upto fnExactRecBeginSpec)) fnExactRecBeginUptoCard

/-- THE SECOND FORM's CARD OF 'laws.FnExactRecGo'. -/
def fnExactRecGoUptoCard : Claim7 := { stood := { row := fnExactRecGoUptoRow, standIns := [], harness := (true, "e53b8e53ec93c32c853d90e9020d22d678c2c877b9bfa61235d6b4fd75dd8d58"), looks := true }, kinds := [], alts := [], laidByText := true, laidKinds := [.data], laidTests := true, laidLooks := .later }
def FnExactRecGoUptoCardSaid : Prop := Claim7.holds Tryd.pinned (.plain (OpenSpec.upto fnExactRecGoSpec)) fnExactRecGoUptoCard

/-- THE SECOND FORM's CARD OF 'laws.FnExactRecRun'. -/
def fnExactRecRunUptoCard : Claim7 := { stood := { row := fnExactRecRunUptoRow, standIns := [], harness := (true, "e53b8e53ec93c32c853d90e9020d22d678c2c877b9bfa61235d6b4fd75dd8d58"), looks := true }, kinds := [], alts := [], laidByText := true, laidKinds := [.data], laidTests := true, laidLooks := .later }
def FnExactRecRunUptoCardSaid : Prop := Claim7.holds Tryd.pinned (.plain (OpenSpec.upto fnExactRecRunSpec)) fnExactRecRunUptoCard
end Rows
end Go.Proofs.YtkapodkidlgkjahDoor
