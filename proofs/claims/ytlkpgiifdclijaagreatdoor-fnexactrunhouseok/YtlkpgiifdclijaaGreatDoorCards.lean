/-
  DERIVED. GIVEN WITH THE SEED: THE CARDS: each row of YtlkpgiifdclijaaGreatDoorRows.lean that lists a variable, with what it lists TIED to the program's text (the seventh form; the later family's looks); each row that meets fmt, with fmt's text TOLD by the authors' own Lean function (tested against real Go, not proved from fmt's source: count such statements apart). THE CARD IS WHAT COUNTS. Prove the row's statement (the work); the ties are given (YtlkpgiifdclijaaGreatDoorTie.lean); close each card by the builder's one call (the guide's Derived/Test/ToyasCard.lean, 'card_holds'). Laid BY PROGRAM, IN A SANDBOX (cutbox-door.mjs). By AI agents, Wed Nov 11 2026. No macro, syntax, notation, axiom, sorry.
-/
import Derived.Test.YtlkpgiifdclijaaGreatDoorRows
import GoSem.ClaimSeven
namespace Go.Proofs.YtlkpgiifdclijaaGreatDoor
namespace Rows

/-- THE TIED CARD OF 'laws.FnExactRunHouseOk'. -/
def fnExactRunHouseOkCard : Claim7 := { stood := { row := fnExactRunHouseOkRow, standIns := [], harness := (true, "489efe027df8fd7b20df22d8c1a8111128ff6f90ea96d5cba62ea75447822c18"), looks := true }, kinds := [], alts := [], laidByText := true, laidKinds := [.data], laidTests := true, laidLooks := .later }
def FnExactRunHouseOkCardSaid : Prop := Claim7.holds Tryz.pinned (.plain (OpenSpec.ofChange fnExactRunHouseOkSpec)) fnExactRunHouseOkCard

/-- THE TIED CARD OF 'laws.FnExactRunLeft'. -/
def fnExactRunLeftCard : Claim7 := { stood := { row := fnExactRunLeftRow, standIns := [], harness := (true, "489efe027df8fd7b20df22d8c1a8111128ff6f90ea96d5cba62ea75447822c18"), looks := true }, kinds := [], alts := [], laidByText := true, laidKinds := [.data], laidTests := true, laidLooks := .later }
def FnExactRunLeftCardSaid : Prop := Claim7.holds Tryz.pinned (.plain (OpenSpec.ofChange fnExactRunLeftSpec)) fnExactRunLeftCard

/-- THE SECOND FORM's CARD OF 'laws.FnExactRunHouseOk'. -/
def fnExactRunHouseOkUptoCard : Claim7 := { stood := { row := fnExactRunHouseOkUptoRow, standIns := [], harness := (true, "489efe027df8fd7b20df22d8c1a8111128ff6f90ea96d5cba62ea75447822c18"), looks := true }, kinds := [], alts := [], laidByText := true, laidKinds := [.data], laidTests := true, laidLooks := .later }
def FnExactRunHouseOkUptoCardSaid : Prop := Claim7.holds Tryz.pinned (.plain (OpenSpec.upto fnExactRunHouseOkSpec)) fnExactRunHouseOkUptoCard

/-- THE SECOND FORM's CARD OF 'laws.FnExactRunLeft'. -/
def fnExactRunLeftUptoCard : Claim7 := { stood := { row := fnExactRunLeftUptoRow, standIns := [], harness := (true, "489efe027df8fd7b20df22d8c1a8111128ff6f90ea96d5cba62ea75447822c18"), looks := true }, kinds := [], alts := [], laidByText := true, laidKinds := [.data], laidTests := true, laidLooks := .later }
def FnExactRunLeftUptoCardSaid : Prop := Claim7.holds Tryz.pinned (.plain (OpenSpec.upto fnExactRunLeftSpec)) fnExactRunLeftUptoCard
end Rows
end Go.Proofs.YtlkpgiifdclijaaGreatDoor
