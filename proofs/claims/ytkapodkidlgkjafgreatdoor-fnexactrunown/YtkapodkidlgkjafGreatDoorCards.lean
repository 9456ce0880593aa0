/-
  DERIVED. GIVEN WITH THE SEED: THE CARDS: each row of YtkapodkidlgkjafGreatDoorRows.lean that lists a variable, with what it lists TIED to the program's text (the seventh form; the later family's looks); each row that meets fmt, with fmt's text TOLD by the authors' own Lean function (tested against real Go, not proved from fmt's source: count such statements apart). THE CARD IS WHAT COUNTS. Prove the row's statement (the work); the ties are given (YtkapodkidlgkjafGreatDoorTie.lean); close each card by the builder's one call (the guide's Derived/Test/ToyasCard.lean, 'card_holds'). Laid BY PROGRAM, IN A SANDBOX (cutbox-door.mjs). By AI agents, Wed Nov 11 2026. No macro, syntax, notation, axiom, sorry.
-/
import Derived.Test.YtkapodkidlgkjafGreatDoorRows
import GoSem.ClaimSeven
namespace Go.Proofs.YtkapodkidlgkjafGreatDoor
namespace Rows

/-- THE TIED CARD OF 'laws.FnExactRunOwn'. -/
def fnExactRunOwnCard : Claim7 := { stood := { row := fnExactRunOwnRow, standIns := [], harness := (true, "7b5237bfdb0b15df2db3e98561dffc03a245090bf2110d733fafa89a03eed15d"), looks := true }, kinds := [], alts := [], laidByText := true, laidKinds := [.data], laidTests := true, laidLooks := .later }
def FnExactRunOwnCardSaid : Prop := Claim7.holds Tryz.pinned (.plain (OpenSpec.ofChange fnExactRunOwnSpec)) fnExactRunOwnCard

/-- THE TIED CARD OF 'laws.FnExactRunHouseOk'. -/
def fnExactRunHouseOkCard : Claim7 := { stood := { row := fnExactRunHouseOkRow, standIns := [], harness := (true, "7b5237bfdb0b15df2db3e98561dffc03a245090bf2110d733fafa89a03eed15d"), looks := true }, kinds := [], alts := [], laidByText := true, laidKinds := [.data], laidTests := true, laidLooks := .later }
def FnExactRunHouseOkCardSaid : Prop := Claim7.holds Tryz.pinned (.plain (OpenSpec.ofChange fnExactRunHouseOkSpec)) fnExactRunHouseOkCard

/-- THE TIED CARD OF 'laws.FnExactRunLeft'. -/
def fnExactRunLeftCard : Claim7 := { stood := { row := fnExactRunLeftRow, standIns := [], harness := (true, "7b5237bfdb0b15df2db3e98561dffc03a245090bf2110d733fafa89a03eed15d"), looks := true }, kinds := [], alts := [], laidByText := true, laidKinds := [.data], laidTests := true, laidLooks := .later }
def FnExactRunLeftCardSaid : Prop := Claim7.holds Tryz.pinned (.plain (OpenSpec.ofChange fnExactRunLeftSpec)) fnExactRunLeftCard

/-- THE TIED CARD OF 'laws.FnExactRunStart'. -/
def fnExactRunStartCard : Claim7 := { stood := { row := fnExactRunStartRow, standIns := [], harness := (true, "7b5237bfdb0b15df2db3e98561dffc03a245090bf2110d733fafa89a03eed15d"), looks := true }, kinds := [], alts := [], laidByText := true, laidKinds := [.handle, .data], laidTests := true, laidLooks := .later }
def FnExactRunStartCardSaid : Prop := Claim7.holds Tryz.pinned (.plain (OpenSpec.ofChange fnExactRunStartSpec)) fnExactRunStartCard

/-- THE SECOND FORM's CARD OF 'laws.FnExactRunOwn'. -/
def fnExactRunOwnUptoCard : Claim7 := { stood := { row := fnExactRunOwnUptoRow, standIns := [], harness := (true, "7b5237bfdb0b15df2db3e98561dffc03a245090bf2110d733fafa89a03eed15d"), looks := true }, kinds := [], alts := [], laidByText := true, laidKinds := [.data], laidTests := true, laidLooks := .later }
def FnExactRunOwnUptoCardSaid : Prop := Claim7.holds Tryz.pinned (.plain (OpenSpec.upto fnExactRunOwnSpec)) fnExactRunOwnUptoCard

/-- THE SECOND FORM's CARD OF 'laws.FnExactRunHouseOk'. -/
def fnExactRunHouseOkUptoCard : Claim7 := { stood := { row := fnExactRunHouseOkUptoRow, standIns := [], harness := (true, "7b5237bfdb0b15df2db3e98561dffc03a245090bf2110d733fafa89a03eed15d"), looks := true }, kinds := [], alts := [], laidByText := true, laidKinds := [.data], laidTests := true, laidLooks := .later }
def FnExactRunHouseOkUptoCardSaid : Prop := Claim7.holds Tryz.pinned (.plain (OpenSpec.upto fnExactRunHouseOkSpec)) fnExactRunHouseOkUptoCard

/-- THE SECOND FORM's CARD OF 'laws.FnExactRunLeft'. -/
def fnExactRunLeftUptoCard : Claim7 := { stood := { row := fnExactRunLeftUptoRow, standIns := [], harness := (true, "7b5237bfdb0b15df2db3e98561dffc03a245090bf2110d733fafa89a03eed15d"), looks := true }, kinds := [], alts := [], laidByText := true, laidKinds := [.data], laidTests := true, laidLooks := .later }
def FnExactRunLeftUptoCardSaid : Prop := Claim7.holds Tryz.pinned (.plain (OpenSpec.upto fnExactRunLeftSpec)) fnExactRunLeftUptoCard

/-- THE SECOND FORM's CARD OF 'laws.FnExactRunStart'. -/
def fnExactRunStartUptoCard : Claim7 := { stood := { row := fnExactRunStartUptoRow, standIns := [], harness := (true, "7b5237bfdb0b15df2db3e98561dffc03a245090bf2110d733fafa89a03eed15d"), looks := true }, kinds := [], alts := [], laidByText := true, laidKinds := [.handle, .data], laidTests := true, laidLooks := .later }
def FnExactRunStartUptoCardSaid : Prop := Claim7.holds Tryz.pinned (.plain (OpenSpec.upto fnExactRunStartSpec)) fnExactRunStartUptoCard
end Rows
end Go.Proofs.YtkapodkidlgkjafGreatDoor
