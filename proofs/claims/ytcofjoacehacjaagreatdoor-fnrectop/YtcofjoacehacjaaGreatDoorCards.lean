/-
  DERIVED. GIVEN WITH THE SEED: THE CARDS: each row of YtcofjoacehacjaaGreatDoorRows.lean that lists a variable, with what it lists TIED to the program's text (the seventh form; the later family's looks); each row that meets fmt, with fmt's text TOLD by the authors' own Lean function (tested against real Go, not proved from fmt's source: count such statements apart). THE CARD IS WHAT COUNTS. Prove the row's statement (the work); the ties are given (YtcofjoacehacjaaGreatDoorTie.lean); close each card by the builder's one call (the guide's Derived/Test/ToyasCard.lean, 'card_holds'). Laid BY PROGRAM, IN A SANDBOX (cutbox-door.mjs). By AI agents, Wed Nov 11 2026. No macro, syntax, notation, axiom, sorry.
-/
import Derived.Test.YtcofjoacehacjaaGreatDoorRows
import GoSem.ClaimSeven
namespace Go.Proofs.YtcofjoacehacjaaGreatDoor
namespace Rows

/-- THE TIED CARD OF 'laws.FnRecTop'. -/
def fnRecTopCard : Claim7 := { stood := { row := fnRecTopRow, standIns := [], harness := (true, "453547dab565c3ef10acde850d660aed1fe40fcfbac0e268e66aac8b463dbfe1"), looks := true }, kinds := [], alts := [], laidByText := true, laidKinds := [.data], laidTests := true, laidLooks := .later }
def FnRecTopCardSaid : Prop := Claim7.holds Tryz.pinned (.plain (OpenSpec.ofChange fnRecTopSpec)) fnRecTopCard

/-- THE SECOND FORM's CARD OF 'laws.FnRecTop'. -/
def fnRecTopUptoCard : Claim7 := { stood := { row := fnRecTopUptoRow, standIns := [], harness := (true, "453547dab565c3ef10acde850d660aed1fe40fcfbac0e268e66aac8b463dbfe1"), looks := true }, kinds := [], alts := [], laidByText := true, laidKinds := [.data], laidTests := true, laidLooks := .later }
def FnRecTopUptoCardSaid : Prop := Claim7.holds Tryz.pinned (.plain (OpenSpec.upto fnRecTopSpec)) fnRecTopUptoCard
end Rows
end Go.Proofs.YtcofjoacehacjaaGreatDoor
