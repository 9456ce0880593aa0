/-
  DERIVED. GIVEN WITH THE SEED: THE CARDS: each row of YtebfdccbmmpceaaGreatDoorRows.lean that lists a variable, with what it lists TIED to the program's text (the seventh form; the later family's looks); each row that meets fmt, with fmt's text TOLD by the authors' own Lean function (tested against real Go, not proved from fmt's source: count such statements apart). THE CARD IS WHAT COUNTS. Prove the row's statement (the work); the ties are given (YtebfdccbmmpceaaGreatDoorTie.lean); close each card by the builder's one call (the guide's Derived/Test/ToyasCard.lean, 'card_holds'). Laid BY PROGRAM, IN A SANDBOX (cutbox-door.mjs). By AI agents, Wed Nov 11 2026. No macro, syntax, notation, axiom, sorry.
-/
import Derived.Test.YtebfdccbmmpceaaGreatDoorRows
import GoSem.ClaimSeven
namespace Go.Proofs.YtebfdccbmmpceaaGreatDoor
namespace Rows

/-- THE TIED CARD OF 'laws.FnExactRunTick'. -/
def fnExactRunTickCard : Claim7 := { stood := { row := fnExactRunTickRow, standIns := [], harness := (true, "7440f2e308332b6c7690ed54b9ab14968f75d0bb5cb39a8b9c0cfe166d359647"), looks := true }, kinds := [], alts := [], laidByText := true, laidKinds := [.handle, .data], laidTests := true, laidLooks := .later }
def FnExactRunTickCardSaid : Prop := Claim7.holds Tryz.pinned (.plain (OpenSpec.ofChange fnExactRunTickSpec)) fnExactRunTickCard

/-- THE SECOND FORM's CARD OF 'laws.FnExactRunTick'. -/
def fnExactRunTickUptoCard : Claim7 := { stood := { row := fnExactRunTickUptoRow, standIns := [], harness := (true, "7440f2e308332b6c7690ed54b9ab14968f75d0bb5cb39a8b9c0cfe166d359647"), looks := true }, kinds := [], alts := [], laidByText := true, laidKinds := [.handle, .data], laidTests := true, laidLooks := .later }
def FnExactRunTickUptoCardSaid : Prop := Claim7.holds Tryz.pinned (.plain (OpenSpec.upto fnExactRunTickSpec)) fnExactRunTickUptoCard
end Rows
end Go.Proofs.YtebfdccbmmpceaaGreatDoor
