/- A world for the witness in which the tables lie. -/
import Derived.Test.YtkfclahdofjhjahDoorLayP
namespace Go.Proofs.YtkfclahdofjhjahDoor
open Go.ChangeShapes Go.WideShapes Go.ChangeAt Go.RowKit

theorem two_vars {H : Type} {enc : TypeId × Value → H} {W : World} {sp : Nat → Bool} {n m : String} {gs : List (DataW H)} {q : List MemPlace} (h : DataW.TrodVars enc Tryd.prog W sp [n, m] gs q) : ∃ g1 g2, gs = [g1, g2] := by
  match gs, h with
  | [], h => exact h.elim
  | [_], ⟨_, _, _, _, _, _, _, _, _, _, h, _⟩ => exact h.elim
  | [g1, g2], _ => exact ⟨g1, g2, rfl⟩
  | _ :: _ :: _ :: _, ⟨_, _, _, _, _, _, _, _, _, _, ⟨_, _, _, _, _, _, _, _, _, _, h, _⟩, _⟩ => exact h.elim
/-- The cells of a table that is listed. -/
def cellsD (d : DataW Unit) : Array Value := match d with
  | .agg l => (l.map fun
    | .lit (.int k z) => Value.int k z
    | .lit (.string s) => Value.string ⟨s.toArray⟩
    | _ => .bool false).toArray
  | _ => #[]
def layAt (h : Array Obj) (g : Nat) (cs : Array Value) : Array Obj := h.modify g fun
  | .cells _ t frozen => .cells cs t frozen
  | o => o
noncomputable def laidWorldP (os : Os) : World :=
  { World.holding Tryd.prog os ⟨#[], #[], []⟩ with heap := layAt (layAt (layAt (layAt (layAt (World.holding Tryd.prog os ⟨#[], #[], []⟩).heap 0 cells3) 1 cells6) 3 (cellsD Rows.laid_internal_strconv_uint64pow10)) 4 (cellsD Rows.laid_math_bits_deBruijn32tab)) 5 (cellsD Rows.laid_math_bits_deBruijn64tab) }
def rowP (g n : Nat) : List MemPlace := (List.range n).map fun i => MemPlace.cell g i
theorem laid_metP (os : Os) (args : Array Value) : laidMet Tryd.prog Rows.fnExactRecPrintRow.laid ((laidWorldP os).forCall (fun _ _ => 0) ⟨#[], args, []⟩).memory :=
  laidMet_of_run (ps := rowP 4 32 ++ rowP 5 64 ++ rowP 3 20 ++ rowP 0 3 ++ rowP 1 6) 8 (by kernel_rfl) (by kernel_rfl) (by kernel_rfl)
end Go.Proofs.YtkfclahdofjhjahDoor
