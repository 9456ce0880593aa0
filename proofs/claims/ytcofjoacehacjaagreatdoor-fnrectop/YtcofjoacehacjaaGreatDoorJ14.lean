/- The walks over the program's table of the instance int. -/
import Derived.Test.YtcofjoacehacjaaGreatDoorWa
import Derived.Test.YtcofjoacehacjaaGreatDoorPt
import Derived.Deep.RegionHeld
import Derived.Test.YtcofjoacehacjaaGreatDoorJ0
namespace Go.Proofs.YtcofjoacehacjaaGreatDoor
open Go.RowKit

def rowBI : List (ByteArray × Int) → List Value
  | [] => []
  | r :: rest => .string r.1 :: .int .i64 (r.2) :: rowBI rest
theorem rowBI_append (a b : List (ByteArray × Int)) : rowBI (a ++ b) = rowBI a ++ rowBI b := by
  induction a with
  | nil => rfl
  | cons r rest ih => simp [rowBI, ih]
theorem rowBI_length (a : List (ByteArray × Int)) : (rowBI a).length = a.length * 2 := by
  induction a with
  | nil => rfl
  | cons r rest ih => simp [rowBI, ih]; omega
theorem rowBI_at : ∀ (a : List (ByteArray × Int)) (i : Nat) (h : i < a.length), (rowBI a)[i * 2]? = some (.string (a[i]).1) ∧ (rowBI a)[i * 2 + 1]? = some (.int .i64 ((a[i]).2))
  | r :: rest, 0, _ => ⟨rfl, rfl⟩
  | r :: rest, i + 1, h => by
    have := rowBI_at rest i (by simpa using h)
    rw [show (i + 1) * 2 = i * 2 + 1 + 1 by omega]
    simpa [rowBI] using this
/-- The table lies in block g. -/
def TabI (w : World) (g : Nat) (rows : List (ByteArray × Int)) : Prop := w.rangeAt g 0 (rowBI rows) ∧ g < w.heap.size
theorem TabI.up {w w' : World} {g : Nat} {rows : List (ByteArray × Int)} (h : TabI w g rows) (hb : Below w.heap.size w w') : TabI w' g rows :=
  ⟨fun j v hv => by rw [hb.cell (p := ⟨g, 0 + j, none⟩) h.2]; exact h.1 j v hv, Nat.lt_of_lt_of_le h.2 hb.size⟩
theorem TabI.cells {w : World} {g : Nat} {rows : List (ByteArray × Int)} (h : TabI w g rows) (i : Nat) (hi : i < rows.length) : w.cell? ⟨g, i * 2, none⟩ = some (.string (rows[i]).1) ∧ w.cell? ⟨g, i * 2 + 1, none⟩ = some (.int .i64 ((rows[i]).2)) := by
  obtain ⟨h1, h2⟩ := rowBI_at rows i hi
  exact ⟨by simpa using h.1 _ _ h1, by simpa using h.1 _ _ h2⟩
theorem TabI.of_own {w : World} {base e g cap : Nat} {rows : List (ByteArray × Int)} (h : w.ownsRow base e 2 (.slice (some ⟨g, 0, none⟩) rows.length cap) rows.length (rowBI rows)) : TabI w g rows := by
  refine ⟨fun j v hv => ?_, (h.lt g rfl).2⟩
  have hj : j < rows.length * 2 := by rw [← rowBI_length]; exact (List.getElem?_eq_some_iff.1 hv).1
  rw [Nat.zero_add, h.cellAt j hj]; exact hv

theorem ofI_any (rows : List (ByteArray × Int)) (g c : Nat) (nm : ByteArray) (w : World) (hr : TabI w g rows) (hn : rows.length ≤ 1048576) :
    Calls Tryz.prog 35 #[.slice (some ⟨g, 0, none⟩) rows.length c, .string nm] w fun e w' => e = .returned (.int .i64 (look rows nm 0)) ∧ Below w.heap.size w w' := by
  have hg := hr.2
  go_enter Tryz.func35, Tryz.ntmps35
  go_wp2
  go_loopw [10] (fun i w' => ∃ k : Nat, k ≤ rows.length ∧ i = .int .i64 k ∧ noneT rows nm k ∧ Below w.heap.size w w') (fun i _ => rows.length - (intOf i).toNat)
  case atStart => exact ⟨0, by omega, rfl, fun _ _ h => by omega, Below.refl _ _⟩
  case round =>
    obtain ⟨k, hk, rfl, hal, hB⟩ := hrel
    have Hal : Hid (noneT rows nm k) := hal
    clear hal
    by_cases hp : k < rows.length
    · obtain ⟨c0, c1⟩ := hr.cells k hp
      obtain ⟨hc, hf⟩ := bcell hB
      cases hq : ((rows[k]).1.toList == nm.toList)
      · have Hq : Hid (((rows[k]).1.toList == nm.toList) = false) := hq
        go_wp2
        go_roundw
        case rel => exact ⟨k + 1, by omega, by go_num, noneT_succ Hal.out hp Hq.out, hB.alloc hB.size _⟩
        case measure => simp [intOf]; omega
      · have Hq : Hid (look rows nm 0 = (rows[k]).2) := look_hit 0 Hal.out hp hq
        go_wp2
        go_ret
        exact ⟨by show Ending.returned (.int .i64 ((rows[k]).2)) = _; rw [Hq.out], hB.alloc hB.size _⟩
    · have Hq : Hid (look rows nm 0 = 0) := look_miss 0 Hal.out hp
      go_wp2
      go_ret
      exact ⟨by show Ending.returned (.int .i64 (0)) = _; rw [Hq.out], hB⟩
end Go.Proofs.YtcofjoacehacjaaGreatDoor

/- Small facts for the walks that fill a table. -/
namespace Go.Proofs.YtcofjoacehacjaaGreatDoor
open Go.RowKit

theorem endN_good : endN good = 1 := by unfold good endN; rw [toList_lit [103, 111, 111, 100]]; decide
theorem endN_saved : endN saved = 2 := by unfold saved endN; rw [toList_lit [115, 97, 118, 101, 100]]; decide
theorem endN_scrapped : endN scrapped = 3 := by unfold scrapped endN; rw [toList_lit [115, 99, 114, 97, 112, 112, 101, 100]]; decide

theorem held_up {W1 w0 w1 : World} {B : Nat} {x0 x1 x2 x3 x4 x5 x6 x7 : Value} (hB : B < W1.heap.size) (h : Below W1.heap.size W1 w0 ∧ w0.cell? ⟨B, 0, none⟩ = some x0 ∧ w0.cell? ⟨B, 1, none⟩ = some x1 ∧ w0.cell? ⟨B, 2, none⟩ = some x2 ∧ w0.cell? ⟨B, 3, none⟩ = some x3 ∧ w0.cell? ⟨B, 4, none⟩ = some x4 ∧ w0.cell? ⟨B, 5, none⟩ = some x5 ∧ w0.cell? ⟨B, 6, none⟩ = some x6 ∧ w0.cell? ⟨B, 7, none⟩ = some x7) (hb : Below w0.heap.size w0 w1) : Below W1.heap.size W1 w1 ∧ w1.cell? ⟨B, 0, none⟩ = some x0 ∧ w1.cell? ⟨B, 1, none⟩ = some x1 ∧ w1.cell? ⟨B, 2, none⟩ = some x2 ∧ w1.cell? ⟨B, 3, none⟩ = some x3 ∧ w1.cell? ⟨B, 4, none⟩ = some x4 ∧ w1.cell? ⟨B, 5, none⟩ = some x5 ∧ w1.cell? ⟨B, 6, none⟩ = some x6 ∧ w1.cell? ⟨B, 7, none⟩ = some x7 := by
  obtain ⟨h1, a0, a1, a2, a3, a4, a5, a6, a7⟩ := h
  have hl : B < w0.heap.size := Nat.lt_of_lt_of_le hB h1.size
  exact ⟨up_trans h1 hb, (hb.cell (p := ⟨B, 0, none⟩) hl).trans a0, (hb.cell (p := ⟨B, 1, none⟩) hl).trans a1, (hb.cell (p := ⟨B, 2, none⟩) hl).trans a2, (hb.cell (p := ⟨B, 3, none⟩) hl).trans a3, (hb.cell (p := ⟨B, 4, none⟩) hl).trans a4, (hb.cell (p := ⟨B, 5, none⟩) hl).trans a5, (hb.cell (p := ⟨B, 6, none⟩) hl).trans a6, (hb.cell (p := ⟨B, 7, none⟩) hl).trans a7⟩
theorem held_drew {W1 w0 : World} {B : Nat} {x0 x1 x2 x3 x4 x5 x6 x7 : Value} (h : Below W1.heap.size W1 w0 ∧ w0.cell? ⟨B, 0, none⟩ = some x0 ∧ w0.cell? ⟨B, 1, none⟩ = some x1 ∧ w0.cell? ⟨B, 2, none⟩ = some x2 ∧ w0.cell? ⟨B, 3, none⟩ = some x3 ∧ w0.cell? ⟨B, 4, none⟩ = some x4 ∧ w0.cell? ⟨B, 5, none⟩ = some x5 ∧ w0.cell? ⟨B, 6, none⟩ = some x6 ∧ w0.cell? ⟨B, 7, none⟩ = some x7) : Below W1.heap.size W1 w0.drew ∧ w0.drew.cell? ⟨B, 0, none⟩ = some x0 ∧ w0.drew.cell? ⟨B, 1, none⟩ = some x1 ∧ w0.drew.cell? ⟨B, 2, none⟩ = some x2 ∧ w0.drew.cell? ⟨B, 3, none⟩ = some x3 ∧ w0.drew.cell? ⟨B, 4, none⟩ = some x4 ∧ w0.drew.cell? ⟨B, 5, none⟩ = some x5 ∧ w0.drew.cell? ⟨B, 6, none⟩ = some x6 ∧ w0.drew.cell? ⟨B, 7, none⟩ = some x7 := by
  obtain ⟨h1, a0, a1, a2, a3, a4, a5, a6, a7⟩ := h
  exact ⟨h1.drew, a0, a1, a2, a3, a4, a5, a6, a7⟩
end Go.Proofs.YtcofjoacehacjaaGreatDoor
