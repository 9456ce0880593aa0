/- Small facts for the walks that fill a table. -/
import Derived.Test.YtkfclahdofjhjahDoorWa
import Derived.Test.YtkfclahdofjhjahDoorPt
import Derived.Deep.RegionHeld
namespace Go.Proofs.YtkfclahdofjhjahDoor
open Go.RowKit

theorem endN_good : endN good = 1 := by unfold good endN; rw [toList_lit [103, 111, 111, 100]]; decide
theorem endN_saved : endN saved = 2 := by unfold saved endN; rw [toList_lit [115, 97, 118, 101, 100]]; decide
theorem endN_scrapped : endN scrapped = 3 := by unfold scrapped endN; rw [toList_lit [115, 99, 114, 97, 112, 112, 101, 100]]; decide

theorem own_ptr {w : World} {base e size n : Nat} {v : Value} {xs : List Value} (h : w.ownsRow base e size v n xs) (hn : 0 < n) : ∃ g cap, v = .slice (some ⟨g, 0, none⟩) n cap := by
  rcases h.2 with ⟨_, h0⟩ | ⟨g, cap, _, hv, _⟩
  · omega
  · exact ⟨g, cap, hv⟩
theorem held_up {W1 w0 w1 : World} {B : Nat} {x0 x1 x2 x3 x4 x5 x6 x7 : Value} (hB : B < W1.heap.size) (h : Below W1.heap.size W1 w0 ∧ w0.cell? ⟨B, 0, none⟩ = some x0 ∧ w0.cell? ⟨B, 1, none⟩ = some x1 ∧ w0.cell? ⟨B, 2, none⟩ = some x2 ∧ w0.cell? ⟨B, 3, none⟩ = some x3 ∧ w0.cell? ⟨B, 4, none⟩ = some x4 ∧ w0.cell? ⟨B, 5, none⟩ = some x5 ∧ w0.cell? ⟨B, 6, none⟩ = some x6 ∧ w0.cell? ⟨B, 7, none⟩ = some x7) (hb : Below w0.heap.size w0 w1) : Below W1.heap.size W1 w1 ∧ w1.cell? ⟨B, 0, none⟩ = some x0 ∧ w1.cell? ⟨B, 1, none⟩ = some x1 ∧ w1.cell? ⟨B, 2, none⟩ = some x2 ∧ w1.cell? ⟨B, 3, none⟩ = some x3 ∧ w1.cell? ⟨B, 4, none⟩ = some x4 ∧ w1.cell? ⟨B, 5, none⟩ = some x5 ∧ w1.cell? ⟨B, 6, none⟩ = some x6 ∧ w1.cell? ⟨B, 7, none⟩ = some x7 := by
  obtain ⟨h1, a0, a1, a2, a3, a4, a5, a6, a7⟩ := h
  have hl : B < w0.heap.size := Nat.lt_of_lt_of_le hB h1.size
  exact ⟨up_trans h1 hb, (hb.cell (p := ⟨B, 0, none⟩) hl).trans a0, (hb.cell (p := ⟨B, 1, none⟩) hl).trans a1, (hb.cell (p := ⟨B, 2, none⟩) hl).trans a2, (hb.cell (p := ⟨B, 3, none⟩) hl).trans a3, (hb.cell (p := ⟨B, 4, none⟩) hl).trans a4, (hb.cell (p := ⟨B, 5, none⟩) hl).trans a5, (hb.cell (p := ⟨B, 6, none⟩) hl).trans a6, (hb.cell (p := ⟨B, 7, none⟩) hl).trans a7⟩
theorem held_drew {W1 w0 : World} {B : Nat} {x0 x1 x2 x3 x4 x5 x6 x7 : Value} (h : Below W1.heap.size W1 w0 ∧ w0.cell? ⟨B, 0, none⟩ = some x0 ∧ w0.cell? ⟨B, 1, none⟩ = some x1 ∧ w0.cell? ⟨B, 2, none⟩ = some x2 ∧ w0.cell? ⟨B, 3, none⟩ = some x3 ∧ w0.cell? ⟨B, 4, none⟩ = some x4 ∧ w0.cell? ⟨B, 5, none⟩ = some x5 ∧ w0.cell? ⟨B, 6, none⟩ = some x6 ∧ w0.cell? ⟨B, 7, none⟩ = some x7) : Below W1.heap.size W1 w0.drew ∧ w0.drew.cell? ⟨B, 0, none⟩ = some x0 ∧ w0.drew.cell? ⟨B, 1, none⟩ = some x1 ∧ w0.drew.cell? ⟨B, 2, none⟩ = some x2 ∧ w0.drew.cell? ⟨B, 3, none⟩ = some x3 ∧ w0.drew.cell? ⟨B, 4, none⟩ = some x4 ∧ w0.drew.cell? ⟨B, 5, none⟩ = some x5 ∧ w0.drew.cell? ⟨B, 6, none⟩ = some x6 ∧ w0.drew.cell? ⟨B, 7, none⟩ = some x7 := by
  obtain ⟨h1, a0, a1, a2, a3, a4, a5, a6, a7⟩ := h
  exact ⟨h1.drew, a0, a1, a2, a3, a4, a5, a6, a7⟩
theorem own_up {W w' : World} {base e size n : Nat} {v : Value} {xs : List Value} (h : W.ownsRow base e size v n xs) (hb : Below W.heap.size W w') : w'.ownsRow base e size v n xs := by
  refine ⟨h.1, ?_⟩
  rcases h.2 with h0 | ⟨g, cap, cur, hv, hg, hh, r⟩
  · exact .inl h0
  · refine .inr ⟨g, cap, cur, hv, hg, ?_, r⟩
    rw [hb.block g (Array.getElem?_eq_some_iff.1 hh).1]; exact hh
theorem new2 (w : World) (a b : Value) (ty : TypeId) {j : Nat} {u : Value} (h : [a, b][j]? = some u) : (w.alloc (.cells #[a, b] ty)).cell? ((⟨w.heap.size, 0, none⟩ : Addr).add j) = some u := by
  match j, h with
  | 0, h => simp at h; subst h; simp [Addr.add]
  | 1, h => simp at h; subst h; simp [Addr.add]
theorem one2 {s : ByteArray} {x u : Value} (hx : x.oneCell' = true) (h : u ∈ [Value.string s, x]) : u.oneCell' = true := by
  simp at h; rcases h with rfl | rfl
  · rfl
  · exact hx
end Go.Proofs.YtkfclahdofjhjahDoor
