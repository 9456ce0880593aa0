/- A region that draws its order and holds an append to a row of the call's own; rows kept. -/
import Derived.Test.YtkapodkidlgkjafGreatDoorJ0
import Derived.Test.YtkapodkidlgkjafGreatDoorJ13
import Derived.Deep.RegionLaw
import Derived.Test.YtkapodkidlgkjafGreatDoorWa
import Derived.Test.YtkapodkidlgkjafGreatDoorPt
import Derived.Deep.RegionHeld
namespace Go.Proofs.YtkapodkidlgkjafGreatDoor
open Go.RowKit

theorem new8 (w : World) (p : Ph) (ty : TypeId) {j : Nat} {u : Value} (h : p.cells[j]? = some u) : (w.alloc (.cells #[.string p.nm, .int .i64 p.k, .string p.a, .string p.b, .int .i64 p.n, .int .i64 p.wi, .string p.t, .string p.e] ty)).cell? ((⟨w.heap.size, 0, none⟩ : Addr).add j) = some u := by
  have := (box_alloc w p ty).1 j u h
  rw [Addr.add_mid]; exact this
theorem one8 (p : Ph) : ∀ u ∈ p.cells, u.oneCell' = true := fun u hu => by
  simp only [Ph.cells, List.mem_cons, List.not_mem_nil, or_false] at hu
  rcases hu with rfl | rfl | rfl | rfl | rfl | rfl | rfl | rfl <;> rfl
end Go.Proofs.YtkapodkidlgkjafGreatDoor

/- Small facts for the walks that fill a table. -/
namespace Go.Proofs.YtkapodkidlgkjafGreatDoor
open Go.RowKit

theorem endN_good : endN good = 1 := by unfold good endN; rw [toList_lit [103, 111, 111, 100]]; decide
theorem endN_saved : endN saved = 2 := by unfold saved endN; rw [toList_lit [115, 97, 118, 101, 100]]; decide
theorem endN_scrapped : endN scrapped = 3 := by unfold scrapped endN; rw [toList_lit [115, 99, 114, 97, 112, 112, 101, 100]]; decide

theorem held_up {W1 w0 w1 : World} {B : Nat} {x0 x1 x2 x3 x4 x5 x6 x7 : Value} (hB : B < W1.heap.size) (h : Below W1.heap.size W1 w0 ∧ w0.cell? ⟨B, 0, none⟩ = some x0 ∧ w0.cell? ⟨B, 1, none⟩ = some x1 ∧ w0.cell? ⟨B, 2, none⟩ = some x2 ∧ w0.cell? ⟨B, 3, none⟩ = some x3 ∧ w0.cell? ⟨B, 4, none⟩ = some x4 ∧ w0.cell? ⟨B, 5, none⟩ = some x5 ∧ w0.cell? ⟨B, 6, none⟩ = some x6 ∧ w0.cell? ⟨B, 7, none⟩ = some x7) (hb : Below w0.heap.size w0 w1) : Below W1.heap.size W1 w1 ∧ w1.cell? ⟨B, 0, none⟩ = some x0 ∧ w1.cell? ⟨B, 1, none⟩ = some x1 ∧ w1.cell? ⟨B, 2, none⟩ = some x2 ∧ w1.cell? ⟨B, 3, none⟩ = some x3 ∧ w1.cell? ⟨B, 4, none⟩ = some x4 ∧ w1.cell? ⟨B, 5, none⟩ = some x5 ∧ w1.cell? ⟨B, 6, none⟩ = some x6 ∧ w1.cell? ⟨B, 7, none⟩ = some x7 := by
  obtain ⟨h1, a0, a1, a2, a3, a4, a5, a6, a7⟩ := h
  have hl : B < w0.heap.size := Nat.lt_of_lt_of_le hB h1.size
  exact ⟨up_trans h1 hb, (hb.cell (p := ⟨B, 0, none⟩) hl).trans a0, (hb.cell (p := ⟨B, 1, none⟩) hl).trans a1, (hb.cell (p := ⟨B, 2, none⟩) hl).trans a2, (hb.cell (p := ⟨B, 3, none⟩) hl).trans a3, (hb.cell (p := ⟨B, 4, none⟩) hl).trans a4, (hb.cell (p := ⟨B, 5, none⟩) hl).trans a5, (hb.cell (p := ⟨B, 6, none⟩) hl).trans a6, (hb.cell (p := ⟨B, 7, none⟩) hl).trans a7⟩
theorem held_drew {W1 w0 : World} {B : Nat} {x0 x1 x2 x3 x4 x5 x6 x7 : Value} (h : Below W1.heap.size W1 w0 ∧ w0.cell? ⟨B, 0, none⟩ = some x0 ∧ w0.cell? ⟨B, 1, none⟩ = some x1 ∧ w0.cell? ⟨B, 2, none⟩ = some x2 ∧ w0.cell? ⟨B, 3, none⟩ = some x3 ∧ w0.cell? ⟨B, 4, none⟩ = some x4 ∧ w0.cell? ⟨B, 5, none⟩ = some x5 ∧ w0.cell? ⟨B, 6, none⟩ = some x6 ∧ w0.cell? ⟨B, 7, none⟩ = some x7) : Below W1.heap.size W1 w0.drew ∧ w0.drew.cell? ⟨B, 0, none⟩ = some x0 ∧ w0.drew.cell? ⟨B, 1, none⟩ = some x1 ∧ w0.drew.cell? ⟨B, 2, none⟩ = some x2 ∧ w0.drew.cell? ⟨B, 3, none⟩ = some x3 ∧ w0.drew.cell? ⟨B, 4, none⟩ = some x4 ∧ w0.drew.cell? ⟨B, 5, none⟩ = some x5 ∧ w0.drew.cell? ⟨B, 6, none⟩ = some x6 ∧ w0.drew.cell? ⟨B, 7, none⟩ = some x7 := by
  obtain ⟨h1, a0, a1, a2, a3, a4, a5, a6, a7⟩ := h
  exact ⟨h1.drew, a0, a1, a2, a3, a4, a5, a6, a7⟩
end Go.Proofs.YtkapodkidlgkjafGreatDoor

/- Lists of texts: handed about, of one's own. -/
namespace Go.Proofs.YtkapodkidlgkjafGreatDoor
open Go.RowKit

end Go.Proofs.YtkapodkidlgkjafGreatDoor
