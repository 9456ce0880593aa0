/- A region that draws its order and holds an append to a row of the call's own; rows kept. -/
import Derived.Test.YtliebjbbomghiaaGreatDoorJ0
import Derived.Test.YtliebjbbomghiaaGreatDoorJ8
import Derived.Deep.RegionLaw
import Derived.Test.YtliebjbbomghiaaGreatDoorPt
import Derived.Deep.RegionHeld
import Derived.Test.YtliebjbbomghiaaGreatDoorJ5
namespace Go.Proofs.YtliebjbbomghiaaGreatDoor
open Go.RowKit

theorem new8 (w : World) (p : Ph) (ty : TypeId) {j : Nat} {u : Value} (h : p.cells[j]? = some u) : (w.alloc (.cells #[.string p.nm, .int .i64 p.k, .string p.a, .string p.b, .int .i64 p.n, .int .i64 p.wi, .string p.t, .string p.e] ty)).cell? ((⟨w.heap.size, 0, none⟩ : Addr).add j) = some u := by
  have := (box_alloc w p ty).1 j u h
  rw [Addr.add_mid]; exact this
theorem one8 (p : Ph) : ∀ u ∈ p.cells, u.oneCell' = true := fun u hu => by
  simp only [Ph.cells, List.mem_cons, List.not_mem_nil, or_false] at hu
  rcases hu with rfl | rfl | rfl | rfl | rfl | rfl | rfl | rfl <;> rfl
end Go.Proofs.YtliebjbbomghiaaGreatDoor

/- Small facts for the walks that fill a table. -/
namespace Go.Proofs.YtliebjbbomghiaaGreatDoor
open Go.RowKit

theorem endN_good : endN good = 1 := by unfold good endN; rw [toList_lit [103, 111, 111, 100]]; decide
theorem endN_saved : endN saved = 2 := by unfold saved endN; rw [toList_lit [115, 97, 118, 101, 100]]; decide
theorem endN_scrapped : endN scrapped = 3 := by unfold scrapped endN; rw [toList_lit [115, 99, 114, 97, 112, 112, 101, 100]]; decide

theorem held_up {W1 w0 w1 : World} {B : Nat} {x0 x1 x2 x3 x4 x5 x6 x7 : Value} (hB : B < W1.heap.size) (h : Below W1.heap.size W1 w0 ∧ w0.cell? ⟨B, 0, none⟩ = some x0 ∧ w0.cell? ⟨B, 1, none⟩ = some x1 ∧ w0.cell? ⟨B, 2, none⟩ = some x2 ∧ w0.cell? ⟨B, 3, none⟩ = some x3 ∧ w0.cell? ⟨B, 4, none⟩ = some x4 ∧ w0.cell? ⟨B, 5, none⟩ = some x5 ∧ w0.cell? ⟨B, 6, none⟩ = some x6 ∧ w0.cell? ⟨B, 7, none⟩ = some x7) (hb : Below w0.heap.size w0 w1) : Below W1.heap.size W1 w1 ∧ w1.cell? ⟨B, 0, none⟩ = some x0 ∧ w1.cell? ⟨B, 1, none⟩ = some x1 ∧ w1.cell? ⟨B, 2, none⟩ = some x2 ∧ w1.cell? ⟨B, 3, none⟩ = some x3 ∧ w1.cell? ⟨B, 4, none⟩ = some x4 ∧ w1.cell? ⟨B, 5, none⟩ = some x5 ∧ w1.cell? ⟨B, 6, none⟩ = some x6 ∧ w1.cell? ⟨B, 7, none⟩ = some x7 := by
  obtain ⟨h1, a0, a1, a2, a3, a4, a5, a6, a7⟩ := h
  have hl : B < w0.heap.size := Nat.lt_of_lt_of_le hB h1.size
  exact ⟨up_trans h1 hb, (hb.cell (p := ⟨B, 0, none⟩) hl).trans a0, (hb.cell (p := ⟨B, 1, none⟩) hl).trans a1, (hb.cell (p := ⟨B, 2, none⟩) hl).trans a2, (hb.cell (p := ⟨B, 3, none⟩) hl).trans a3, (hb.cell (p := ⟨B, 4, none⟩) hl).trans a4, (hb.cell (p := ⟨B, 5, none⟩) hl).trans a5, (hb.cell (p := ⟨B, 6, none⟩) hl).trans a6, (hb.cell (p := ⟨B, 7, none⟩) hl).trans a7⟩
theorem held_drew {W1 w0 : World} {B : Nat} {x0 x1 x2 x3 x4 x5 x6 x7 : Value} (h : Below W1.heap.size W1 w0 ∧ w0.cell? ⟨B, 0, none⟩ = some x0 ∧ w0.cell? ⟨B, 1, none⟩ = some x1 ∧ w0.cell? ⟨B, 2, none⟩ = some x2 ∧ w0.cell? ⟨B, 3, none⟩ = some x3 ∧ w0.cell? ⟨B, 4, none⟩ = some x4 ∧ w0.cell? ⟨B, 5, none⟩ = some x5 ∧ w0.cell? ⟨B, 6, none⟩ = some x6 ∧ w0.cell? ⟨B, 7, none⟩ = some x7) : Below W1.heap.size W1 w0.drew ∧ w0.drew.cell? ⟨B, 0, none⟩ = some x0 ∧ w0.drew.cell? ⟨B, 1, none⟩ = some x1 ∧ w0.drew.cell? ⟨B, 2, none⟩ = some x2 ∧ w0.drew.cell? ⟨B, 3, none⟩ = some x3 ∧ w0.drew.cell? ⟨B, 4, none⟩ = some x4 ∧ w0.drew.cell? ⟨B, 5, none⟩ = some x5 ∧ w0.drew.cell? ⟨B, 6, none⟩ = some x6 ∧ w0.drew.cell? ⟨B, 7, none⟩ = some x7 := by
  obtain ⟨h1, a0, a1, a2, a3, a4, a5, a6, a7⟩ := h
  exact ⟨h1.drew, a0, a1, a2, a3, a4, a5, a6, a7⟩
end Go.Proofs.YtliebjbbomghiaaGreatDoor

/- Lists of texts: handed about, of one's own. -/
namespace Go.Proofs.YtliebjbbomghiaaGreatDoor
open Go.RowKit

end Go.Proofs.YtliebjbbomghiaaGreatDoor

/- The program's slots of a phase alone. -/
namespace Go.Proofs.YtliebjbbomghiaaGreatDoor
open Go.RowKit

theorem txt_lit (w : World) (ss : List ByteArray) (hl : ss.length ≤ 100) : Txt (w.alloc (.cells (ss.map Value.string).toArray 9)) (.slice (some ⟨w.heap.size, 0, none⟩) ss.length ss.length) ss :=
  ⟨w.heap.size, ss.length, rfl, strsAt_alloc w ss 9, by simp, Nat.le_refl _, by unfold maxLen; omega⟩
def ownB (p : Ph) : List ByteArray := if p.k = 2 then [p.a, p.b] else [p.a]
theorem own_keys (p : Ph) : keys (ownB p) = ownK p := by unfold ownB ownK keys; split <;> rfl

theorem slFill (s t : ByteArray) (w : World) :
    Calls Tryz.prog 154 #[.agg #[.string s, .string t]] w fun e w' => (∃ u, e = .returned u ∧ Txt w' u [s]) ∧ Below w.heap.size w w' := by
  have hB : Below w.heap.size w (w.alloc (.cells #[.string s, .string t] 114)) := (Below.refl _ _).alloc (Nat.le_refl _) _
  have hT := txt_lit (w.alloc (.cells #[.string s, .string t] 114)) [s] (by simp)
  rw [show (w.alloc (.cells #[.string s, .string t] 114)).heap.size = w.heap.size + 1 by simp] at hT
  have hB1 := up_trans hB ((Below.refl _ _).alloc (Nat.le_refl _) (.cells (([s] : List ByteArray).map Value.string).toArray 9))
  go_enter Tryz.func154, Tryz.ntmps154
  go_wp2_with fail
  go_ret
  exact ⟨⟨_, rfl, hT⟩, hB1⟩
theorem slMove (s t : ByteArray) (w : World) :
    Calls Tryz.prog 157 #[.agg #[.string s, .string t]] w fun e w' => (∃ u, e = .returned u ∧ Txt w' u [s, t]) ∧ Below w.heap.size w w' := by
  have hB : Below w.heap.size w (w.alloc (.cells #[.string s, .string t] 116)) := (Below.refl _ _).alloc (Nat.le_refl _) _
  have hT := txt_lit (w.alloc (.cells #[.string s, .string t] 116)) [s, t] (by simp)
  rw [show (w.alloc (.cells #[.string s, .string t] 116)).heap.size = w.heap.size + 1 by simp] at hT
  have hB1 := up_trans hB ((Below.refl _ _).alloc (Nat.le_refl _) (.cells (([s, t] : List ByteArray).map Value.string).toArray 9))
  go_enter Tryz.func157, Tryz.ntmps157
  go_wp2_with fail
  go_ret
  exact ⟨⟨_, rfl, hT⟩, hB1⟩
theorem slHold (s : ByteArray) (n : Int) (w : World) :
    Calls Tryz.prog 159 #[.agg #[.string s, .int .i64 n]] w fun e w' => (∃ u, e = .returned u ∧ Txt w' u [s]) ∧ Below w.heap.size w w' := by
  have hB : Below w.heap.size w (w.alloc (.cells #[.string s, .int .i64 n] 118)) := (Below.refl _ _).alloc (Nat.le_refl _) _
  have hT := txt_lit (w.alloc (.cells #[.string s, .int .i64 n] 118)) [s] (by simp)
  rw [show (w.alloc (.cells #[.string s, .int .i64 n] 118)).heap.size = w.heap.size + 1 by simp] at hT
  have hB1 := up_trans hB ((Below.refl _ _).alloc (Nat.le_refl _) (.cells (([s] : List ByteArray).map Value.string).toArray 9))
  go_enter Tryz.func159, Tryz.ntmps159
  go_wp2_with fail
  go_ret
  exact ⟨⟨_, rfl, hT⟩, hB1⟩
theorem slClean (s : ByteArray) (w : World) :
    Calls Tryz.prog 160 #[.agg #[.string s]] w fun e w' => (∃ u, e = .returned u ∧ Txt w' u [s]) ∧ Below w.heap.size w w' := by
  have hB : Below w.heap.size w (w.alloc (.cells #[.string s] 120)) := (Below.refl _ _).alloc (Nat.le_refl _) _
  have hT := txt_lit (w.alloc (.cells #[.string s] 120)) [s] (by simp)
  rw [show (w.alloc (.cells #[.string s] 120)).heap.size = w.heap.size + 1 by simp] at hT
  have hB1 := up_trans hB ((Below.refl _ _).alloc (Nat.le_refl _) (.cells (([s] : List ByteArray).map Value.string).toArray 9))
  go_enter Tryz.func160, Tryz.ntmps160
  go_wp2_with fail
  go_ret
  exact ⟨⟨_, rfl, hT⟩, hB1⟩
theorem slTest (s : ByteArray) (w : World) :
    Calls Tryz.prog 161 #[.agg #[.string s]] w fun e w' => (∃ u, e = .returned u ∧ Txt w' u [s]) ∧ Below w.heap.size w w' := by
  have hB : Below w.heap.size w (w.alloc (.cells #[.string s] 121)) := (Below.refl _ _).alloc (Nat.le_refl _) _
  have hT := txt_lit (w.alloc (.cells #[.string s] 121)) [s] (by simp)
  rw [show (w.alloc (.cells #[.string s] 121)).heap.size = w.heap.size + 1 by simp] at hT
  have hB1 := up_trans hB ((Below.refl _ _).alloc (Nat.le_refl _) (.cells (([s] : List ByteArray).map Value.string).toArray 9))
  go_enter Tryz.func161, Tryz.ntmps161
  go_wp2_with fail
  go_ret
  exact ⟨⟨_, rfl, hT⟩, hB1⟩

theorem phSlots_any (p : Ph) (w : World) (hk : 1 ≤ p.k ∧ p.k ≤ 5) :
    Calls Tryz.prog 33 #[.agg #[.string p.nm, .int .i64 p.k, .string p.a, .string p.b, .int .i64 p.n, .int .i64 p.wi, .string p.t, .string p.e]] w fun e w' => (∃ u, e = .returned u ∧ Txt w' u (ownB p)) ∧ Below w.heap.size w w' := by
  obtain ⟨pn, pk, pa, pb, pm, pw, pt, pe⟩ := p
  simp only at hk ⊢
  have hBx : Below w.heap.size w (w.alloc (.cells #[.string pn, .int .i64 pk, .string pa, .string pb, .int .i64 pm, .int .i64 pw, .string pt, .string pe] 34)) := (Below.refl _ _).alloc (Nat.le_refl _) _
  rcases (by omega : pk = 1 ∨ pk = 2 ∨ pk = 3 ∨ pk = 4 ∨ pk = 5) with rfl | rfl | rfl | rfl | rfl
  · go_enter Tryz.func33, Tryz.ntmps33
    go_wp2_with fail
    refine (workFill _ _ _ _ _ _ _ _).mono ?_
    rintro e w1 ⟨rfl, hb1⟩
    have hB1 := up_trans hBx hb1
    go_wp2_with fail
    refine (slFill _ _ _).mono ?_
    rintro e w2 ⟨⟨u, rfl, hT⟩, hb2⟩
    have hB2 := up_trans hB1 hb2
    go_wp2_with fail
    go_ret
    exact ⟨⟨_, rfl, hT⟩, hB2⟩
  · go_enter Tryz.func33, Tryz.ntmps33
    go_wp2_with fail
    refine (workMove _ _ _ _ _ _ _ _).mono ?_
    rintro e w1 ⟨rfl, hb1⟩
    have hB1 := up_trans hBx hb1
    go_wp2_with fail
    refine (slMove _ _ _).mono ?_
    rintro e w2 ⟨⟨u, rfl, hT⟩, hb2⟩
    have hB2 := up_trans hB1 hb2
    go_wp2_with fail
    go_ret
    exact ⟨⟨_, rfl, hT⟩, hB2⟩
  · go_enter Tryz.func33, Tryz.ntmps33
    go_wp2_with fail
    refine (workHold _ _ _ _ _ _ _ _).mono ?_
    rintro e w1 ⟨rfl, hb1⟩
    have hB1 := up_trans hBx hb1
    go_wp2_with fail
    refine (slHold _ _ _).mono ?_
    rintro e w2 ⟨⟨u, rfl, hT⟩, hb2⟩
    have hB2 := up_trans hB1 hb2
    go_wp2_with fail
    go_ret
    exact ⟨⟨_, rfl, hT⟩, hB2⟩
  · go_enter Tryz.func33, Tryz.ntmps33
    go_wp2_with fail
    refine (workClean _ _ _ _ _ _ _ _).mono ?_
    rintro e w1 ⟨rfl, hb1⟩
    have hB1 := up_trans hBx hb1
    go_wp2_with fail
    refine (slClean _ _).mono ?_
    rintro e w2 ⟨⟨u, rfl, hT⟩, hb2⟩
    have hB2 := up_trans hB1 hb2
    go_wp2_with fail
    go_ret
    exact ⟨⟨_, rfl, hT⟩, hB2⟩
  · go_enter Tryz.func33, Tryz.ntmps33
    go_wp2_with fail
    refine (workTest _ _ _ _ _ _ _ _).mono ?_
    rintro e w1 ⟨rfl, hb1⟩
    have hB1 := up_trans hBx hb1
    go_wp2_with fail
    refine (slTest _ _).mono ?_
    rintro e w2 ⟨⟨u, rfl, hT⟩, hb2⟩
    have hB2 := up_trans hB1 hb2
    go_wp2_with fail
    go_ret
    exact ⟨⟨_, rfl, hT⟩, hB2⟩
end Go.Proofs.YtliebjbbomghiaaGreatDoor
