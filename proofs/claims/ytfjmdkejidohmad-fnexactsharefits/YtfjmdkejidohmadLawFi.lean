/- The law of ShareFits: its walk. -/
import Derived.Test.YtfjmdkejidohmadLawBk
import Derived.Test.YtfjmdkejidohmadKs5
import Derived.Test.YtfjmdkejidohmadKp8
namespace Go.Proofs.Ytfjmdkejidohmad
open Go.RowKit


set_option maxHeartbeats 2000000 in
theorem lawFits_any (b : Bk) (v : Value) (ss : List ByteArray) (ov : Value) (w : World) (h : BkV w v b) (ho : Ls w ov ss) :
    Calls Try.prog 5 #[v, ov] w fun e' w' => e' = .returned (.bool true) ∧ Below w.heap.size w w' := by
  obtain ⟨a1, c1, a2, c2, rfl, -, -⟩ := h.parts
  obtain ⟨ao, co, rfl, -⟩ := id ho
  go_enter Try.func5, Try.ntmps5
  go_upto_region 1 with fail
  obtain ⟨W1, hW1, kA, hB1, hs1⟩ : ∃ W1, w.alloc (.cells #[.slice a1 b.things.length c1, .slice a2 b.bs.length c2] 25) = W1 ∧ CB W1 w.heap.size [.slice a1 b.things.length c1, .slice a2 b.bs.length c2] ∧ Below w.heap.size w W1 ∧ W1.heap.size = w.heap.size + 1 := ⟨_, rfl, cb1 w _ _⟩
  try rw [hW1]
  clear hW1
  obtain ⟨⟨p0, p1⟩, -⟩ := kA.c2
  go_wp2_with fail
  refine (szBook_any b _ _ _ (h.up hB1) (by omega) (by omega)).mono ?_
  rintro e w2 ⟨⟨x, rfl, hxl, hx⟩, hb2⟩
  have hB2 := up_trans hB1 hb2
  have kA2 := kA.up hb2 (by omega)
  clear p0 p1 kA
  by_cases hx0 : x < 0
  · go_wp2_with fail
    go_ret
    exact ⟨rfl, hB2⟩
  have hs : Small b := hx (by omega)
  have hz2 := hb2.size
  clear hx hb2
  go_wp2_with fail
  refine (szStr_any ss _ _ _ (ho.up hB2) (by omega) (by omega)).mono ?_
  rintro e w' ⟨⟨y, rfl, -, hy⟩, hw⟩
  obtain rfl := hw.symm
  clear hw
  by_cases hy0 : y < 0
  · go_wp2_with fail
    go_ret
    exact ⟨rfl, hB2⟩
  have hsn : ss.length ≤ 1048576 := by have := hy (by omega); omega
  clear hy
  obtain ⟨⟨p0, p1⟩, -⟩ := kA2.c2
  go_wp2_with fail
  refine (toBook_any b _ _ (h.up hB2) hs).mono ?_
  rintro e w3 ⟨⟨u, rfl, hob⟩, hb3⟩
  have hB3 := up_trans hB2 hb3
  go_wp2_with fail
  refine (toStr_any ss _ _ (ho.up hB3) hsn).mono ?_
  rintro e w4 ⟨⟨uo, rfl, hoo⟩, hb4⟩
  obtain ⟨bo, rfl⟩ := hoo.shape
  go_wp2_with fail
  refine (specFits_any b u ss _ _ _ (hob.up hb4).bk hoo.ls (Nat.le_refl _) (by unfold maxLen; omega)).mono ?_
  rintro e w5 ⟨rfl, hb5⟩
  have hb35 := up_trans hb3 (up_trans hb4 hb5)
  have hB5 := up_trans hB2 hb35
  have kA5 := kA2.up hb35 (by omega)
  have hz5 := hb35.size
  clear p0 p1 kA2 hob hoo hb3 hb4 hb5 hb35 hB3
  obtain ⟨⟨p0, p1⟩, -⟩ := kA5.c2
  go_wp2_with fail
  refine (toBook_any b _ _ (h.up hB5) hs).mono ?_
  rintro e w6 ⟨⟨u, rfl, hob⟩, hb6⟩
  obtain ⟨b1, b2, rfl⟩ := hob.shape
  have hB6 := up_trans hB5 hb6
  have kA6 := kA5.up hb6 (by omega)
  have hz6 := hb6.size
  clear p0 p1 kA5 hb6
  obtain ⟨W7, hW7, kX, hb7, hs7⟩ : ∃ W7, w6.alloc (.cells #[.slice (some ⟨b1, 0, none⟩) b.things.length b.things.length, .slice (some ⟨b2, 0, none⟩) b.bs.length b.bs.length] 30) = W7 ∧ CB W7 w6.heap.size [.slice (some ⟨b1, 0, none⟩) b.things.length b.things.length, .slice (some ⟨b2, 0, none⟩) b.bs.length b.bs.length] ∧ Below w6.heap.size w6 W7 ∧ W7.heap.size = w6.heap.size + 1 := ⟨_, rfl, cb1 w6 _ _⟩
  go_upto_region 10 with fail
  try rw [hW7]
  have hB7 := up_trans hB6 hb7
  have kA7 := kA6.up hb7 (by omega)
  have hob7 := hob.up hb7
  clear hW7 kA6 hob hb7 hB6
  go_wp2_with fail
  refine (toStr_any ss _ _ (ho.up hB7) hsn).mono ?_
  rintro e w8 ⟨⟨uo, rfl, hoo⟩, hb8⟩
  obtain ⟨bo2, rfl⟩ := hoo.shape
  have hB8 := up_trans hB7 hb8
  have hz8 := hb8.size
  have kA8 := kA7.up hb8 (by omega)
  have kX8 := kX.up hb8 (by omega)
  have hob8 := hob7.up hb8
  clear kA7 kX hob7 hb8
  obtain ⟨⟨q0, q1⟩, -⟩ := kX8.c2
  go_wp2_with fail
  refine (fits_any b _ ss _ _ hob8.bk hoo.ls).mono ?_
  rintro e w9 ⟨rfl, hb9⟩
  have hB9 := up_trans hB8 hb9
  have hz9 := hb9.size
  have kA9 := kA8.up hb9 (by omega)
  have kX9 := kX8.up hb9 (by omega)
  have hob9 := hob8.up hb9
  have hoo9 := hoo.up hb9
  clear q0 q1 kA8 kX8 hob8 hoo hB8 hb9
  obtain ⟨⟨p0, p1⟩, -⟩ := kA9.c2
  obtain ⟨⟨q0, q1⟩, -⟩ := kX9.c2
  clear hs7
  generalize w6.heap.size = xb at *
  generalize pB (Fits b ss) = fb at *
  go_wp2_with fail
  have hob9' : BkV w9.drew (.agg #[.slice (some ⟨b1, 0, none⟩) b.things.length b.things.length, .slice (some ⟨b2, 0, none⟩) b.bs.length b.bs.length]) b := hob9.bk
  have hB9' : Below w.heap.size w w9.drew := hB9.drew
  have hxl9 : xb < w9.drew.heap.size := kX9.2.2
  have r0 : w9.drew.cell? ⟨xb, 0, none⟩ = some (.slice (some ⟨b1, 0, none⟩) b.things.length b.things.length) := q0
  have r1 : w9.drew.cell? ⟨xb, 1, none⟩ = some (.slice (some ⟨b2, 0, none⟩) b.bs.length b.bs.length) := q1
  have hoo9' : Ls w9.drew (.slice (some ⟨bo2, 0, none⟩) ss.length ss.length) ss := hoo9.ls
  go_region_with (first
    | (go_at_call 9; refine (toBook_any b _ _ (h.up hB9') hs).mono ?_; rintro e w10 ⟨⟨u, rfl, ho10⟩, hb10⟩; have s0 := (hb10.cell (p := ⟨xb, 0, none⟩) hxl9).trans r0; have s1 := (hb10.cell (p := ⟨xb, 1, none⟩) hxl9).trans r1)
    | (go_at_call 11; refine (eqBook_any b _ _ _ (hob9'.up hb10) (BkO.bk ho10)).mono ?_; rintro e w11 ⟨rfl, hb11⟩))
  all_goals
    have hb911 := up_trans hb10 hb11
    have hB11 := up_trans hB9' hb911
    have hoo11 := hoo9'.up hb911
    clear p0 p1 q0 q1 r0 r1 s0 s1 hoo9'
    go_wp2_with fail
    refine (toStr_any ss _ _ (ho.up hB11) hsn).mono ?_
    rintro e w12 ⟨⟨uo, rfl, hoo12⟩, hb12⟩
    obtain ⟨bo3, rfl⟩ := hoo12.shape
    have hB12 := up_trans hB11 hb12
    go_wp2_with fail
    refine (eqLs_any ss _ _ _ (hoo11.up hb12) hoo12.ls).mono ?_
    rintro e w13 ⟨rfl, hb13⟩
    have hB13 := up_trans hB12 hb13
    go_wp2_with fail
    go_ret
    exact ⟨rfl, hB13⟩
end Go.Proofs.Ytfjmdkejidohmad
