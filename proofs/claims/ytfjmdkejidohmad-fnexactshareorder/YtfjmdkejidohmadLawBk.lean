/- The law of ShareBookOk: its walk. -/
import Derived.Test.YtfjmdkejidohmadLawKu
import Derived.Test.YtfjmdkejidohmadKs2
import Derived.Test.YtfjmdkejidohmadKp3
namespace Go.Proofs.Ytfjmdkejidohmad
open Go.RowKit

theorem BkO.shape {w : World} {base : Nat} {v : Value} {b : Bk} (h : BkO w base v b) : ∃ b1 b2, v = .agg #[.slice (some ⟨b1, 0, none⟩) b.things.length b.things.length, .slice (some ⟨b2, 0, none⟩) b.bs.length b.bs.length] := by
  obtain ⟨tv, bv, mid, rfl, h1, h2, -⟩ := h
  obtain ⟨b1, rfl⟩ := h1.shape
  obtain ⟨b2, rfl⟩ := h2.shape
  exact ⟨b1, b2, rfl⟩

set_option maxHeartbeats 2000000 in
theorem lawBook_any (b : Bk) (v : Value) (w : World) (h : BkV w v b) :
    Calls Try.prog 3 #[v] w fun e' w' => e' = .returned (.bool true) ∧ Below w.heap.size w w' := by
  obtain ⟨a1, c1, a2, c2, rfl, -, -⟩ := h.parts
  go_enter Try.func3, Try.ntmps3
  go_upto_region 1 with fail
  obtain ⟨W1, hW1, kA, hB1, hs1⟩ : ∃ W1, w.alloc (.cells #[.slice a1 b.things.length c1, .slice a2 b.bs.length c2] 25) = W1 ∧ CB W1 w.heap.size [.slice a1 b.things.length c1, .slice a2 b.bs.length c2] ∧ Below w.heap.size w W1 ∧ W1.heap.size = w.heap.size + 1 := ⟨_, rfl, cb1 w _ _⟩
  try rw [hW1]
  clear hW1
  obtain ⟨⟨p0, p1⟩, -⟩ := kA.c2
  go_wp2_with fail
  refine (szBook_any b _ _ _ (h.up hB1) (by omega) (by omega)).mono ?_
  rintro e w2 ⟨⟨x, rfl, -, hx⟩, hb2⟩
  have hB2 := up_trans hB1 hb2
  have kA2 := kA.up hb2 (by omega)
  clear p0 p1 kA
  by_cases hx0 : x < 0
  · go_wp2_with fail
    go_ret
    exact ⟨rfl, hB2⟩
  have hs : Small b := hx (by omega)
  have hz2 := hb2.size
  clear hx hb2
  obtain ⟨⟨p0, p1⟩, -⟩ := kA2.c2
  go_wp2_with fail
  refine (toBook_any b _ _ (h.up hB2) hs).mono ?_
  rintro e w3 ⟨⟨u, rfl, ho⟩, hb3⟩
  go_wp2_with fail
  refine (specBook_any b u _ ho.bk).mono ?_
  rintro e w4 ⟨rfl, hb4⟩
  have hb34 := up_trans hb3 hb4
  have hB4 := up_trans hB2 hb34
  have kA4 := kA2.up hb34 (by omega)
  have hz4 := hb34.size
  clear p0 p1 kA2 ho hb3 hb4 hb34
  obtain ⟨⟨p0, p1⟩, -⟩ := kA4.c2
  go_wp2_with fail
  refine (toBook_any b _ _ (h.up hB4) hs).mono ?_
  rintro e w5 ⟨⟨u, rfl, ho⟩, hb5⟩
  obtain ⟨b1, b2, rfl⟩ := ho.shape
  have hB5 := up_trans hB4 hb5
  have kA5 := kA4.up hb5 (by omega)
  have hz5 := hb5.size
  clear p0 p1 kA4 hb5
  obtain ⟨W6, hW6, kX, hb6, hs6⟩ : ∃ W6, w5.alloc (.cells #[.slice (some ⟨b1, 0, none⟩) b.things.length b.things.length, .slice (some ⟨b2, 0, none⟩) b.bs.length b.bs.length] 30) = W6 ∧ CB W6 w5.heap.size [.slice (some ⟨b1, 0, none⟩) b.things.length b.things.length, .slice (some ⟨b2, 0, none⟩) b.bs.length b.bs.length] ∧ Below w5.heap.size w5 W6 ∧ W6.heap.size = w5.heap.size + 1 := ⟨_, rfl, cb1 w5 _ _⟩
  go_upto_region 7 with fail
  try rw [hW6]
  have hB6 := up_trans hB5 hb6
  have kA6 := kA5.up hb6 (by omega)
  have ho6 := ho.up hb6
  clear hW6 kA5 ho hb6 hB5
  obtain ⟨⟨q0, q1⟩, -⟩ := kX.c2
  go_wp2_with fail
  refine (bookOk_any b _ _ ho6.bk).mono ?_
  rintro e w7 ⟨rfl, hb7⟩
  have hB7 := up_trans hB6 hb7
  have hz7 := hb7.size
  have kA7 := kA6.up hb7 (by omega)
  have kX7 := kX.up hb7 (by omega)
  have ho7 := ho6.up hb7
  clear q0 q1 kA6 kX ho6 hB6 hb7
  obtain ⟨⟨p0, p1⟩, -⟩ := kA7.c2
  obtain ⟨⟨q0, q1⟩, -⟩ := kX7.c2
  generalize w5.heap.size = xb at *
  go_wp2_with fail
  have ho7' : BkV w7.drew (.agg #[.slice (some ⟨b1, 0, none⟩) b.things.length b.things.length, .slice (some ⟨b2, 0, none⟩) b.bs.length b.bs.length]) b := ho7.bk
  have hB7' : Below w.heap.size w w7.drew := hB7.drew
  have hxl : xb < w7.drew.heap.size := kX7.2.2
  have r0 : w7.drew.cell? ⟨xb, 0, none⟩ = some (.slice (some ⟨b1, 0, none⟩) b.things.length b.things.length) := q0
  have r1 : w7.drew.cell? ⟨xb, 1, none⟩ = some (.slice (some ⟨b2, 0, none⟩) b.bs.length b.bs.length) := q1
  go_region_with (first
    | (go_at_call 9; refine (toBook_any b _ _ (h.up hB7') hs).mono ?_; rintro e w8 ⟨⟨u, rfl, ho8⟩, hb8⟩; have s0 := (hb8.cell (p := ⟨xb, 0, none⟩) hxl).trans r0; have s1 := (hb8.cell (p := ⟨xb, 1, none⟩) hxl).trans r1)
    | (go_at_call 11; refine (eqBook_any b _ _ _ (ho7'.up hb8) (BkO.bk ho8)).mono ?_; rintro e w9 ⟨rfl, hb9⟩))
  all_goals
    have hB9 := up_trans (up_trans hB7' hb8) hb9
    clear p0 p1 q0 q1 r0 r1 s0 s1
    go_wp2_with fail
    go_ret
    exact ⟨rfl, hB9⟩
end Go.Proofs.Ytfjmdkejidohmad
