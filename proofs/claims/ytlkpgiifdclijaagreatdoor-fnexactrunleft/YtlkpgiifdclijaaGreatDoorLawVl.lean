/- The law of RunLeft: its walk. -/
import Derived.Test.YtlkpgiifdclijaaGreatDoorJ39
import Derived.Test.YtlkpgiifdclijaaGreatDoorX1
namespace Go.Proofs.YtlkpgiifdclijaaGreatDoor
open Go.RowKit

set_option maxRecDepth 20000 in
set_option maxHeartbeats 8000000 in
theorem lawLeft_any (h : House) (tv bv xv dv : Value) (w : World) (hE : Ends w) (H : HSrc w h tv bv xv dv) :
    Calls Tryz.prog 4 #[.agg #[.int .i64 h.now, .int .i64 h.last, tv, bv, xv, dv]] w fun e' w' => e' = .returned (.bool true) ∧ Below w.heap.size w w' := by
  obtain ⟨a1, c1, a2, c2, a3, c3, a4, c4, rfl, rfl, rfl, rfl⟩ := H.shapes
  have hC : CB (w.alloc (.cells #[.int .i64 h.now, .int .i64 h.last, .slice a1 h.sh.things.length c1, .slice a2 h.sh.bs.length c2, .slice a3 h.bs.length c3, .slice a4 h.ds.length c4] 29)) w.heap.size [.int .i64 h.now, .int .i64 h.last, .slice a1 h.sh.things.length c1, .slice a2 h.sh.bs.length c2, .slice a3 h.bs.length c3, .slice a4 h.ds.length c4] := cb_alloc w _ _
  have hB0 := (Below.refl w.heap.size w).alloc (Nat.le_refl _) (.cells #[.int .i64 h.now, .int .i64 h.last, .slice a1 h.sh.things.length c1, .slice a2 h.sh.bs.length c2, .slice a3 h.bs.length c3, .slice a4 h.ds.length c4] 29)
  go_enter Tryz.func4, Tryz.ntmps4
  go_upto_region 1 with fail
  generalize w.alloc (.cells #[.int .i64 h.now, .int .i64 h.last, .slice a1 h.sh.things.length c1, .slice a2 h.sh.bs.length c2, .slice a3 h.bs.length c3, .slice a4 h.ds.length c4] 29) = W1 at *
  have hlt := hC.2.2
  have h1 := H.up hB0
  have hE1 := hE.up hB0
  clear H hE
  obtain ⟨d0, d1, d2, d3, d4, d5⟩ := (hC.up (Below.refl _ _) hlt).c6
  go_wp2_with fail
  refine (szHouse_any h _ _ _ _ _ _ h1 (by omega) (by omega)).mono ?_
  rintro e' w2 ⟨⟨y, rfl, hy⟩, hB2⟩
  clear d0 d1 d2 d3 d4 d5
  by_cases hx : y < 0
  · clear hy
    go_wp2_with fail
    go_ret
    exact ⟨rfl, up_trans hB0 hB2⟩
  have hm := hy (by omega)
  clear hy
  obtain ⟨d0, d1, d2, d3, d4, d5⟩ := (hC.up hB2 hlt).c6
  go_wp2_with fail
  refine (toHouse_any h _ _ _ _ _ (h1.up hB2) hm).mono ?_
  rintro e' w3 ⟨⟨p1, p2, p3, p4, rfl, hO3⟩, hB3⟩
  have hB13 := up_trans hB2 hB3
  clear d0 d1 d2 d3 d4 d5
  go_wp2_with fail
  refine (leftS_any h _ _ _ _ _ (hO3.v h1 hm)).mono ?_
  rintro e' w4 ⟨rfl, hB4⟩
  have hB14 := up_trans hB13 hB4
  clear hO3 hB3 hB13 hB4
  obtain ⟨d0, d1, d2, d3, d4, d5⟩ := (hC.up hB14 hlt).c6
  go_wp2_with fail
  refine (toHouse_any h _ _ _ _ _ (h1.up hB14) hm).mono ?_
  rintro e' w5 ⟨⟨q1, q2, b5, q4, rfl, hO5⟩, hB5⟩
  have hB15 := up_trans hB14 hB5
  clear d0 d1 d2 d3 d4 d5
  obtain ⟨e1, g1, e2, g2, e4, g4, rfl, rfl, rfl⟩ := hO5.shapes
  have hX : CB (w5.alloc (.cells #[.int .i64 h.now, .int .i64 h.last, .slice e1 h.sh.things.length g1, .slice e2 h.sh.bs.length g2, .slice (some ⟨b5, 0, none⟩) h.bs.length h.bs.length, .slice e4 h.ds.length g4] 38)) w5.heap.size [.int .i64 h.now, .int .i64 h.last, .slice e1 h.sh.things.length g1, .slice e2 h.sh.bs.length g2, .slice (some ⟨b5, 0, none⟩) h.bs.length h.bs.length, .slice e4 h.ds.length g4] := cb_alloc w5 _ _
  have hB6 := (Below.refl w5.heap.size w5).alloc (Nat.le_refl _) (.cells #[.int .i64 h.now, .int .i64 h.last, .slice e1 h.sh.things.length g1, .slice e2 h.sh.bs.length g2, .slice (some ⟨b5, 0, none⟩) h.bs.length h.bs.length, .slice e4 h.ds.length g4] 38)
  go_upto_region 7 with fail
  generalize w5.alloc (.cells #[.int .i64 h.now, .int .i64 h.last, .slice e1 h.sh.things.length g1, .slice e2 h.sh.bs.length g2, .slice (some ⟨b5, 0, none⟩) h.bs.length h.bs.length, .slice e4 h.ds.length g4] 38) = W6 at *
  have hB16 := up_trans hB15 hB6
  have hO6 := hO5.up hB6
  have hXlt := hX.2.2
  obtain ⟨f0, f1, f2, f3, f4, f5⟩ := hX.c6
  clear hO5
  go_wp2_with fail
  refine (leftP_any h _ _ _ _ _ (hE1.up hB16) (hO6.v h1 hm)).mono ?_
  rintro e' w8 ⟨rfl, hB8⟩
  have hB18 := up_trans hB16 hB8
  have hO8 := hO6.up hB8
  have hX8 := hX.up hB8 hXlt
  clear f0 f1 f2 f3 f4 f5 hO6
  have hz6 := hB6.size
  have hz8 := hB8.size
  obtain ⟨f0, f1, f2, f3, f4, f5⟩ := hX8.c6
  obtain ⟨d0, d1, d2, d3, d4, d5⟩ := (hC.up hB18 hlt).c6
  go_upto_region 10 with fail
  have hq8 : w.heap.size < w8.heap.size := Nat.lt_of_lt_of_le hlt hB18.size
  have hr8 : w5.heap.size < w8.heap.size := by omega
  have hS0 : Below w8.heap.size w8 w8 ∧ w8.cell? ⟨w.heap.size, 0, none⟩ = some (.int .i64 h.now) ∧ w8.cell? ⟨w.heap.size, 1, none⟩ = some (.int .i64 h.last) ∧ w8.cell? ⟨w.heap.size, 2, none⟩ = some (.slice a1 h.sh.things.length c1) ∧ w8.cell? ⟨w.heap.size, 3, none⟩ = some (.slice a2 h.sh.bs.length c2) ∧ w8.cell? ⟨w.heap.size, 4, none⟩ = some (.slice a3 h.bs.length c3) ∧ w8.cell? ⟨w.heap.size, 5, none⟩ = some (.slice a4 h.ds.length c4) ∧ w8.cell? ⟨w5.heap.size, 0, none⟩ = some (.int .i64 h.now) ∧ w8.cell? ⟨w5.heap.size, 1, none⟩ = some (.int .i64 h.last) ∧ w8.cell? ⟨w5.heap.size, 2, none⟩ = some (.slice e1 h.sh.things.length g1) ∧ w8.cell? ⟨w5.heap.size, 3, none⟩ = some (.slice e2 h.sh.bs.length g2) ∧ w8.cell? ⟨w5.heap.size, 4, none⟩ = some (.slice (some ⟨b5, 0, none⟩) h.bs.length h.bs.length) ∧ w8.cell? ⟨w5.heap.size, 5, none⟩ = some (.slice e4 h.ds.length g4) := ⟨Below.refl _ _, d0, d1, d2, d3, d4, d5, f0, f1, f2, f3, f4, f5⟩
  clear d0 d1 d2 d3 d4 d5 f0 f1 f2 f3 f4 f5
  go_wp2_with fail
  go_region_held (fun w' => Below w8.heap.size w8 w' ∧ w'.cell? ⟨w.heap.size, 0, none⟩ = some (.int .i64 h.now) ∧ w'.cell? ⟨w.heap.size, 1, none⟩ = some (.int .i64 h.last) ∧ w'.cell? ⟨w.heap.size, 2, none⟩ = some (.slice a1 h.sh.things.length c1) ∧ w'.cell? ⟨w.heap.size, 3, none⟩ = some (.slice a2 h.sh.bs.length c2) ∧ w'.cell? ⟨w.heap.size, 4, none⟩ = some (.slice a3 h.bs.length c3) ∧ w'.cell? ⟨w.heap.size, 5, none⟩ = some (.slice a4 h.ds.length c4) ∧ w'.cell? ⟨w5.heap.size, 0, none⟩ = some (.int .i64 h.now) ∧ w'.cell? ⟨w5.heap.size, 1, none⟩ = some (.int .i64 h.last) ∧ w'.cell? ⟨w5.heap.size, 2, none⟩ = some (.slice e1 h.sh.things.length g1) ∧ w'.cell? ⟨w5.heap.size, 3, none⟩ = some (.slice e2 h.sh.bs.length g2) ∧ w'.cell? ⟨w5.heap.size, 4, none⟩ = some (.slice (some ⟨b5, 0, none⟩) h.bs.length h.bs.length) ∧ w'.cell? ⟨w5.heap.size, 5, none⟩ = some (.slice e4 h.ds.length g4)) (first | exact k12_drew hS0 | exact k12_up hq8 hr8 (by assumption) (by assumption))
    (first
      | (go_at_call 7; refine (toHouse_any h _ _ _ _ _ (h1.up hB18.drew) hm).mono ?_; rintro e' w9 ⟨⟨r1, r2, r3, r4, rfl, hO9⟩, hb9⟩; have hO89 := (hO8.up (Below.refl _ _).drew).up hb9; obtain ⟨i1, j1, i2, j2, i4, j4, rfl, rfl, rfl⟩ := hO9.shapes)
      | (go_at_call 9; refine (eqHouse_any h _ _ _ _ _ _ _ _ _ hO89 hO9 hm).mono ?_; rintro e' wA ⟨rfl, hbA⟩))
  rename_i hHeld
  have hB8A := hHeld.1
  have hB1A := up_trans hB18 hB8A
  clear hHeld hS0 hO89 hO9 hb9 hbA hO8 hX8
  go_wp2_with fail
  go_ret
  exact ⟨rfl, up_trans hB0 hB1A⟩
end Go.Proofs.YtlkpgiifdclijaaGreatDoor
