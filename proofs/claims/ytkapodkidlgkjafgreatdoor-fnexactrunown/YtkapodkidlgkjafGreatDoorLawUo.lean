/- The law of RunOwn: its walk. -/
import Derived.Test.YtkapodkidlgkjafGreatDoorLawU3
import Derived.Test.YtkapodkidlgkjafGreatDoorU8
namespace Go.Proofs.YtkapodkidlgkjafGreatDoor
open Go.RowKit

theorem rbOwn_len (x : Rb) : (rbOwn x).length ≤ 24 := by
  by_cases h : RbOk x
  · rw [rbOwn_ok h]
    have h1 := thE_len x.sl (ofL (phOf x.ps x.ad))
    have h2 := ofL_len (phOf x.ps x.ad)
    omega
  · rw [rbOwn_no h]; simp
set_option maxRecDepth 20000 in
set_option maxHeartbeats 8000000 in
theorem lawOwn_any (x : Rb) (rv sv : Value) (w : World) (hE : Ends w) (h : RbSrc w x rv sv) :
    Calls Tryz.prog 3 #[.agg #[.string x.nm, rv, sv, .string x.ad, .int .i64 x.si, .int .i64 x.st]] w fun e' w' => e' = .returned (.bool true) ∧ Below w.heap.size w w' := by
  obtain ⟨a1, c1, hrv⟩ := h.r.shape
  obtain ⟨a2, c2, hsv⟩ := h.s.shape
  subst hrv hsv
  have hsl := rbOwn_len x
  have hC : CB (w.alloc (.cells #[.string x.nm, .slice a1 x.ps.length c1, .slice a2 x.sl.length c2, .string x.ad, .int .i64 x.si, .int .i64 x.st] 25)) w.heap.size [.string x.nm, .slice a1 x.ps.length c1, .slice a2 x.sl.length c2, .string x.ad, .int .i64 x.si, .int .i64 x.st] := cb_alloc w _ _
  have hB0 := (Below.refl w.heap.size w).alloc (Nat.le_refl _) (.cells #[.string x.nm, .slice a1 x.ps.length c1, .slice a2 x.sl.length c2, .string x.ad, .int .i64 x.si, .int .i64 x.st] 25)
  go_enter Tryz.func3, Tryz.ntmps3
  go_upto_region 1 with fail
  generalize w.alloc (.cells #[.string x.nm, .slice a1 x.ps.length c1, .slice a2 x.sl.length c2, .string x.ad, .int .i64 x.si, .int .i64 x.st] 25) = W1 at *
  have hlt := hC.2.2
  have h1 := h.up hB0
  have hE1 := hE.up hB0
  clear h hE
  obtain ⟨d0, d1, d2, d3, d4, d5⟩ := (hC.up (Below.refl _ _) hlt).c6
  go_wp2_with fail
  refine (szRb_any x _ _ _ h1 _ (by omega) (by omega)).mono ?_
  rintro e' w2 ⟨⟨y, rfl, hy, -⟩, hB2⟩
  clear d0 d1 d2 d3 d4 d5
  by_cases hx : y < 0
  · go_wp2_with fail
    go_ret
    exact ⟨rfl, up_trans hB0 hB2⟩
  obtain ⟨np, ns, -⟩ := hy (by omega)
  clear hy
  obtain ⟨d0, d1, d2, d3, d4, d5⟩ := (hC.up hB2 hlt).c6
  go_wp2_with fail
  refine (toRb_any x _ _ _ (h1.up hB2) np ns).mono ?_
  rintro e' w3 ⟨⟨p1, p2, rfl, hO3⟩, hB3⟩
  have hB13 := up_trans hB2 hB3
  clear d0 d1 d2 d3 d4 d5
  go_wp2_with fail
  refine (ownS_any x _ _ _ (hO3.v h1 np ns)).mono ?_
  rintro e' w4 ⟨⟨u0, rfl, hU⟩, hB4⟩
  have hB14 := up_trans hB13 hB4
  have hU4 : Lst w4 u0 (rbOwn x) := .inr hU
  have hUlt := hU4.lt
  clear hO3 hB3 hU hB13 hB4
  obtain ⟨d0, d1, d2, d3, d4, d5⟩ := (hC.up hB14 hlt).c6
  go_wp2_with fail
  refine (toRb_any x _ _ _ (h1.up hB14) np ns).mono ?_
  rintro e' w5 ⟨⟨b1, b2, rfl, hO5⟩, hB5⟩
  have hB15 := up_trans hB14 hB5
  have hU5 := hU4.up hB5
  clear d0 d1 d2 d3 d4 d5
  have hX : CB (w5.alloc (.cells #[.string x.nm, .slice (some ⟨b1, 0, none⟩) x.ps.length x.ps.length, .slice (some ⟨b2, 0, none⟩) x.sl.length x.sl.length, .string x.ad, .int .i64 x.si, .int .i64 x.st] 32)) w5.heap.size [.string x.nm, .slice (some ⟨b1, 0, none⟩) x.ps.length x.ps.length, .slice (some ⟨b2, 0, none⟩) x.sl.length x.sl.length, .string x.ad, .int .i64 x.si, .int .i64 x.st] := cb_alloc w5 _ _
  have hB6 := (Below.refl w5.heap.size w5).alloc (Nat.le_refl _) (.cells #[.string x.nm, .slice (some ⟨b1, 0, none⟩) x.ps.length x.ps.length, .slice (some ⟨b2, 0, none⟩) x.sl.length x.sl.length, .string x.ad, .int .i64 x.si, .int .i64 x.st] 32)
  have hb1lt := hO5.r.2.2
  have hb2lt := hO5.s.2.2
  go_upto_region 7 with fail
  generalize w5.alloc (.cells #[.string x.nm, .slice (some ⟨b1, 0, none⟩) x.ps.length x.ps.length, .slice (some ⟨b2, 0, none⟩) x.sl.length x.sl.length, .string x.ad, .int .i64 x.si, .int .i64 x.st] 32) = W6 at *
  have hB16 := up_trans hB15 hB6
  have hO6 := hO5.up hB6
  have hU6 := hU5.up hB6
  have hXlt := hX.2.2
  obtain ⟨f0, f1, f2, f3, f4, f5⟩ := hX.c6
  clear hO5 hU5 hU4
  go_wp2_with fail
  refine (ownP_any x _ _ _ (hE1.up hB16) (hO6.v h1 np ns)).mono ?_
  rintro e' w7 ⟨⟨ug, rfl, hG7⟩, hB7⟩
  have hB17 := up_trans hB16 hB7
  have hU7 := hU6.up hB7
  have hO7 := hO6.up hB7
  have hX7 := hX.up hB7 hXlt
  clear f0 f1 f2 f3 f4 f5 hU6 hO6
  go_wp2_with fail
  refine (eqStr_any (rbOwn x) ug u0 _ hG7.lst hU7 (by omega)).mono ?_
  rintro e' w8 ⟨rfl, hB8⟩
  have hB18 := up_trans hB17 hB8
  have hU8 := hU7.up hB8
  have hG8 := hG7.up hB8
  have hO8 := hO7.up hB8
  have hX8 := hX7.up hB8 (Nat.lt_of_lt_of_le hXlt hB7.size)
  clear hU7 hG7 hO7 hX7
  have hz6 := hB6.size
  have hz7 := hB7.size
  have hz8 := hB8.size
  obtain ⟨f0, f1, f2, f3, f4, f5⟩ := hX8.c6
  obtain ⟨d0, d1, d2, d3, d4, d5⟩ := (hC.up hB18 hlt).c6
  go_upto_region 10 with fail
  have hq8 : w.heap.size < w8.heap.size := Nat.lt_of_lt_of_le hlt hB18.size
  have hr8 : w5.heap.size < w8.heap.size := by omega
  have hS0 : Below w8.heap.size w8 w8 ∧ w8.cell? ⟨w.heap.size, 0, none⟩ = some (.string x.nm) ∧ w8.cell? ⟨w.heap.size, 1, none⟩ = some (.slice a1 x.ps.length c1) ∧ w8.cell? ⟨w.heap.size, 2, none⟩ = some (.slice a2 x.sl.length c2) ∧ w8.cell? ⟨w.heap.size, 3, none⟩ = some (.string x.ad) ∧ w8.cell? ⟨w.heap.size, 4, none⟩ = some (.int .i64 x.si) ∧ w8.cell? ⟨w.heap.size, 5, none⟩ = some (.int .i64 x.st) ∧ w8.cell? ⟨w5.heap.size, 0, none⟩ = some (.string x.nm) ∧ w8.cell? ⟨w5.heap.size, 1, none⟩ = some (.slice (some ⟨b1, 0, none⟩) x.ps.length x.ps.length) ∧ w8.cell? ⟨w5.heap.size, 2, none⟩ = some (.slice (some ⟨b2, 0, none⟩) x.sl.length x.sl.length) ∧ w8.cell? ⟨w5.heap.size, 3, none⟩ = some (.string x.ad) ∧ w8.cell? ⟨w5.heap.size, 4, none⟩ = some (.int .i64 x.si) ∧ w8.cell? ⟨w5.heap.size, 5, none⟩ = some (.int .i64 x.st) := ⟨Below.refl _ _, d0, d1, d2, d3, d4, d5, f0, f1, f2, f3, f4, f5⟩
  clear d0 d1 d2 d3 d4 d5 f0 f1 f2 f3 f4 f5
  go_wp2_with fail
  go_region_held (fun w' => Below w8.heap.size w8 w' ∧ w'.cell? ⟨w.heap.size, 0, none⟩ = some (.string x.nm) ∧ w'.cell? ⟨w.heap.size, 1, none⟩ = some (.slice a1 x.ps.length c1) ∧ w'.cell? ⟨w.heap.size, 2, none⟩ = some (.slice a2 x.sl.length c2) ∧ w'.cell? ⟨w.heap.size, 3, none⟩ = some (.string x.ad) ∧ w'.cell? ⟨w.heap.size, 4, none⟩ = some (.int .i64 x.si) ∧ w'.cell? ⟨w.heap.size, 5, none⟩ = some (.int .i64 x.st) ∧ w'.cell? ⟨w5.heap.size, 0, none⟩ = some (.string x.nm) ∧ w'.cell? ⟨w5.heap.size, 1, none⟩ = some (.slice (some ⟨b1, 0, none⟩) x.ps.length x.ps.length) ∧ w'.cell? ⟨w5.heap.size, 2, none⟩ = some (.slice (some ⟨b2, 0, none⟩) x.sl.length x.sl.length) ∧ w'.cell? ⟨w5.heap.size, 3, none⟩ = some (.string x.ad) ∧ w'.cell? ⟨w5.heap.size, 4, none⟩ = some (.int .i64 x.si) ∧ w'.cell? ⟨w5.heap.size, 5, none⟩ = some (.int .i64 x.st)) (first | exact k12_drew hS0 | exact k12_up hq8 hr8 (by assumption) (by assumption))
    (first
      | (go_at_call 9; refine (toRb_any x _ _ _ (h1.up hB18.drew) np ns).mono ?_; rintro e' w9 ⟨⟨q1, q2, rfl, hO9⟩, hb9⟩; have hO89 := (hO8.up (Below.refl _ _).drew).up hb9)
      | (go_at_call 12; refine (eqRb_any x b1 b2 q1 q2 _ _ _ hO89 hO9 np ns).mono ?_; rintro e' wA ⟨rfl, hbA⟩))
  rename_i hHeld
  have hB8A := hHeld.1
  have hB1A := up_trans hB18 hB8A
  have hUA := hU8.up hB8A
  have hGA := hG8.up hB8A
  have hOA := hO8.up hB8A
  obtain ⟨f0, f1, f2, f3, f4, f5⟩ := (hX8.up hB8A hr8).c6
  clear hHeld hS0 hO89 hO9 hb9 hbA hU8 hG8 hO8 hX8
  go_wp2_with fail
  refine (markRb_any x b1 b2 _ _ hOA np ns).mono ?_
  rintro e' wB ⟨⟨k9, rfl, hk9⟩, m1, m2, hm0, hm1, hm2⟩
  have hz14 := hB14.size
  have hl1 := hOA.l1
  have hl2 := hOA.l2
  have hB1B := below_gr (below_gr (up_trans hB1A hm0) hm1 (by omega)) hm2 (by omega)
  have hUB := ((hUA.up hm0).grown hm1 (fun g hg => by have := hUlt g hg; simp; omega)).grown hm2 (fun g hg => by have := hUlt g hg; simp; omega)
  have hGB : OwnT wB W6.heap.size ug (rbOwn x) := own_grown (own_grown (hGA.up hm0) hm1 (by omega)) hm2 (by omega)
  clear hUA hGA hOA hm0 hm1 hm2 f0 f1 f2 f3 f4 f5
  have hk9' : ¬ k9 < 0 := by omega
  go_wp2_with fail
  refine (eqStr_any (rbOwn x) ug u0 _ hGB.lst hUB (by omega)).mono ?_
  rintro e' wC ⟨rfl, hBC⟩
  have hB1C := up_trans hB1B hBC
  have hUC := hUB.up hBC
  have hGC := hGB.up hBC
  clear hUB hGB
  go_wp2_with fail
  refine (markS_any (rbOwn x) W6.heap.size ug 1 _ hGC (by omega) (by omega) (by omega)).mono ?_
  rintro e' wD ⟨rfl, ⟨ys, hyl, hM, hGD⟩, hgD⟩
  have hz16 := hB16.size
  have hB1D := below_own hB1C hGC hgD (by omega)
  have hUD := hUC.grown hgD (fun g hg => own_ne hGC (by have := hUlt g hg; have := hB5.size; omega))
  rw [← hyl] at hM
  clear hUC hGC hgD
  go_wp2_with fail
  refine (heldS_any ys W6.heap.size ug 1 _ hGD hM (by omega) (by omega) (by omega)).mono ?_
  rintro e' wE ⟨rfl, hBE⟩
  have hB1E := up_trans hB1D hBE
  have hUE := hUD.up hBE
  have hGE := hGD.up hBE
  rw [hyl]
  clear hUD hGD
  obtain ⟨d0, d1, d2, d3, d4, d5⟩ := (hC.up hB1E hlt).c6
  go_wp2_with fail
  refine (toRb_any x _ _ _ (h1.up hB1E) np ns).mono ?_
  rintro e' wF ⟨⟨r1, r2, rfl, hOF⟩, hBF⟩
  have hB1F := up_trans hB1E hBF
  have hUF := hUE.up hBF
  have hGF := hGE.up hBF
  clear d0 d1 d2 d3 d4 d5
  clear hUE hGE
  go_wp2_with fail
  refine (ownP_any x _ _ _ (hE1.up hB1F) (hOF.v h1 np ns)).mono ?_
  rintro e' wG ⟨⟨uh, rfl, hHG⟩, hBG⟩
  have hB1G := up_trans hB1F hBG
  have hUG := hUF.up hBG
  have hGG := hGF.up hBG
  clear hUF hGF hOF
  go_wp2_with fail
  refine (eqStr_any (rbOwn x) uh u0 _ hHG.lst hUG (by omega)).mono ?_
  rintro e' wH ⟨rfl, hBH⟩
  have hB1H := up_trans hB1G hBH
  have hGH := hGG.up hBH
  clear hUG hGG hHG
  go_wp2_with fail
  refine (heldS_any ys W6.heap.size ug 1 _ hGH hM (by omega) (by omega) (by omega)).mono ?_
  rintro e' wI ⟨rfl, hBI⟩
  have hB1I := up_trans hB1H hBI
  rw [hyl]
  clear hGH
  go_wp2_with fail
  go_ret
  exact ⟨rfl, up_trans hB0 hB1I⟩
end Go.Proofs.YtkapodkidlgkjafGreatDoor
