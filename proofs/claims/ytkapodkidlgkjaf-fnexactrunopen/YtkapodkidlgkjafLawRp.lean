/- The law of RunOpen: its walk. -/
import Derived.Test.YtkapodkidlgkjafLawRo
namespace Go.Proofs.Ytkapodkidlgkjaf
open Go.RowKit

set_option maxRecDepth 20000 in
set_option maxHeartbeats 8000000 in
theorem lawOpen_any (ls : List ByteArray) (lv : Value) (w : World) (h : Ls w lv ls) :
    Calls Try.prog 3 #[lv] w fun e' w' => e' = .returned (.bool true) ∧ Below w.heap.size w w' := by
  obtain ⟨al, cl, rfl, -, hlz, -⟩ := id h
  have Hz : Hid (∀ s ∈ opL ls, s.size ≤ maxLen) := opL_sz hlz
  have h8 := opL_len ls
  clear hlz
  go_enter Try.func3, Try.ntmps3
  go_wp2_with fail
  refine (szStr_any ls _ _ _ h (by omega) (by omega)).mono ?_
  rintro e w' ⟨⟨x, rfl, -, hx⟩, hw⟩
  obtain rfl := hw.symm
  clear hw
  by_cases hx0 : x < 0
  · clear hx
    go_wp2_with fail
    go_ret
    exact ⟨rfl, Below.refl _ _⟩
  have hn : ls.length ≤ 1048576 := by have := hx (by omega); omega
  clear hx
  go_wp2_with fail
  refine (toStr_any ls _ _ h hn).mono ?_
  rintro e w1 ⟨⟨u1, rfl, ho1⟩, hb1⟩
  go_wp2_with fail
  refine (specOpen_any ls _ _ ho1.ls hn).mono ?_
  rintro e w2 ⟨⟨u2, rfl, a1, c1, a2, c2, rfl, hW⟩, hb2⟩
  have hB2 := up_trans hb1 hb2
  have hz2 := hB2.size
  have hWl : ∀ g, (Value.slice a1 (opL ls).length c1).ownBlock = some g → g < w2.heap.size := fun g hg => (hW.lt g hg).2
  clear ho1 hb1 hb2
  go_upto_region 6 with fail
  obtain ⟨W3, hW3, kW, hb3, hs3⟩ : ∃ W3, w2.alloc (.cells #[.int .i64 0, .int .i64 0, .slice a1 (opL ls).length c1, .slice a2 0 c2, .slice none 0 0, .slice none 0 0] 30) = W3 ∧ CB W3 w2.heap.size [.int .i64 0, .int .i64 0, .slice a1 (opL ls).length c1, .slice a2 0 c2, .slice none 0 0, .slice none 0 0] ∧ Below w2.heap.size w2 W3 ∧ W3.heap.size = w2.heap.size + 1 := ⟨_, rfl, cb1 w2 _ _⟩
  try rw [hW3]
  clear hW3
  have hB3 := up_trans hB2 hb3
  have hW := hW.up hb3
  clear hB2 hb3
  go_wp2_with fail
  refine (toStr_any ls _ _ (h.up hB3) hn).mono ?_
  rintro e w4 ⟨⟨u4, rfl, hX⟩, hb4⟩
  obtain ⟨bx, rfl, hbx, ht4, hbx0, hbx1, hxz⟩ := hX
  have hX : LsO w4 W3.heap.size (.slice (some ⟨bx, 0, none⟩) ls.length ls.length) ls := ⟨bx, rfl, hbx, ht4, hbx0, hbx1, hxz⟩
  clear hbx ht4 hxz
  have hz4 := hb4.size
  have hB4 := up_trans hB3 hb4
  have kW := kW.up hb4 (by omega)
  have hW := hW.up hb4
  clear hB3 hb4
  go_wp2_with fail
  refine (openP_any ls _ _ hX.ls).mono ?_
  rintro e w5 ⟨⟨u5, rfl, a3, c3, a4, c4, rfl, hG⟩, hb5⟩
  have hz5 := hb5.size
  have hB5 := up_trans hB4 hb5
  have kW := kW.up hb5 (by omega)
  have hW := hW.up hb5
  have hX := hX.up hb5
  clear hB4 hb5
  go_upto_region 8 with fail
  obtain ⟨W6, hW6, kG, hb6, hs6⟩ : ∃ W6, w5.alloc (.cells #[.int .i64 0, .int .i64 0, .slice a3 (opL ls).length c3, .slice a4 0 c4, .slice none 0 0, .slice none 0 0] 30) = W6 ∧ CB W6 w5.heap.size [.int .i64 0, .int .i64 0, .slice a3 (opL ls).length c3, .slice a4 0 c4, .slice none 0 0, .slice none 0 0] ∧ Below w5.heap.size w5 W6 ∧ W6.heap.size = w5.heap.size + 1 := ⟨_, rfl, cb1 w5 _ _⟩
  try rw [hW6]
  clear hW6
  have hB6 := up_trans hB5 hb6
  have kW := kW.up hb6 (by omega)
  have hW := hW.up hb6
  have hX := hX.up hb6
  have hgl : ∀ g, (Value.slice a3 (opL ls).length c3).ownBlock = some g → w4.heap.size ≤ g ∧ g < w5.heap.size := fun g hg => hG.lt g hg
  have hG := hG.up hb6
  clear hB5 hb6
  obtain ⟨p0, p1, p2, p3, p4, p5⟩ := kW.c6
  obtain ⟨q0, q1, q2, q3, q4, q5⟩ := kG.c6
  go_wp2_with fail
  refine (eqHo0_any (opL ls) _ _ _ _ _ _ _ _ _ (hG.lst.ls Hz.out) (hW.lst.ls Hz.out)).mono ?_
  rintro e w7 ⟨rfl, hb7⟩
  have hz7 := hb7.size
  have hB7 := up_trans hB6 hb7
  have kW := kW.up hb7 (by omega)
  have kG := kG.up hb7 (by omega)
  have hW := hW.up hb7
  have hX := hX.up hb7
  have hG := hG.up hb7
  clear p0 p1 p2 p3 p4 p5 q0 q1 q2 q3 q4 q5 hB6 hb7
  go_wp2_with fail
  refine (toStr_any ls _ _ (h.up hB7) hn).mono ?_
  rintro e w8 ⟨⟨u8, rfl, hY⟩, hb8⟩
  have hz8 := hb8.size
  have hB8 := up_trans hB7 hb8
  have kW := kW.up hb8 (by omega)
  have kG := kG.up hb8 (by omega)
  have hW := hW.up hb8
  have hX := hX.up hb8
  have hG := hG.up hb8
  clear hB7 hb8
  go_wp2_with fail
  refine (eqLs_any ls _ _ _ hX.ls hY.ls).mono ?_
  rintro e w9 ⟨rfl, hb9⟩
  have hz9 := hb9.size
  have hB9 := up_trans hB8 hb9
  have kW := kW.up hb9 (by omega)
  have kG := kG.up hb9 (by omega)
  have hW := hW.up hb9
  have hX := hX.up hb9
  have hG := hG.up hb9
  clear hB8 hb9 hY
  obtain ⟨bx', ex, -, htx, -, hlx, -⟩ := hX
  obtain ⟨e1, -, -⟩ := Value.slice.inj ex
  obtain rfl : bx = bx' := by simpa using e1
  clear ex e1
  go_wp2_with fail
  refine (mkLs_any ls.length bx 1 _ htx hlx hn (by omega) (by omega)).mono ?_
  rintro e wA ⟨rfl, hgA, -⟩
  have hzA := hgA.size
  have hBA : Below w.heap.size w wA := below_gr hB9 hgA (by omega)
  have kW := kW.kept hgA (by simp; omega)
  have kG := kG.kept hgA (by simp; omega)
  have hW := own_keep2 hW hgA (fun g hg e => by have := hWl g hg; have h9 : g = bx := (by simpa using e); omega)
  have hG := own_keep2 hG hgA (fun g hg e => by have := (hgl g hg).1; have h9 : g = bx := (by simpa using e); omega)
  clear hB9 hgA htx hlx
  have hk0 : ¬ (1 + (ls.length : Int) < 0) := by omega
  obtain ⟨p0, p1, p2, p3, p4, p5⟩ := kW.c6
  obtain ⟨q0, q1, q2, q3, q4, q5⟩ := kG.c6
  go_wp2_with fail
  refine (eqHo0_any (opL ls) _ _ _ _ _ _ _ _ _ (OwnT.lst hG |>.ls Hz.out) (OwnT.lst hW |>.ls Hz.out)).mono ?_
  rintro e wB ⟨rfl, hbB⟩
  have hzB := hbB.size
  have hBB := up_trans hBA hbB
  have kW := kW.up hbB (by omega)
  have kG := kG.up hbB (by omega)
  have hW : OwnT wB _ _ _ := OwnT.up hW hbB
  have hG : OwnT wB _ _ _ := OwnT.up hG hbB
  clear p0 p1 p2 p3 p4 p5 q0 q1 q2 q3 q4 q5 hBA hbB
  obtain ⟨q0, q1, q2, q3, q4, q5⟩ := kG.c6
  go_wp2_with fail
  refine (mkHo0_any (opL ls) _ _ _ _ _ _ hG (by omega)).mono ?_
  rintro e wC ⟨rfl, ⟨ys, hyl, hyM, hY⟩, hgC⟩
  have hzC := hgC.size
  have hBC := below_own hBB hG hgC (by omega)
  have kW := kW.kept hgC (fun e => by have := (hgl _ e.symm).1; omega)
  have kG := kG.kept hgC (fun e => by have := (hgl _ e.symm).2; omega)
  have hW : OwnT wC _ _ _ := own_keep2 hW hgC (fun g hg e => by have h1 := hWl g hg; have h2 := (hgl g (by rw [← e])).1; omega)
  have Hyl : Hid (ys.length = (opL ls).length) := hyl
  clear q0 q1 q2 q3 q4 q5 hBB hgC hG hyl
  obtain ⟨q0, q1, q2, q3, q4, q5⟩ := kG.c6
  go_wp2_with fail
  refine (hdHo0_any ys (opL ls).length _ _ _ _ _ _ hY (by omega) Hyl.out hyM).mono ?_
  rintro e wD ⟨rfl, hbD⟩
  have hzD := hbD.size
  have hBD := up_trans hBC hbD
  have kW := kW.up hbD (by omega)
  have kG := kG.up hbD (by omega)
  have hW := hW.up hbD
  have hY := hY.up hbD
  have hn1 : ¬ (1 + ((opL ls).length : Int) < 0) := by omega
  clear q0 q1 q2 q3 q4 q5 hBC hbD
  go_wp2_with fail
  refine (toStr_any ls _ _ (h.up hBD) hn).mono ?_
  rintro e wE ⟨⟨uE, rfl, hE⟩, hbE⟩
  have hzE := hbE.size
  have hBE := up_trans hBD hbE
  have kW := kW.up hbE (by omega)
  have kG := kG.up hbE (by omega)
  have hW := hW.up hbE
  have hY := hY.up hbE
  clear hBD hbE
  go_wp2_with fail
  refine (openP_any ls _ _ hE.ls).mono ?_
  rintro e wF ⟨⟨uF, rfl, a5, c5, a6, c6, rfl, hH⟩, hbF⟩
  have hzF := hbF.size
  have hBF := up_trans hBE hbF
  have kW := kW.up hbF (by omega)
  have kG := kG.up hbF (by omega)
  have hW := hW.up hbF
  have hY := hY.up hbF
  clear hBE hbF hE
  go_upto_region 25 with fail
  obtain ⟨WG, hWG, kH, hbG, hsG⟩ : ∃ WG, wF.alloc (.cells #[.int .i64 0, .int .i64 0, .slice a5 (opL ls).length c5, .slice a6 0 c6, .slice none 0 0, .slice none 0 0] 30) = WG ∧ CB WG wF.heap.size [.int .i64 0, .int .i64 0, .slice a5 (opL ls).length c5, .slice a6 0 c6, .slice none 0 0, .slice none 0 0] ∧ Below wF.heap.size wF WG ∧ WG.heap.size = wF.heap.size + 1 := ⟨_, rfl, cb1 wF _ _⟩
  try rw [hWG]
  clear hWG
  have hBG := up_trans hBF hbG
  have kW := kW.up hbG (by omega)
  have kG := kG.up hbG (by omega)
  have hW := hW.up hbG
  have hY := hY.up hbG
  have hH := hH.up hbG
  clear hBF hbG
  obtain ⟨p0, p1, p2, p3, p4, p5⟩ := kW.c6
  obtain ⟨q0, q1, q2, q3, q4, q5⟩ := kH.c6
  go_wp2_with fail
  refine (eqHo0_any (opL ls) _ _ _ _ _ _ _ _ _ (hH.lst.ls Hz.out) (hW.lst.ls Hz.out)).mono ?_
  rintro e wI ⟨rfl, hbI⟩
  have hzI := hbI.size
  have hBI := up_trans hBG hbI
  have kG := kG.up hbI (by omega)
  have hY := hY.up hbI
  clear p0 p1 p2 p3 p4 p5 q0 q1 q2 q3 q4 q5 hBG hbI
  obtain ⟨q0, q1, q2, q3, q4, q5⟩ := kG.c6
  go_wp2_with fail
  refine (hdHo0_any ys (opL ls).length _ _ _ _ _ _ hY (by omega) Hyl.out hyM).mono ?_
  rintro e wJ ⟨rfl, hbJ⟩
  have hBJ := up_trans hBI hbJ
  clear q0 q1 q2 q3 q4 q5
  go_wp2_with fail
  go_ret
  exact ⟨rfl, hBJ⟩
end Go.Proofs.Ytkapodkidlgkjaf
