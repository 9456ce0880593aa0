/- The law of ShareEnter: its walk. -/
import Derived.Test.YtialglmnfchfmadGreatDoorLawL1a
import Derived.Test.YtialglmnfchfmadGreatDoorKt7
import Derived.Test.YtialglmnfchfmadGreatDoorKrq
namespace Go.Proofs.YtialglmnfchfmadGreatDoor
open Go.RowKit

theorem lit_enter (b : Bk) (nm : ByteArray) (ls : List ByteArray) : Lit (enterB b nm ls) := by
  rcases enter_cases b nm ls with e | ⟨hok, e⟩ | ⟨hok, h8, e⟩ <;> rw [e]
  · exact ⟨by simp [nobody], by simp [nobody], fun x hx => by simp [nobody] at hx⟩
  · exact lit_ok hok
  · obtain ⟨s1, s2, s3⟩ := lit_ok hok
    have h5 := (ok_small hok).2.1
    refine ⟨s1, ?_, fun x hx => ?_⟩
    · show List.length (_ ++ _ :: _) ≤ _
      rw [List.length_append, List.length_take, List.length_cons, List.length_drop]; omega
    · rcases ins_mem hx with k | k
      · exact s3 x k
      · subst k; exact ⟨by simp, by show ls.length ≤ _; omega⟩
set_option maxRecDepth 20000 in
set_option maxHeartbeats 16000000 in
theorem lawEnter_any (b : Bk) (v : Value) (nm : ByteArray) (ls : List ByteArray) (lv : Value) (w : World) (hE : ErrT w) (h : BkV w v b) (hz : nm.size ≤ maxLen) (hl : Ls w lv ls) :
    Calls Tryz.prog 3 #[v, .string nm, lv] w fun e' w' => e' = .returned (.bool true) ∧ Below w.heap.size w w' := by
  obtain ⟨a1, c1, a2, c2, rfl, -, -⟩ := h.parts
  obtain ⟨la, lc, rfl, -, hzl, -⟩ := id hl
  have Hsz : Hid (Szb (enterB b nm ls)) := szb_enter h.szb hzl
  have Hlit : Hid (Lit (enterB b nm ls)) := lit_enter b nm ls
  have hnz := hz
  unfold maxLen at hz
  obtain ⟨W1, hW1, kA, hB1, hs1⟩ : ∃ W1, w.alloc (.cells #[.slice a1 b.things.length c1, .slice a2 b.bs.length c2] 25) = W1 ∧ CB W1 w.heap.size [.slice a1 b.things.length c1, .slice a2 b.bs.length c2] ∧ Below w.heap.size w W1 ∧ W1.heap.size = w.heap.size + 1 := ⟨_, rfl, cb1 w _ _⟩
  by_cases hnl : 1048576 < nm.size
  · go_enter Tryz.func3, Tryz.ntmps3
    go_upto_region 1 with fail
    try rw [hW1]
    go_wp2_with fail
    go_ret
    exact ⟨rfl, hB1⟩
  go_enter Tryz.func3, Tryz.ntmps3
  go_upto_region 1 with fail
  try rw [hW1]
  clear hW1
  obtain ⟨p0, p1⟩ := kA.c2'
  go_wp2_with fail
  refine (szBook_any b _ _ _ (h.up hB1) (by omega) (by omega)).mono ?_
  rintro e w2 ⟨⟨x, rfl, hxl, hx⟩, hb2⟩
  have hz2 := hb2.size
  have hB2 := up_trans hB1 hb2
  have kA2 := kA.up hb2 (by omega)
  clear p0 p1 kA hB1 hb2
  by_cases hx0 : x < 0
  · clear hx
    go_wp2_with fail
    go_ret
    exact ⟨rfl, hB2⟩
  have hs : Small b := hx (by omega)
  clear hx
  go_wp2_with fail
  refine (szStr_any ls _ _ _ (hl.up hB2) (by omega) (by omega)).mono ?_
  rintro e w2' ⟨⟨y, rfl, hy1, hy2⟩, hw2⟩
  obtain rfl := hw2.symm
  by_cases hy0 : y < 0
  · clear hy2
    go_wp2_with fail
    go_ret
    exact ⟨rfl, hB2⟩
  have hll : ls.length ≤ 1048576 := by have := hy2 (by omega); omega
  clear hy1 hy2
  obtain ⟨p0, p1⟩ := kA2.c2'
  go_wp2_with fail
  refine (toBook_any b _ _ (h.up hB2) hs).mono ?_
  rintro e w3' ⟨⟨u, rfl, hob'⟩, hb3'⟩
  go_wp2_with fail
  refine (toStr_any ls _ _ (hl.up (up_trans hB2 hb3')) hll).mono ?_
  rintro e w3 ⟨⟨u3, rfl, ho3⟩, hb3''⟩
  have hob := hob'.bk.up hb3''
  have hb3 := up_trans hb3' hb3''
  have hz3 := hb3.size
  go_wp2_with fail
  refine (specEnter_any b u u3 nm ls _ hob ho3.ls hnz hll).mono ?_
  rintro e w4 ⟨⟨uw, rfl, hw4⟩, hb4⟩
  have hz4 := hb4.size
  have hb34 := up_trans hb3 hb4
  clear hob' hb3' hb3'' ho3
  have hB4 := up_trans hB2 hb34
  have kA4 := kA2.up hb34 (by omega)
  have hV4 := hw4.bk Hsz.out
  obtain ⟨e1, f1, e2, f2, -, rfl, -⟩ := hw4.parts
  clear p0 p1 kA2 hB2 hb3 hb4 hb34 hob hw4
  go_upto_region 11 with fail
  obtain ⟨W5, hW5, kW5, hb5, hs5⟩ : ∃ W5, w4.alloc (.cells #[.slice e1 (enterB b nm ls).things.length f1, .slice e2 (enterB b nm ls).bs.length f2] 30) = W5 ∧ CB W5 w4.heap.size [.slice e1 (enterB b nm ls).things.length f1, .slice e2 (enterB b nm ls).bs.length f2] ∧ Below w4.heap.size w4 W5 ∧ W5.heap.size = w4.heap.size + 1 := ⟨_, rfl, cb1 w4 _ _⟩
  try rw [hW5]
  clear hW5
  have kA5 := kA4.up hb5 (by omega)
  have hV5 := hV4.up hb5
  have hB5 := up_trans hB4 hb5
  have hE5 := hE.up hB5
  clear kA4 hV4 hB4 hb5 hE
  obtain ⟨p0, p1⟩ := kA5.c2'
  go_wp2_with fail
  refine (toBook_any b _ _ (h.up hB5) hs).mono ?_
  rintro e w6 ⟨⟨u, rfl, hx6⟩, hb6⟩
  obtain ⟨b1, b2, rfl⟩ := hx6.shp
  have hz6 := hb6.size
  have hr6 := hx6.bkR
  clear p0 p1
  go_upto_region 12 with fail
  obtain ⟨W7, hW7, kX7, hb7, hs7⟩ : ∃ W7, w6.alloc (.cells #[.slice (some ⟨b1, 0, none⟩) b.things.length b.things.length, .slice (some ⟨b2, 0, none⟩) b.bs.length b.bs.length] 30) = W7 ∧ CB W7 w6.heap.size [.slice (some ⟨b1, 0, none⟩) b.things.length b.things.length, .slice (some ⟨b2, 0, none⟩) b.bs.length b.bs.length] ∧ Below w6.heap.size w6 W7 ∧ W7.heap.size = w6.heap.size + 1 := ⟨_, rfl, cb1 w6 _ _⟩
  try rw [hW7]
  clear hW7
  have hL7 := up_trans hb6 hb7
  have hx7 := (hx6.up hb7).bk
  have hr7 := hr6.up hb7
  clear hx6 hr6 hb6 hb7
  have hB7 := up_trans hB5 hL7
  go_wp2_with fail
  refine (toStr_any ls _ _ (hl.up hB7) hll).mono ?_
  rintro e wY ⟨⟨uy, rfl, hoy⟩, hbY⟩
  obtain ⟨b3, rfl, ht3, hb3l, hb3h⟩ := hoy.got
  have hlY := hoy.ls
  have hzY := hbY.size
  have hLY := up_trans hL7 hbY
  have kXY := kX7.up hbY (by omega)
  have hxY := hx7.up hbY
  have hrY := hr7.up hbY
  clear hL7 kX7 hx7 hr7 hB7 hbY hoy
  obtain ⟨p0, p1⟩ := kXY.c2'
  go_wp2_with fail
  refine (enterP_any b _ nm _ ls _ hxY hlY hnz (hE5.up hLY)).mono ?_
  rintro e w8 ⟨⟨ug, rfl, hg8⟩, hb8⟩
  have hz8 := hb8.size
  have hl8 := hlY.up hb8
  have ht8 := there_up ht3 hb8 hb3h
  obtain ⟨i1, j1, i2, j2, rfl⟩ := hg8.shape
  have hG8 := hg8.off (Nat.le_refl _)
  have hL8 := up_trans hLY hb8
  have kX8 := kXY.up hb8 (by omega)
  have hx8 := hxY.up hb8
  have hr8 := hrY.up hb8
  clear p0 p1 hLY kXY hxY hrY hb8 hg8 hlY ht3
  go_upto_region 14 with fail
  obtain ⟨W9, hW9, kG9, hb9, hs9⟩ : ∃ W9, w8.alloc (.cells #[.slice i1 (enterB b nm ls).things.length j1, .slice i2 (enterB b nm ls).bs.length j2] 30) = W9 ∧ CB W9 w8.heap.size [.slice i1 (enterB b nm ls).things.length j1, .slice i2 (enterB b nm ls).bs.length j2] ∧ Below w8.heap.size w8 W9 ∧ W9.heap.size = w8.heap.size + 1 := ⟨_, rfl, cb1 w8 _ _⟩
  try rw [hW9]
  clear hW9
  have hL9 := up_trans hL8 hb9
  have kX9 := kX8.up hb9 (by omega)
  have hx9 := hx8.up hb9
  have hr9 := hr8.up hb9
  have hG9 := hG8.up hb9
  have hl9 := hl8.up hb9
  have ht9 := there_up ht8 hb9 (by omega)
  have kW9 := kW5.up hL9 (by omega)
  clear hL8 kX8 hx8 hr8 hG8 hb9 hl8 ht8
  obtain ⟨p0, p1⟩ := kG9.c2'
  obtain ⟨q0, q1⟩ := kW9.c2'
  go_wp2_with fail
  refine (eqBook_any (enterB b nm ls) _ _ _ (hG9.free.bk Hsz.out) (hV5.up hL9)).mono ?_
  rintro e wA ⟨rfl, hbA⟩
  have hzA := hbA.size
  have hLA := up_trans hL9 hbA
  have kXA := kX9.up hbA (by omega)
  have kGA := kG9.up hbA (by omega)
  have hxA := hx9.up hbA
  have hrA := hr9.up hbA
  have hGA := hG9.up hbA
  have hlA := hl9.up hbA
  have htA := there_up ht9 hbA (by omega)
  have kAA := kA5.up hLA (by omega)
  clear p0 p1 q0 q1 kW9 hL9 kX9 kG9 hx9 hr9 hG9 hbA hl9 ht9
  obtain ⟨p0, p1⟩ := kXA.c2'
  obtain ⟨q0, q1⟩ := kAA.c2'
  have hS0 : Below wA.heap.size wA wA ∧ World.cell? wA ⟨w6.heap.size, 0, none⟩ = some (.slice (some ⟨b1, 0, none⟩) b.things.length b.things.length) ∧ World.cell? wA ⟨w6.heap.size, 1, none⟩ = some (.slice (some ⟨b2, 0, none⟩) b.bs.length b.bs.length) ∧ World.cell? wA ⟨w.heap.size, 0, none⟩ = some (.slice a1 b.things.length c1) ∧ World.cell? wA ⟨w.heap.size, 1, none⟩ = some (.slice a2 b.bs.length c2) := ⟨Below.refl _ _, p0, p1, q0, q1⟩
  have hq6 : w6.heap.size < wA.heap.size := by omega
  have hq0 : w.heap.size < wA.heap.size := by omega
  have hBA := up_trans hB5 hLA
  clear p0 p1 q0 q1
  go_wp2_with fail
  go_region_held (fun w' => Below wA.heap.size wA w' ∧ World.cell? w' ⟨w6.heap.size, 0, none⟩ = some (.slice (some ⟨b1, 0, none⟩) b.things.length b.things.length) ∧ World.cell? w' ⟨w6.heap.size, 1, none⟩ = some (.slice (some ⟨b2, 0, none⟩) b.bs.length b.bs.length) ∧ World.cell? w' ⟨w.heap.size, 0, none⟩ = some (.slice a1 b.things.length c1) ∧ World.cell? w' ⟨w.heap.size, 1, none⟩ = some (.slice a2 b.bs.length c2)) (first | exact k22_drew hS0 | exact k22_up hq6 hq0 (by assumption) (by assumption))
    (first
      | (go_at_call 8; refine (toBook_any b _ _ (h.up hBA.drew) hs).mono ?_; rintro e' wz ⟨⟨uz, rfl, hOz⟩, hbz⟩; have hxz := (hxA.up (Below.refl _ _).drew).up hbz; obtain ⟨z1, z2, rfl⟩ := hOz.shp)
      | (go_at_call 11; refine (eqBook_any b _ _ _ hxz hOz.bk).mono ?_; rintro e' wB ⟨rfl, hby⟩))
  rename_i hHeld
  have hbB := hHeld.1
  have hzB := hbB.size
  have hLB := up_trans hLA hbB
  have kXB := kXA.up hbB (by omega)
  have kGB := kGA.up hbB (by omega)
  have hrB := hrA.up hbB
  have hGB := hGA.up hbB
  have hlB := hlA.up hbB
  have htB := there_up htA hbB (by omega)
  clear hHeld hS0 hxz hOz hbz hby hLA kXA kGA hxA hrA hGA kAA hBA hbB hlA htA
  have hBB := up_trans hB5 hLB
  go_wp2_with fail
  refine (toStr_any ls _ _ (hl.up hBB) hll).mono ?_
  rintro e wP ⟨⟨up, rfl, hoP⟩, hbP⟩
  have hlP := hlB.up hbP
  go_wp2_with fail
  refine (eqLs_any ls _ _ _ hlP hoP.ls).mono ?_
  rintro e wQ ⟨rfl, hbQ⟩
  have hbR := up_trans hbP hbQ
  have hzR := hbR.size
  have hLR := up_trans hLB hbR
  have kXR := kXB.up hbR (by omega)
  have kGR := kGB.up hbR (by omega)
  have hrR := hrB.up hbR
  have hGR := hGB.up hbR
  have htR := there_up htB hbR (by omega)
  clear hbP hbQ hbR hLB kXB kGB hrB hGB htB hlB hlP hoP hBB
  obtain ⟨p0, p1⟩ := kXR.c2'
  go_wp2_with fail
  refine (mkBook_any b W5.heap.size w6.heap.size _ _ hrR hs).mono ?_
  rintro e wS ⟨⟨mk, rfl, hk1, hk2⟩, hO⟩
  have hzS := hO.2.2.2.1
  have hLS : Below W5.heap.size W5 wS := hLR.trans (hO.below (by omega))
  have kGS := kGR.blk (hO.blk (by omega) (by omega)) hzS
  have hGS := hGR.out hO (by omega)
  have htS : wS.there b3 0 ls.length := there_blk htR (hO.blk (by omega) (by omega))
  clear p0 p1 kXR kGR hrR hGR hLR hO htR
  go_wp2_with fail
  refine (mkLs_any ls.length b3 mk _ htS (by omega) hll (by omega) (by omega)).mono ?_
  rintro e wC ⟨rfl, hgC, -⟩
  have hzC := hgC.size
  have hLC : Below W5.heap.size W5 wC := hLS.trans (below_gr2 hgC (by omega) (by omega))
  have kGC := kGS.kept hgC (by simp; omega)
  have hGC := hGS.gr hgC (by omega)
  have kWC := kW5.up hLC (by omega)
  clear kGS hGS hLS hgC htS
  obtain ⟨p0, p1⟩ := kGC.c2'
  obtain ⟨q0, q1⟩ := kWC.c2'
  have hkb : decide (mk + (ls.length : Int) < 0) = false := by simp; omega
  go_wp2_with fail
  refine (eqBook_any (enterB b nm ls) _ _ _ (hGC.free.bk Hsz.out) (hV5.up hLC)).mono ?_
  rintro e wD ⟨rfl, hbD⟩
  have hzD := hbD.size
  have hLD := up_trans hLC hbD
  have kGD := kGC.up hbD (by omega)
  have hGD := hGC.up hbD
  clear p0 p1 q0 q1 kWC kGC hGC hLC hbD
  obtain ⟨p0, p1⟩ := kGD.c2'
  go_wp2_with fail
  refine (mkBookF_any (enterB b nm ls) wY.heap.size _ _ w8.heap.size (by omega) hGD Hlit.out (by omega)).mono ?_
  rintro e wE ⟨rfl, hGE, hbE, hkE⟩
  have hzE := hbE.size
  have hLE : Below W5.heap.size W5 wE := hLD.trans (hbE.mono (by omega))
  have kGE := kGD.blk hkE hzE
  have hFE := hGE.free
  have hme := mkEnd_pos (enterB b nm ls)
  clear p0 p1 kGD hGD hLD hbE hkE hGE
  obtain ⟨p0, p1⟩ := kGE.c2'
  go_wp2_with fail
  refine (heldBookF_any (enterB b nm ls) wY.heap.size _ _ hFE Hlit.out).mono ?_
  rintro e wF ⟨rfl, hbF⟩
  have hzF := hbF.size
  have hLF := up_trans hLE hbF
  have kGF := kGE.up hbF (by omega)
  have hFF := hFE.up hbF
  have hBF := up_trans hB5 hLF
  have kAF := kA5.up hLF (by omega)
  clear p0 p1 kGE hFE hLE hbF
  obtain ⟨p0, p1⟩ := kAF.c2'
  have hn1 : ¬ mkEnd (enterB b nm ls) < 0 := by omega
  go_wp2_with fail
  refine (toBook_any b _ _ (h.up hBF) hs).mono ?_
  rintro e wG ⟨⟨u, rfl, hxG⟩, hbG⟩
  obtain ⟨y1, y2, rfl⟩ := hxG.shp
  have hzG := hbG.size
  have hLG := up_trans hLF hbG
  have kGG := kGF.up hbG (by omega)
  have hFG := hFF.up hbG
  clear p0 p1 kAF kGF hFF hLF hbG hBF
  go_wp2_with fail
  refine (toStr_any ls _ _ (hl.up (up_trans hB5 hLG)) hll).mono ?_
  rintro e wT ⟨⟨ut, rfl, hoT⟩, hbT⟩
  have hzT := hbT.size
  have hxT := hxG.bk.up hbT
  have hLT := up_trans hLG hbT
  have kGT := kGG.up hbT (by omega)
  have hFT := hFG.up hbT
  clear hxG hLG kGG hFG hbT
  go_wp2_with fail
  refine (enterP_any b _ nm _ ls _ hxT hoT.ls hnz (hE5.up hLT)).mono ?_
  rintro e wH ⟨⟨uh, rfl, hgH⟩, hbH⟩
  obtain ⟨m1, n1, m2, n2, rfl⟩ := hgH.shape
  have hzH := hbH.size
  have hLH := up_trans hLT hbH
  have kGH := kGT.up hbH (by omega)
  have hFH := hFT.up hbH
  clear hxT hLT kGT hFT hbH hoT
  go_upto_region 34 with fail
  obtain ⟨W0, hW0, kH0, hb0, hs0⟩ : ∃ W0, wH.alloc (.cells #[.slice m1 (enterB b nm ls).things.length n1, .slice m2 (enterB b nm ls).bs.length n2] 30) = W0 ∧ CB W0 wH.heap.size [.slice m1 (enterB b nm ls).things.length n1, .slice m2 (enterB b nm ls).bs.length n2] ∧ Below wH.heap.size wH W0 ∧ W0.heap.size = wH.heap.size + 1 := ⟨_, rfl, cb1 wH _ _⟩
  try rw [hW0]
  clear hW0
  have hL0 := up_trans hLH hb0
  have kG0 := kGH.up hb0 (by omega)
  have hF0 := hFH.up hb0
  have hh0 := hgH.up hb0
  have kW0 := kW5.up hL0 (by omega)
  clear hLH kGH hFH hgH hb0
  obtain ⟨p0, p1⟩ := kH0.c2'
  obtain ⟨q0, q1⟩ := kW0.c2'
  go_wp2_with fail
  refine (eqBook_any (enterB b nm ls) _ _ _ (hh0.bk Hsz.out) (hV5.up hL0)).mono ?_
  rintro e wJ ⟨rfl, hbJ⟩
  have hLJ := up_trans hL0 hbJ
  have kGJ := kG0.up hbJ (by omega)
  have hFJ := hF0.up hbJ
  clear p0 p1 q0 q1 kW0 kH0 hL0 kG0 hF0 hh0 hbJ
  obtain ⟨p0, p1⟩ := kGJ.c2'
  go_wp2_with fail
  refine (heldBookF_any (enterB b nm ls) wY.heap.size _ _ hFJ Hlit.out).mono ?_
  rintro e wK ⟨rfl, hbK⟩
  have hBK := up_trans hB5 (up_trans hLJ hbK)
  clear p0 p1
  go_wp2_with fail
  go_ret
  exact ⟨rfl, hBK⟩
end Go.Proofs.YtialglmnfchfmadGreatDoor
