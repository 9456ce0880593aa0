/- The law of RecRun: its walk. -/
import Derived.Test.YtkapodkidlgkjahDoorLawRt
import Derived.Test.YtkapodkidlgkjahDoorWh1
import Derived.Test.YtkapodkidlgkjahDoorWh5
namespace Go.Proofs.YtkapodkidlgkjahDoor
open Go.RowKit

theorem there_grown {w w' : World} {b n r : Nat} (h : w.there b 0 n) (hg : w.grownBy w' (some r)) (hb : b < w.heap.size) (hne : b ≠ r) : w'.there b 0 n := fun j hj => by
  have hk := hg.block b hb (by simpa using hne)
  rw [World.cell?_of_block (w := w) (a := ⟨b, 0 + j, none⟩) hk, World.frozen?_of_block (w := w) (a := ⟨b, 0 + j, none⟩) hk]
  exact h j hj

set_option maxRecDepth 20000 in
set_option maxHeartbeats 4000000 in
theorem lawRun_any (ps : List Ph) (v : Value) (ys : List Sy) (v2 : Value) (w : World) (hE : Ends w) (h : Src w v ps) (hs : Sized ps) (h2 : SaySrc w v2 ys) :
    Calls Tryd.prog 7 #[v, v2] w fun e' w' => e' = .returned (.bool true) ∧ Below w.heap.size w w' := by
  have HE : Hid (∀ w', Below w.heap.size w w' → Ends w') := fun w' hb => hE.up hb
  have HS : Hid (∀ w', Below w.heap.size w w' → Src w' v ps) := fun w' hb => h.up hb
  obtain ⟨a2, c2, rfl, hl2⟩ := h2.shape
  have HY : Hid (∀ w', Below w.heap.size w w' → SaySrc w' (.slice a2 ys.length c2) ys) := fun w' hb => h2.up hb
  clear hE h2
  go_enter Tryd.func7, Tryd.ntmps7
  go_wp2_with fail
  refine (szS2_src ps v _ h hs).mono ?_
  rintro e' w1 ⟨⟨x, rfl, hx0, hx9⟩, hB⟩
  by_cases hx : x < 0
  · go_wp2_with fail
    go_ret
    exact ⟨rfl, hB⟩
  have hn : ps.length ≤ 1048576 := hx0 (by omega)
  clear hx0 h
  go_wp2_with fail
  refine (szSay_any _ _ _ _ _ (by omega) hx9 hl2).mono ?_
  rintro e' w' ⟨⟨x2, rfl, hx20⟩, hw⟩
  obtain rfl := hw.symm
  clear hw
  by_cases hx2 : x2 < 0
  · go_wp2_with fail
    go_ret
    exact ⟨rfl, hB⟩
  have hyn : ys.length ≤ 1048576 := hx20 (by omega)
  clear hx20 hl2 hx9
  go_wp2_with fail
  refine (toS_src ps v _ (HS.out _ hB) hn).mono ?_
  rintro e' w2 ⟨⟨b1, rfl, ho1, -⟩, hb2⟩
  have hB := up_trans hB hb2
  go_wp2_with fail
  refine (toY_src ys _ _ (HY.out _ hB) hyn).mono ?_
  rintro e' w3 ⟨⟨d1, rfl, hy1, -⟩, hb3⟩
  have hB := up_trans hB hb3
  have ho1 := ho1.up hb3
  clear hb2 hb3
  go_wp2_with fail
  refine (specRun_any ps ys b1 0 _ d1 0 _ _ ho1.1 ho1.2.2 hy1.1 hy1.2.2 hs hn hyn).mono ?_
  rintro e' w4 ⟨⟨s, u0, path, rfl, hEnd, hU⟩, hb4⟩
  have hB := up_trans hB hb4
  have hU := hU.lst
  have hshort := hEnd.short
  have HEnd : Hid (RunEnd ps ys s path) := hEnd
  clear hb4 ho1 hy1 hEnd
  go_upto_region 9 with fail
  obtain ⟨W5, hW5, k6, hb5, hs5⟩ : ∃ W5, w4.alloc (.cells #[.string s.nm, .int .i64 s.now, .int .i64 s.left] 32) = W5 ∧ CB W5 w4.heap.size s.cells ∧ Below w4.heap.size w4 W5 ∧ W5.heap.size = w4.heap.size + 1 := ⟨_, rfl, cb1 w4 s.cells _⟩
  rw [hW5]
  clear hW5
  have hB := up_trans hB hb5
  have hU := hU.up hb5
  have hUlt := hU.lt
  have hz5 := hB.size
  obtain ⟨q6, hq6⟩ : ∃ q, w4.heap.size = q := ⟨_, rfl⟩
  rw [hq6] at k6 hs5 ⊢
  clear hb5 hq6
  go_wp2_with fail
  refine (toS_src ps v _ (HS.out _ hB) hn).mono ?_
  rintro e' w6 ⟨⟨b2, rfl, ko, hb2l⟩, hb6⟩
  have hB := up_trans hB hb6; have k6 := k6.up hb6 k6.2.2; have hU := hU.up hb6
  have hz6 := hb6.size
  have hb2u := ko.2.2
  clear hb6
  go_wp2_with fail
  refine (toY_src ys _ _ (HY.out _ hB) hyn).mono ?_
  rintro e' w7 ⟨⟨d2, rfl, ky, hd2l⟩, hb7⟩
  have hB := up_trans hB hb7; have k6 := k6.up hb7 k6.2.2; have hU := hU.up hb7
  have ko := ko.up hb7
  have hz7 := hb7.size
  have hd2u := ky.2.2
  clear hb7
  go_wp2_with fail
  refine (recRun_big ps ys b2 0 _ d2 0 _ _ (HE.out _ hB) ko.1 ko.2.2 ky.1 ky.2.2 hs (Nat.le_refl _) (by omega) (Nat.le_refl _) (by omega)).mono ?_
  rintro e' w8 ⟨⟨s', ug, path', rfl, hEnd', hG⟩, hb8⟩
  obtain ⟨rfl, rfl⟩ := HEnd.out.uniq hEnd'
  have hB := up_trans hB hb8; have k6 := k6.up hb8 k6.2.2; have hU := hU.up hb8; have ko := ko.up hb8; have ky := ky.up hb8
  have hz8 := hb8.size
  clear hb8 hEnd'
  go_upto_region 12 with fail
  obtain ⟨W9, hW9, kg, hb9, hs9⟩ : ∃ W9, w8.alloc (.cells #[.string s.nm, .int .i64 s.now, .int .i64 s.left] 32) = W9 ∧ CB W9 w8.heap.size s.cells ∧ Below w8.heap.size w8 W9 ∧ W9.heap.size = w8.heap.size + 1 := ⟨_, rfl, cb1 w8 s.cells _⟩
  rw [hW9]
  clear hW9
  have hB := up_trans hB hb9; have k6 := k6.up hb9 k6.2.2; have hU := hU.up hb9; have ko := ko.up hb9; have ky := ky.up hb9
  have hG := hG.up hb9
  obtain ⟨qg, hqg⟩ : ∃ q, w8.heap.size = q := ⟨_, rfl⟩
  rw [hqg] at kg hs9 hz8 ⊢
  clear hb9 hqg
  obtain ⟨⟨a0, a1, a2⟩, -⟩ := k6.c3
  obtain ⟨⟨g0, g1, g2⟩, -⟩ := kg.c3
  go_wp2_with fail
  refine (eqState_any s _).mono ?_
  rintro e' wa ⟨rfl, hba⟩
  have hB := up_trans hB hba; have k6 := k6.up hba k6.2.2; have hU := hU.up hba; have ko := ko.up hba; have ky := ky.up hba; have kg := kg.up hba kg.2.2; have hG := hG.up hba
  clear a0 a1 a2 g0 g1 g2 hba
  go_wp2_with fail
  refine (eqStr_any path ug u0 _ hG.lst hU (by omega)).mono ?_
  rintro e' wb ⟨rfl, hbb⟩
  have hB := up_trans hB hbb; have k6 := k6.up hbb k6.2.2; have hU := hU.up hbb; have ko := ko.up hbb; have ky := ky.up hbb; have kg := kg.up hbb kg.2.2; have hG := hG.up hbb
  clear hbb
  go_wp2_with fail
  refine (toS_src ps v _ (HS.out _ hB) hn).mono ?_
  rintro e' wc ⟨⟨b3, rfl, ho3, -⟩, hbc⟩
  have hB := up_trans hB hbc; have k6 := k6.up hbc k6.2.2; have hU := hU.up hbc; have ko := ko.up hbc; have ky := ky.up hbc; have kg := kg.up hbc kg.2.2; have hG := hG.up hbc
  clear hbc
  go_wp2_with fail
  refine (eqS_any ps b2 b3 _ _ _ ko.1 ko.2.2 ho3.1 ho3.2.2 hn).mono ?_
  rintro e' wd ⟨rfl, hbd⟩
  have hB := up_trans hB hbd; have k6 := k6.up hbd k6.2.2; have hU := hU.up hbd; have ko := ko.up hbd; have ky := ky.up hbd; have kg := kg.up hbd kg.2.2; have hG := hG.up hbd
  clear hbd ho3
  go_wp2_with fail
  refine (toY_src ys _ _ (HY.out _ hB) hyn).mono ?_
  rintro e' we ⟨⟨d3, rfl, hy3, -⟩, hbe⟩
  have hB := up_trans hB hbe; have k6 := k6.up hbe k6.2.2; have hU := hU.up hbe; have ko := ko.up hbe; have ky := ky.up hbe; have kg := kg.up hbe kg.2.2; have hG := hG.up hbe
  clear hbe
  go_wp2_with fail
  refine (eqY_any ys d2 d3 _ _ _ ky.1 ky.2.2 hy3.1 hy3.2.2 hyn).mono ?_
  rintro e' wf ⟨rfl, hbf⟩
  have hB := up_trans hB hbf; have k6 := k6.up hbf k6.2.2; have hU := hU.up hbf; have ko := ko.up hbf; have ky := ky.up hbf; have kg := kg.up hbf kg.2.2; have hG := hG.up hbf
  clear hbf hy3
  go_wp2_with fail
  refine (markP_any ps.length b2 _ _ ko.2.1 ko.2.2 hn).mono ?_
  rintro e' wg ⟨⟨k9, rfl, hk9⟩, hgg⟩
  have hB := below_gr hB hgg (by omega)
  have k6 := k6.kept hgg (by simp; omega)
  have hU := hU.grown hgg (fun g hg => by have := hUlt g hg; simp; omega)
  have kyt := there_grown ky.2.1 hgg ky.2.2 (by omega)
  have kyl := Nat.lt_of_lt_of_le ky.2.2 hgg.size
  have kg := kg.kept hgg (by simp; omega)
  have hG : OwnT wg w7.heap.size ug path := own_grown hG hgg (by omega)
  clear hgg ko ky
  go_wp2_with fail
  refine (markY_any ys.length d2 _ k9 _ hk9.1 hk9.2 kyt kyl hyn).mono ?_
  rintro e' wh ⟨⟨k10, rfl, hk10⟩, hgh⟩
  have hB := below_gr hB hgh (by omega)
  have k6 := k6.kept hgh (by simp; omega)
  have hU := hU.grown hgh (fun g hg => by have := hUlt g hg; simp; omega)
  have kg := kg.kept hgh (by simp; omega)
  have hG : OwnT wh w7.heap.size ug path := own_grown hG hgh (by omega)
  have hk10' : ¬ k10 < 0 := by omega
  clear hgh kyt kyl
  obtain ⟨⟨a0, a1, a2⟩, -⟩ := k6.c3
  obtain ⟨⟨g0, g1, g2⟩, -⟩ := kg.c3
  go_wp2_with fail
  refine (eqState_any s _).mono ?_
  rintro e' wi ⟨rfl, hbi⟩
  have hB := up_trans hB hbi; have k6 := k6.up hbi k6.2.2; have hU := hU.up hbi
  have hG := hG.up hbi
  clear a0 a1 a2 g0 g1 g2 hbi kg
  go_wp2_with fail
  refine (eqStr_any path ug u0 _ hG.lst hU (by omega)).mono ?_
  rintro e' wj ⟨rfl, hbj⟩
  have hB := up_trans hB hbj; have k6 := k6.up hbj k6.2.2; have hU := hU.up hbj
  have hG := hG.up hbj
  clear hbj
  go_wp2_with fail
  refine (markS_any path w7.heap.size ug 1 _ hG (by omega) (by omega) (by omega)).mono ?_
  rintro e' wk ⟨rfl, ⟨zs, hzl, hM, hG'⟩, hgk⟩
  have hB := below_own hB hG hgk (by omega)
  have k6 := k6.own hG hgk (by omega)
  have hU := hU.grown hgk (fun g hg => own_ne hG (by have := hUlt g hg; omega))
  rw [← hzl] at hM
  clear hgk hG
  go_wp2_with fail
  refine (heldS_any zs w7.heap.size ug 1 _ hG' hM (by omega) (by omega) (by omega)).mono ?_
  rintro e' wl ⟨rfl, hbl⟩
  have hB := up_trans hB hbl; have k6 := k6.up hbl k6.2.2; have hU := hU.up hbl
  have hG' := hG'.up hbl
  rw [hzl]
  clear hbl
  go_wp2_with fail
  refine (toS_src ps v _ (HS.out _ hB) hn).mono ?_
  rintro e' wm ⟨⟨b4, rfl, ho4, -⟩, hbm⟩
  have hB := up_trans hB hbm; have k6 := k6.up hbm k6.2.2; have hU := hU.up hbm
  have hG' := hG'.up hbm
  clear hbm
  go_wp2_with fail
  refine (toY_src ys _ _ (HY.out _ hB) hyn).mono ?_
  rintro e' wn ⟨⟨d4, rfl, hy4, -⟩, hbn⟩
  have hB := up_trans hB hbn; have k6 := k6.up hbn k6.2.2; have hU := hU.up hbn
  have hG' := hG'.up hbn
  have ho4 := ho4.up hbn
  clear hbn
  go_wp2_with fail
  refine (recRun_big ps ys b4 0 _ d4 0 _ _ (HE.out _ hB) ho4.1 ho4.2.2 hy4.1 hy4.2.2 hs (Nat.le_refl _) (by omega) (Nat.le_refl _) (by omega)).mono ?_
  rintro e' wo ⟨⟨s', uh, path', rfl, hEnd', hH⟩, hbo⟩
  obtain ⟨rfl, rfl⟩ := HEnd.out.uniq hEnd'
  have hB := up_trans hB hbo; have k6 := k6.up hbo k6.2.2; have hU := hU.up hbo
  have hG' := hG'.up hbo
  have hH := hH.lst
  clear hbo hEnd' ho4 hy4
  go_upto_region 32 with fail
  obtain ⟨Wp, hWp, kh, hbp, hsp⟩ : ∃ W9, wo.alloc (.cells #[.string s.nm, .int .i64 s.now, .int .i64 s.left] 32) = W9 ∧ CB W9 wo.heap.size s.cells ∧ Below wo.heap.size wo W9 ∧ W9.heap.size = wo.heap.size + 1 := ⟨_, rfl, cb1 wo s.cells _⟩
  rw [hWp]
  clear hWp hsp
  have hB := up_trans hB hbp; have k6 := k6.up hbp k6.2.2; have hU := hU.up hbp
  have hG' := hG'.up hbp
  have hH := hH.up hbp
  clear hbp
  obtain ⟨⟨a0, a1, a2⟩, -⟩ := k6.c3
  obtain ⟨⟨g0, g1, g2⟩, -⟩ := kh.c3
  go_wp2_with fail
  refine (eqState_any s _).mono ?_
  rintro e' wq ⟨rfl, hbq⟩
  have hB := up_trans hB hbq
  have hU := hU.up hbq
  have hG' := hG'.up hbq
  have hH := hH.up hbq
  clear a0 a1 a2 g0 g1 g2 hbq kh k6
  go_wp2_with fail
  refine (eqStr_any path uh u0 _ hH hU (by omega)).mono ?_
  rintro e' wr ⟨rfl, hbr⟩
  have hB := up_trans hB hbr
  have hG' := hG'.up hbr
  clear hbr hU hH
  go_wp2_with fail
  refine (heldS_any zs w7.heap.size ug 1 _ hG' hM (by omega) (by omega) (by omega)).mono ?_
  rintro e' ws ⟨rfl, hbs⟩
  have hB := up_trans hB hbs
  rw [hzl]
  clear hG' hbs
  go_wp2_with fail
  go_ret
  exact ⟨rfl, hB⟩
end Go.Proofs.YtkapodkidlgkjahDoor
