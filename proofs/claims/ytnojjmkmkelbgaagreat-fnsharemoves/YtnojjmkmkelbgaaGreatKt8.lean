/- The specification's ShareLess. -/
import Derived.Test.YtnojjmkmkelbgaaGreatJ15
namespace Go.Proofs.YtnojjmkmkelbgaaGreat
open Go.RowKit


set_option maxRecDepth 20000 in
set_option maxHeartbeats 4000000 in
theorem specLess_any (b : Bk) (v nv : Value) (nm : ByteArray) (needs : List ByteArray) (w : World) (h : BkV w v b) (hN : Ls w nv needs) (hnn : needs.length ≤ 1048576) :
    Calls Tryz.prog 71 #[v, .string nm, nv] w fun e w' => (∃ v', e = .returned (.tuple #[v', .int .i64 (lsnC b nm needs)]) ∧ BkW w' w.heap.size v' (lsnB b nm needs)) ∧ Below w.heap.size w w' := by
  have hsz := h.szb
  obtain ⟨a1, c1, a2, c2, rfl, t1, -⟩ := h.parts
  obtain ⟨a9, c9, rfl, -, hNz, -⟩ := id hN
  obtain ⟨ii, hi, iz0, iz1, iz2⟩ := info_parts infoBat1
  obtain ⟨W1, hW1, kA, kR, hB1, hs1⟩ : ∃ W1, (w.alloc (.cells #[.slice a1 (b).things.length c1, .slice a2 (b).bs.length c2] 26)).alloc (.cells #[.slice none 0 0, .slice none 0 0] 26) = W1 ∧ CB W1 w.heap.size [.slice a1 b.things.length c1, .slice a2 b.bs.length c2] ∧ CB W1 (w.heap.size + 1) [.slice none 0 0, .slice none 0 0] ∧ Below w.heap.size w W1 ∧ W1.heap.size = w.heap.size + 2 := ⟨_, rfl, cb2 w _ _ _ _⟩
  go_enter Tryz.func71, Tryz.ntmps71
  go_upto_region 1 with fail
  try rw [hW1]
  clear hW1
  have hk := h.up hB1
  have hN := hN.up hB1
  have t1 := t1.up hB1
  clear h
  obtain ⟨e0, e1⟩ := kA.c2'
  go_wp2_with fail
  refine (specBook_any b _ _ hk).mono ?_
  rintro e w2 ⟨rfl, hb2⟩
  have hz2 := hb2.size
  have kA := kA.up hb2 (by omega)
  have kR := kR.up hb2 (by omega)
  have hk := hk.up hb2
  have hN := hN.up hb2
  have t1 := t1.up hb2
  have hB := up_trans hB1 hb2
  clear e0 e1 hB1 hb2
  cases hok : bookB b
  · obtain ⟨⟨y0, y1⟩, f0, f1⟩ := kR.c2
    have HC : Hid (lsnC b nm needs = 1 ∧ lsnB b nm needs = nobody) := less_no hok
    go_wp2_with fail
    refine end_cb2b Tryz.results71 Tryz.underlying26 rfl sizeBk1 kR rfl rfl ?_
    exact ⟨⟨_, ret_pair HC.out.1.symm, by rw [HC.out.2]; exact bkW_none _ _⟩, below_set2 hB (Nat.le_succ _) _ _⟩
  obtain ⟨e0, e1⟩ := kA.c2'
  go_wp2_with fail
  refine (copyW_any b _ _ hk (book_ok hok)).mono ?_
  rintro e w3 ⟨⟨xv, rfl, hX⟩, hb3⟩
  obtain ⟨a3, c3, a4, c4, ps, rfl, x1, x2, x3⟩ := hX.parts
  have hz3 := hb3.size
  have kA := kA.up hb3 (by omega)
  have kR := kR.up hb3 (by omega)
  have hk := hk.up hb3
  have hN := hN.up hb3
  have t1 := t1.up hb3
  have hB := up_trans hB hb3
  clear e0 e1 hb3 hX
  go_upto_region 4 with fail
  obtain ⟨W4, hW4, kX, hb4, hs4⟩ : ∃ W4, w3.alloc (.cells #[.slice a3 b.things.length c3, .slice a4 b.bs.length c4] 26) = W4 ∧ CB W4 w3.heap.size [.slice a3 b.things.length c3, .slice a4 b.bs.length c4] ∧ Below w3.heap.size w3 W4 ∧ W4.heap.size = w3.heap.size + 1 := ⟨_, rfl, cb1 w3 _ _⟩
  rw [hW4]
  clear hW4
  have kA := kA.up hb4 (by omega)
  have kR := kR.up hb4 (by omega)
  have hk := hk.up hb4
  have hN := hN.up hb4
  have t1 := t1.up hb4
  have hB := up_trans hB hb4
  have X1 := x1
  have X2 := x2
  have hL := hb4
  clear hb4 x1 x2
  obtain ⟨e0, e1⟩ := kA.c2'
  go_wp2_with fail
  refine (at11_any b _ nm _ hk).mono ?_
  rintro e w5 ⟨rfl, hb5⟩
  have hz5 := hb5.size
  have kA := kA.up hb5 (by omega)
  have kR := kR.up hb5 (by omega)
  have kX := kX.up hb5 (by omega)
  have hk := hk.up hb5
  have hN := hN.up hb5
  have hB := up_trans hB hb5
  have hL := up_trans hL hb5
  have HOK : Hid (bookB b = true) := hok
  clear e0 e1 hb5 t1
  have back : ∀ (W : World) (cd : Int), Below w5.heap.size w5 W → lsnC b nm needs = cd ∧ lsnB b nm needs = b → ∃ v', (Ending.returned (.tuple #[.agg #[.slice a3 b.things.length c3, .slice a4 b.bs.length c4], .int .i64 cd]) = Ending.returned (.tuple #[v', .int .i64 (lsnC b nm needs)])) ∧
      BkW ((W.setCell ⟨w.heap.size + 1, 0, none⟩ (.slice a3 b.things.length c3)).setCell ⟨w.heap.size + 1, 1, none⟩ (.slice a4 b.bs.length c4)) w.heap.size v' (lsnB b nm needs) := fun W cd hb hc => by
    have hl := up_trans hL hb
    refine ⟨_, ret_pair hc.1.symm, ?_⟩
    rw [hc.2]
    exact ((BkW.set (BkW.set ⟨_, _, ps, rfl, X1.up hl, X2.up hl, x3⟩ (by omega)) (by omega)).low (by omega))
  have Hback : Hid (∀ (W : World) (cd : Int), Below w5.heap.size w5 W → lsnC b nm needs = cd ∧ lsnB b nm needs = b → ∃ v', (Ending.returned (.tuple #[.agg #[.slice a3 b.things.length c3, .slice a4 b.bs.length c4], .int .i64 cd]) = Ending.returned (.tuple #[v', .int .i64 (lsnC b nm needs)])) ∧
      BkW ((W.setCell ⟨w.heap.size + 1, 0, none⟩ (.slice a3 b.things.length c3)).setCell ⟨w.heap.size + 1, 1, none⟩ (.slice a4 b.bs.length c4)) w.heap.size v' (lsnB b nm needs)) := back
  clear back
  cases hm : memS (nms b.bs) nm
  · have HC : Hid (lsnC b nm needs = 3 ∧ lsnB b nm needs = b) := less_none hok hm
    rw [idxI_none hm]
    obtain ⟨⟨y0, y1⟩, f0, f1⟩ := kR.c2
    obtain ⟨⟨z0, z1⟩, -⟩ := kX.c2
    go_wp2_with fail
    refine end_cb2b Tryz.results71 Tryz.underlying26 rfl sizeBk1 kR rfl rfl ?_
    exact ⟨Hback.out _ _ (Below.refl _ _) HC.out, below_set2 hB (Nat.le_succ _) _ _⟩
  obtain ⟨hidx, hlt⟩ := plN_lt hm
  rw [hidx]
  have Hp2 : Hid (pB (PartOk needs (needsAt b nm)) = false → lsnC b nm needs = 2 ∧ lsnB b nm needs = b) := fun h => less_two hok hm h
  have Hp0 : Hid (pB (PartOk needs (needsAt b nm)) = true → lsnC b nm needs = 0 ∧ lsnB b nm needs = chg b (plN b nm) (lessF needs)) := fun h => less_yes hok hm h
  have Hna : Hid (needsAt b nm = (b.bs[plN b nm]).needs) := needsAt_at (List.getElem?_eq_getElem hlt)
  generalize plN b nm = p at *
  obtain ⟨s1, s2, s3⟩ := ok_small (book_ok hok)
  obtain ⟨s4, s5⟩ := s3 b.bs[p] (by simp)
  have hsx := hsz.2 b.bs[p] (by simp)
  obtain ⟨-, hpos⟩ := hk.bsOf.at
  obtain ⟨bb, o, rfl, hS, hbl⟩ := hpos (by omega)
  obtain ⟨a5, d5, a6, d6, -, q4, q5, l5, l6, -⟩ := (hS.at hlt).cells
  have HX0 : Hid (b.bs[p]? = some b.bs[p]) := List.getElem?_eq_getElem hlt
  generalize b.bs[p] = x0 at *
  obtain ⟨e0, e1⟩ := kA.c2'
  have hAl := kA.2.2
  go_wp2_with fail
  refine (namesOk11_any needs x0.needs _ _ _ hN l6).mono ?_
  rintro e w6 ⟨rfl, md, hmd⟩
  have hb6 : Below w5.heap.size w5 w6 := by rw [hmd]; exact below_drewN (Below.refl _ _) md
  have hz6 := hb6.size
  have kR := kR.up hb6 (by omega)
  have kX := kX.up hb6 (by omega)
  have hN := hN.up hb6
  have hB := up_trans hB hb6
  have hL := up_trans hL hb6
  clear hmd
  cases hpt : pB (PartOk needs x0.needs)
  · have HC : Hid (lsnC b nm needs = 2 ∧ lsnB b nm needs = b) := Hp2.out (by rw [Hna.out]; exact hpt)
    obtain ⟨⟨y0, y1⟩, f0, f1⟩ := kR.c2
    obtain ⟨⟨z0, z1⟩, -⟩ := kX.c2
    go_wp2_with fail
    refine end_cb2b Tryz.results71 Tryz.underlying26 rfl sizeBk1 kR rfl rfl ?_
    exact ⟨Hback.out _ _ hb6 HC.out, below_set2 hB (Nat.le_succ _) _ _⟩
  have HC : Hid (lsnC b nm needs = 0 ∧ lsnB b nm needs = chg b p (lessF needs)) := Hp0.out (by rw [Hna.out]; exact hpt)
  have Hpart : Hid (PartOk needs x0.needs) := pB_iff.1 hpt
  clear Hback Hp0 Hp2 Hna hpt
  have e1 := (hb6.cell (p := ⟨w.heap.size, 1, none⟩) hAl).trans e1
  have q4 := (hb6.cell (p := ⟨bb, o + p * 3 + 1, none⟩) hbl).trans q4
  have l5 := l5.up hb6
  have hAl := Nat.lt_of_lt_of_le hAl hz6
  have hbl := Nat.lt_of_lt_of_le hbl hz6
  obtain ⟨-, -, hpos5⟩ := l5.inv
  clear e0 q5 l6 hk hS kA hb6 hpos
  obtain ⟨is, his, js0, js1, js2⟩ := info_parts infoStr
  have hown0 : OwnT (w6.alloc (.cells #[] 9)) w6.heap.size (.slice (some ⟨w6.heap.size, 0, none⟩) 0 0) [] := ownT_lit0 w6
  have hb0 : Below w6.heap.size w6 (w6.alloc (.cells #[] 9)) := (Below.refl _ _).alloc (Nat.le_refl _) _
  go_wp2_with fail
  go_loopw [10, 11] (fun u i w' => ∃ k : Nat, k ≤ x0.has.length ∧ i = .int .i64 k ∧ OwnT w' w6.heap.size u ((x0.has.take k).filter (memS needs)) ∧ Below w6.heap.size w6 w') (fun _ i _ => x0.has.length - (intOf i).toNat)
  case atStart => exact ⟨0, by omega, rfl, by simpa using hown0, hb0⟩
  case round =>
    clear hown0 hb0
    obtain ⟨k, hk, rfl, hown, hBk⟩ := hrel
    have e1 := (hBk.cell (p := ⟨w.heap.size, 1, none⟩) hAl).trans e1
    have q4 := (hBk.cell (p := ⟨bb, o + p * 3 + 1, none⟩) hbl).trans q4
    by_cases hp : k < x0.has.length
    · obtain ⟨hb5, ho5, rfl, hS5, hl5⟩ := hpos5 (by omega)
      have c5 := (hBk.cell (p := ⟨hb5, ho5 + k, none⟩) hl5).trans (hS5.cell hp)
      have HF : Hid ((x0.has.take (k + 1)).filter (memS needs) = (x0.has.take k).filter (memS needs) ++ (if memS needs x0.has[k] = true then [x0.has[k]] else [])) := filter_take hp
      have hfl : ((x0.has.take k).filter (memS needs)).length ≤ 8 := Nat.le_trans (List.length_filter_le _ _) (by rw [List.length_take]; omega)
      generalize x0.has[k] = s0 at *
      obtain ⟨fs, hfs⟩ : ∃ fs, (x0.has.take k).filter (memS needs) = fs := ⟨_, rfl⟩
      rw [hfs] at hown hfl HF
      clear hfs
      go_wp2_with fail
      refine (has11_any needs _ s0 _ (hN.up hBk)).mono ?_
      rintro e w' ⟨rfl, hw⟩; obtain rfl := hw.symm; clear hw
      cases hms : memS needs s0
      · have HF2 : Hid ((x0.has.take (k + 1)).filter (memS needs) = fs) := by show _ = _; rw [HF.out, hms]; simp
        go_wp2_with fail
        go_roundw
        case rel => exact ⟨k + 1, by omega, by go_num, by rw [HF2.out]; exact hown, hBk⟩
        case measure => simp [intOf]; omega
      · have HF2 : Hid ((x0.has.take (k + 1)).filter (memS needs) = fs ++ [s0]) := by show _ = _; rw [HF.out, hms]; simp
        have hownA := World.ownsRow.alloc hown (.cells #[.string s0] 9)
        have hbA : Below w6.heap.size w6 (wr.alloc (.cells #[.string s0] 9)) := hBk.alloc hBk.size _
        go_wp2_with (at_builtin; refine wpList_append_own _ rfl _ _ 23 rfl w6.heap.size 9 is _ 1 16 Tryz.underlying23 his js0 js1 js2 rfl (by decide) _ _ _ rfl hownA ⟨wr.heap.size, 0, none⟩ 1 1 [.string s0] rfl rfl (one_new _ _ _) (oneV s0) (by unfold maxLen; omega) (by omega) hbA.size ?_)
        intro v' w9 hown9 hgr9 _
        have hB9 := below_own hbA hownA hgr9 (Nat.le_refl _)
        have hO9 : OwnT w9 w6.heap.size v' (fs ++ [s0]) := by unfold OwnT; simpa using hown9
        clear hownA hbA hgr9 hown9 hown e1 q4 c5
        go_wp2_with fail
        go_roundw
        case rel => exact ⟨k + 1, by omega, by go_num, by rw [HF2.out]; exact hO9, hB9⟩
        case measure => simp [intOf]; omega
    · obtain rfl : k = x0.has.length := by omega
      rw [List.take_length] at hown
      obtain ⟨ah, ch, hah⟩ := hown.lst.shape
      subst hah
      have hps : ps.length = b.bs.length := by rw [← x3, List.length_map]
      have hLr := up_trans hL hBk
      have hrow := (X2.up hLr).1
      rw [hps] at hrow
      obtain ⟨g, cp, hgp⟩ := own_ptr2 hrow (by omega)
      obtain ⟨rfl, -, rfl⟩ := Value.slice.inj hgp
      have hg3 := X2.1.lt g rfl
      obtain ⟨⟨x0', hv0, nv0⟩, hpv, hpx⟩ : ∃ pv : Bv, ps[p]? = some pv ∧ pv.1 = x0 := by
        have h := HX0.out
        rw [← x3, List.getElem?_map, Option.map_eq_some_iff] at h
        exact h
      obtain rfl : x0' = x0 := hpx
      have Hpv : Hid (ps[p]? = some (x0', hv0, nv0)) := hpv
      have kX := kX.up hBk (by omega)
      have kR := kR.up hBk (by omega)
      have hzk := hBk.size
      obtain ⟨⟨z0, z1⟩, -⟩ := kX.c2
      have hS1 : World.cell? wr.drew ⟨w3.heap.size, 1, none⟩ = some (.slice (some ⟨g, 0, none⟩) b.bs.length c4) := z1
      have hxl : w3.heap.size < wr.heap.size := by omega
      have hbd : Below wr.heap.size wr wr.drew := (Below.refl _ _).drew
      clear z0 z1 hgp hpv
      go_wp2_with fail
      clear e1 q4
      refine wp_region_x 7 (fun w' => World.cell? w' ⟨w3.heap.size, 1, none⟩ = some (.slice (some ⟨g, 0, none⟩) b.bs.length c4)) (by kernel_rfl) ?_
      refine tkx 0 rfl hS1 ?_
      refine tkx 1 rfl hS1 ?_
      refine tkx 2 rfl hS1 ?_
      refine tkx 3 rfl hS1 ?_
      refine onx 4 rfl (fun K hK => ?_)
      go_simp
      go_wp2_with (go_at_call 73; refine (names11_any needs _ _ ((hN.up hBk).up hbd) hnn).mono ?_; rintro e w8 ⟨⟨nu, rfl, hon, -⟩, hb8⟩; have hb8 := up_trans hbd hb8; obtain ⟨an, cn, rfl⟩ := hon.lst.shape; have hS8 : World.cell? w8 ⟨w3.heap.size, 1, none⟩ = some (.slice (some ⟨g, 0, none⟩) b.bs.length c4) := (hb8.cell (p := ⟨w3.heap.size, 1, none⟩) hxl).trans hS1)
      refine gox hK hS8 ?_; clear hK K
      have hrow8 := own_up hrow hb8
      have r2 := (hrow8.cellAt (p * 3 + 2) (by omega)).trans (rowsB_at ps p _ Hpv.out 2 _ rfl)
      have f2 := hrow8.frozenAt (p * 3 + 2)
      refine onx 5 rfl (fun K hK => ?_)
      go_simp
      refine gox hK hS8 ?_; clear hK K
      refine tkx 6 rfl hS8 ?_
      refine onx 7 rfl (fun K hK => ?_)
      go_simp
      refine finx hK ?_
      clear hK K
      refine anyX_done (by kernel_rfl) ?_ _
      have st9 := hrow8.stored (p * 3 + 2) (.slice an needs.length cn)
      rw [rowsB_set2 ps p _ _ ⟨x0'.nm, x0'.has, needs⟩ Hpv.out rfl] at st9
      have hL8 := up_trans hLr hb8
      have Hlist : Hid (∀ q ∈ ps, OwnT w8 w2.heap.size q.2.1 q.1.has ∧ OwnT w8 w2.heap.size q.2.2 q.1.needs ∧ q.1.nm.size ≤ maxLen) := fun q hq => by
        obtain ⟨q1, q2, q3⟩ := X2.2 q hq
        exact ⟨q1.up hL8, q2.up hL8, q3⟩
      have t8 := X1.up hL8
      have hh8 := hown.up hb8
      have kX8 := kX.up hb8 (by omega)
      have kR8 := kR.up hb8 (by omega)
      have hB8 := up_trans (up_trans hB hBk) hb8
      clear hS1 hS8 r2 f2 hown hrow kX kR X1 X2 hbd
      have gne1 : ¬ w3.heap.size = g := by omega
      have gne2 : ¬ w.heap.size + 1 = g := by omega
      have hgo : (Value.slice (some ⟨g, 0, none⟩) b.bs.length c4).ownBlock = some g := rfl
      have gr9 := st9.2
      have row9 := st9.1
      have kX9 := kX8.kept gr9 (by simpa using gne1)
      have kR9 := kR8.kept gr9 (by simpa using gne2)
      have t9 := own_step t8 hrow8 (hgo ▸ gr9)
      have hh9 := own_step hh8 hrow8 (hgo ▸ gr9)
      have nn9 := own_step hon hrow8 (hgo ▸ gr9)
      have Hlist9 : Hid (∀ q ∈ ps, OwnT (w8.setCell ⟨g, p * 3 + 2, none⟩ (.slice an needs.length cn)) w2.heap.size q.2.1 q.1.has ∧ OwnT (w8.setCell ⟨g, p * 3 + 2, none⟩ (.slice an needs.length cn)) w2.heap.size q.2.2 q.1.needs ∧ q.1.nm.size ≤ maxLen) := fun q hq => by
        obtain ⟨q1, q2, q3⟩ := Hlist.out q hq
        exact ⟨own_step q1 hrow8 (hgo ▸ gr9), own_step q2 hrow8 (hgo ▸ gr9), q3⟩
      have hB9 : Below w.heap.size w (w8.setCell ⟨g, p * 3 + 2, none⟩ (.slice an needs.length cn)) := hB8.setCell (p := ⟨g, p * 3 + 2, none⟩) (by show _ ≤ g; omega) _
      have hz8 := hb8.size
      have hlow1 : w2.heap.size ≤ w6.heap.size := by omega
      have hlow2 : w2.heap.size ≤ wr.heap.size := by omega
      clear st9 gr9 hrow8 kX8 kR8 t8 hh8 hon hB8 Hlist hL8 hb8 hLr hL hB hN
      generalize w8.setCell ⟨g, p * 3 + 2, none⟩ (.slice an needs.length cn) = W9 at *
      have hset : (ps.set p ((⟨x0'.nm, x0'.has, needs⟩, hv0, .slice an needs.length cn) : Bv))[p]? = some (⟨x0'.nm, x0'.has, needs⟩, hv0, .slice an needs.length cn) := by rw [List.getElem?_set, if_pos rfl, if_pos (by omega)]
      have r1 := (row9.cellAt (p * 3 + 1) (by omega)).trans (rowsB_at _ p _ hset 1 _ rfl)
      have f1 := row9.frozenAt (p * 3 + 1)
      have st10 := row9.stored (p * 3 + 1) (.slice ah (x0'.has.filter (memS needs)).length ch)
      rw [rowsB_set1 _ p _ _ (lessF needs x0') hset rfl, List.set_set] at st10
      have Hset : Hid ((ps.set p ((lessF needs x0', .slice ah (x0'.has.filter (memS needs)).length ch, .slice an needs.length cn) : Bv)).map (·.1) = b.bs.set p (lessF needs x0')) := by show _ = _; rw [List.map_set, x3]
      obtain ⟨⟨z0, z1⟩, -⟩ := kX9.c2
      clear hset
      go_upto_region 17 with fail
      have gr10 := st10.2
      have row10 := st10.1
      have kX10 := kX9.kept gr10 (by simpa using gne1)
      have kR10 := kR9.kept gr10 (by simpa using gne2)
      have t10 := own_step t9 row9 (hgo ▸ gr10)
      have hh10 := own_low (own_step hh9 row9 (hgo ▸ gr10)) hlow1
      have nn10 := own_low (own_step nn9 row9 (hgo ▸ gr10)) hlow2
      have hW10 := bsW_mk (qs := ps.set p ((lessF needs x0', .slice ah (x0'.has.filter (memS needs)).length ch, .slice an needs.length cn) : Bv)) row10 rfl (by rw [List.length_set, hps]) (fun q hq => by
        rcases List.mem_or_eq_of_mem_set hq with h | rfl
        · obtain ⟨q1, q2, q3⟩ := Hlist9.out q h
          exact ⟨own_step q1 row9 (hgo ▸ gr10), own_step q2 row9 (hgo ▸ gr10), q3⟩
        · exact ⟨hh10, nn10, (Hlist9.out _ (List.mem_of_getElem? Hpv.out)).2.2⟩)
      have hB10 : Below w.heap.size w (W9.setCell ⟨g, p * 3 + 1, none⟩ (.slice ah (x0'.has.filter (memS needs)).length ch)) := hB9.setCell (p := ⟨g, p * 3 + 1, none⟩) (by show _ ≤ g; omega) _
      clear st10 gr10 row10 row9 kX9 kR9 t9 hh9 nn9 hh10 nn10 hB9 Hlist9 r1 f1 z0 z1
      generalize W9.setCell ⟨g, p * 3 + 1, none⟩ (.slice ah (x0'.has.filter (memS needs)).length ch) = W10 at *
      have hmem' : ∀ y ∈ b.bs.set p (lessF needs x0'), y ∈ b.bs ∨ y = lessF needs x0' := fun y hy => List.mem_or_eq_of_mem_set hy
      have hbk' : BkW W10 w2.heap.size (.agg #[.slice a3 b.things.length c3, .slice (some ⟨g, 0, none⟩) b.bs.length c4]) ⟨b.things, b.bs.set p (lessF needs x0')⟩ := ⟨_, _, _, rfl, t10, hW10, Hset.out⟩
      have hbv := hbk'.bk ⟨hsz.1, fun y hy => by
        rcases hmem' y hy with h | rfl
        · exact hsz.2 y h
        · exact ⟨fun s hs => hsx.1 s (List.mem_filter.1 hs).1, hNz⟩⟩
      have hpn := part_short Hpart.out
      have Hcopy : Hid (∀ (v : Value) (w : World), BkV w v ⟨b.things, b.bs.set p (lessF needs x0')⟩ → Calls Tryz.prog 49 #[v] w fun e w' => (∃ v', e = .returned v' ∧ BkW w' w.heap.size v' ⟨b.things, b.bs.set p (lessF needs x0')⟩) ∧ Below w.heap.size w w') := fun v w h => copyS_any _ v w h (by show b.things.length ≤ 100; omega) (by show (b.bs.set p (lessF needs x0')).length ≤ 100; rw [List.length_set]; omega) (fun y hy => by
        rcases hmem' y hy with h | rfl
        · have := s3 y h; omega
        · have h1 : (x0'.has.filter (memS needs)).length ≤ x0'.has.length := List.length_filter_le _ _
          show (x0'.has.filter (memS needs)).length ≤ 100 ∧ needs.length ≤ 100
          omega)
      have HC2 : Hid (lsnC b nm needs = 0 ∧ lsnB b nm needs = ⟨b.things, b.bs.set p (lessF needs x0')⟩) := by show _ ∧ _; rw [← chg_at HX0.out]; exact HC.out
      clear hmem' hpn Hset hW10 HC hbk' t10
      generalize (⟨b.things, b.bs.set p (lessF needs x0')⟩ : Bk) = b' at *
      obtain ⟨⟨z0, z1⟩, -⟩ := kX10.c2
      go_wp2_with fail
      refine (Hcopy.out _ _ hbv).mono ?_
      rintro e w12 ⟨⟨v', rfl, hV⟩, hb12⟩
      obtain ⟨a7, c7, a8, c8, qs', rfl, -⟩ := hV.parts
      have kR12 := kR10.up hb12 kR10.2.2
      have hrl := kR10.2.2
      have hB12 := up_trans hB10 hb12
      clear z0 z1
      obtain ⟨⟨y0, y1⟩, f0, f1⟩ := kR12.c2
      go_wp2_with fail
      refine end_cb2b Tryz.results71 Tryz.underlying26 rfl sizeBk1 kR12 rfl rfl ?_
      refine ⟨⟨_, ret_pair HC2.out.1.symm, ?_⟩, below_set2 hB12 (Nat.le_succ _) _ _⟩
      rw [HC2.out.2]
      exact ((BkW.set (BkW.set hV hrl) hrl).low (by omega))
end Go.Proofs.YtnojjmkmkelbgaaGreat
