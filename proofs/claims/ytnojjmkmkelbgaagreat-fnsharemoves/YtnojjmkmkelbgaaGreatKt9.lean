/- The specification's ShareAsk. -/
import Derived.Test.YtnojjmkmkelbgaaGreatJ15
import Derived.Test.YtnojjmkmkelbgaaGreatJ6
import Derived.Test.YtnojjmkmkelbgaaGreatJ19
namespace Go.Proofs.YtnojjmkmkelbgaaGreat
open Go.RowKit


theorem OwnT.txt {w : World} {base : Nat} {u : Value} {ss : List ByteArray} (h : OwnT w base u ss) (hn : NN u) : Txt w u ss := by
  rcases h.lst with ⟨h0, _⟩ | h1
  · obtain ⟨g, n, c, rfl⟩ := hn; cases h0
  · exact h1
/-- What asking gives. -/
def AskIs (b : Bk) (nm : ByteArray) (things : List ByteArray) (cd : Int) (b' : Bk) : Prop :=
  (bookB b = false ∧ cd = 1 ∧ b' = nobody) ∨
  (bookB b = true ∧ memS (nms b.bs) nm = false ∧ cd = 3 ∧ b' = b) ∨
  (bookB b = true ∧ memS (nms b.bs) nm = true ∧ pB (PartOk things (needsAt b nm)) = false ∧ cd = 2 ∧ b' = b) ∨
  (bookB b = true ∧ memS (nms b.bs) nm = true ∧ pB (PartOk things (needsAt b nm)) = true ∧ Taken b.bs (plN b nm : Int) things ∧ cd = 5 ∧ b' = b) ∨
  (bookB b = true ∧ memS (nms b.bs) nm = true ∧ pB (PartOk things (needsAt b nm)) = true ∧ ¬ Taken b.bs (plN b nm : Int) things ∧ (∃ ss, OrderIs b ss true) ∧ (∃ ss, OrderIs (chg b (plN b nm) (askF things)) ss false) ∧ cd = 6 ∧ b' = b) ∨
  (bookB b = true ∧ memS (nms b.bs) nm = true ∧ pB (PartOk things (needsAt b nm)) = true ∧ ¬ Taken b.bs (plN b nm : Int) things ∧ ((∃ ss, OrderIs b ss false) ∨ ∃ ss, OrderIs (chg b (plN b nm) (askF things)) ss true) ∧ cd = 0 ∧ b' = chg b (plN b nm) (askF things))

set_option maxRecDepth 20000 in
set_option maxHeartbeats 4000000 in
theorem specAsk_any (b : Bk) (v nv : Value) (nm : ByteArray) (things : List ByteArray) (w : World) (h : BkV w v b) (hN : Ls w nv things) (hnn : things.length ≤ 1048576) :
    Calls Tryz.prog 70 #[v, .string nm, nv] w fun e w' => (∃ v' cd b', e = .returned (.tuple #[v', .int .i64 cd]) ∧ AskIs b nm things cd b' ∧ BkW w' w.heap.size v' b') ∧ Below w.heap.size w w' := by
  have hsz := h.szb
  obtain ⟨a1, c1, a2, c2, rfl, t1, -⟩ := h.parts
  obtain ⟨a9, c9, rfl, -, hNz, -⟩ := id hN
  obtain ⟨ii, hi, iz0, iz1, iz2⟩ := info_parts infoBat1
  obtain ⟨W1, hW1, kA, kR, hB1, hs1⟩ : ∃ W1, (w.alloc (.cells #[.slice a1 (b).things.length c1, .slice a2 (b).bs.length c2] 26)).alloc (.cells #[.slice none 0 0, .slice none 0 0] 26) = W1 ∧ CB W1 w.heap.size [.slice a1 b.things.length c1, .slice a2 b.bs.length c2] ∧ CB W1 (w.heap.size + 1) [.slice none 0 0, .slice none 0 0] ∧ Below w.heap.size w W1 ∧ W1.heap.size = w.heap.size + 2 := ⟨_, rfl, cb2 w _ _ _ _⟩
  go_enter Tryz.func70, Tryz.ntmps70
  go_upto_region 1 with fail
  try rw [hW1]
  clear hW1
  have hk := h.up hB1
  have hN := hN.up hB1
  have t1 := t1.up hB1
  clear h
  obtain ⟨e0, e1⟩ := kA.c2'
  go_wp2_with fail
  refine (specBook_any b _ _ hk).mono ?_
  rintro e w2 ⟨rfl, hb2⟩
  have hz2 := hb2.size
  have kA := kA.up hb2 (by omega)
  have kR := kR.up hb2 (by omega)
  have hk := hk.up hb2
  have hN := hN.up hb2
  have t1 := t1.up hb2
  have hB := up_trans hB1 hb2
  clear e0 e1 hB1 hb2
  cases hok : bookB b
  · obtain ⟨⟨y0, y1⟩, f0, f1⟩ := kR.c2
    have HA : Hid (AskIs b nm things 1 nobody) := .inl ⟨hok, rfl, rfl⟩
    go_wp2_with fail
    refine end_cb2b Tryz.results70 Tryz.underlying26 rfl sizeBk1 kR rfl rfl ?_
    exact ⟨⟨_, _, _, rfl, HA.out, bkW_none _ _⟩, below_set2 hB (Nat.le_succ _) _ _⟩
  obtain ⟨e0, e1⟩ := kA.c2'
  go_wp2_with fail
  refine (copyW_any b _ _ hk (book_ok hok)).mono ?_
  rintro e w3 ⟨⟨xv, rfl, hX⟩, hb3⟩
  obtain ⟨a3, c3, a4, c4, ps, rfl, x1, x2, x3⟩ := hX.parts
  have hz3 := hb3.size
  have kA := kA.up hb3 (by omega)
  have kR := kR.up hb3 (by omega)
  have hk := hk.up hb3
  have hN := hN.up hb3
  have t1 := t1.up hb3
  have hB := up_trans hB hb3
  clear e0 e1 hb3 hX
  go_upto_region 4 with fail
  obtain ⟨W4, hW4, kX, hb4, hs4⟩ : ∃ W4, w3.alloc (.cells #[.slice a3 b.things.length c3, .slice a4 b.bs.length c4] 26) = W4 ∧ CB W4 w3.heap.size [.slice a3 b.things.length c3, .slice a4 b.bs.length c4] ∧ Below w3.heap.size w3 W4 ∧ W4.heap.size = w3.heap.size + 1 := ⟨_, rfl, cb1 w3 _ _⟩
  rw [hW4]
  clear hW4
  have kA := kA.up hb4 (by omega)
  have kR := kR.up hb4 (by omega)
  have hk := hk.up hb4
  have hN := hN.up hb4
  have t1 := t1.up hb4
  have hB := up_trans hB hb4
  have X1 := x1
  have X2 := x2
  have hL := hb4
  clear hb4 x1 x2
  obtain ⟨e0, e1⟩ := kA.c2'
  go_wp2_with fail
  refine (at11_any b _ nm _ hk).mono ?_
  rintro e w5 ⟨rfl, hb5⟩
  have hz5 := hb5.size
  have kA := kA.up hb5 (by omega)
  have kR := kR.up hb5 (by omega)
  have kX := kX.up hb5 (by omega)
  have hk := hk.up hb5
  have hN := hN.up hb5
  have hB := up_trans hB hb5
  have hL := up_trans hL hb5
  have HOK : Hid (bookB b = true) := hok
  clear e0 e1 hb5 t1
  have back : ∀ (W : World), Below w5.heap.size w5 W → BkW ((W.setCell ⟨w.heap.size + 1, 0, none⟩ (.slice a3 b.things.length c3)).setCell ⟨w.heap.size + 1, 1, none⟩ (.slice a4 b.bs.length c4)) w.heap.size (.agg #[.slice a3 b.things.length c3, .slice a4 b.bs.length c4]) b := fun W hb => by
    have hl := up_trans hL hb
    exact ((BkW.set (BkW.set ⟨_, _, ps, rfl, X1.up hl, X2.up hl, x3⟩ (by omega)) (by omega)).low (by omega))
  have Hback : Hid (∀ (W : World), Below w5.heap.size w5 W → BkW ((W.setCell ⟨w.heap.size + 1, 0, none⟩ (.slice a3 b.things.length c3)).setCell ⟨w.heap.size + 1, 1, none⟩ (.slice a4 b.bs.length c4)) w.heap.size (.agg #[.slice a3 b.things.length c3, .slice a4 b.bs.length c4]) b) := back
  clear back
  cases hm : memS (nms b.bs) nm
  · have HA : Hid (AskIs b nm things 3 b) := .inr (.inl ⟨hok, hm, rfl, rfl⟩)
    rw [idxI_none hm]
    obtain ⟨⟨y0, y1⟩, f0, f1⟩ := kR.c2
    obtain ⟨⟨z0, z1⟩, -⟩ := kX.c2
    go_wp2_with fail
    refine end_cb2b Tryz.results70 Tryz.underlying26 rfl sizeBk1 kR rfl rfl ?_
    exact ⟨⟨_, _, _, rfl, HA.out, Hback.out _ (Below.refl _ _)⟩, below_set2 hB (Nat.le_succ _) _ _⟩
  obtain ⟨hidx, hlt⟩ := plN_lt hm
  rw [hidx]
  have HA2 : Hid (pB (PartOk things (needsAt b nm)) = false → AskIs b nm things 2 b) := fun h => .inr (.inr (.inl ⟨hok, hm, h, rfl, rfl⟩))
  have HA5 : Hid (pB (PartOk things (needsAt b nm)) = true → Taken b.bs (plN b nm : Int) things → AskIs b nm things 5 b) := fun h h2 => .inr (.inr (.inr (.inl ⟨hok, hm, h, h2, rfl, rfl⟩)))
  have HA6 : Hid (pB (PartOk things (needsAt b nm)) = true → ¬ Taken b.bs (plN b nm : Int) things → (∃ ss, OrderIs b ss true) → (∃ ss, OrderIs (chg b (plN b nm) (askF things)) ss false) → AskIs b nm things 6 b) := fun h h2 h3 h4 => .inr (.inr (.inr (.inr (.inl ⟨hok, hm, h, h2, h3, h4, rfl, rfl⟩))))
  have HA0 : Hid (pB (PartOk things (needsAt b nm)) = true → ¬ Taken b.bs (plN b nm : Int) things → ((∃ ss, OrderIs b ss false) ∨ ∃ ss, OrderIs (chg b (plN b nm) (askF things)) ss true) → AskIs b nm things 0 (chg b (plN b nm) (askF things))) := fun h h2 h3 => .inr (.inr (.inr (.inr (.inr ⟨hok, hm, h, h2, h3, rfl, rfl⟩))))
  have Hna : Hid (needsAt b nm = (b.bs[plN b nm]).needs) := needsAt_at (List.getElem?_eq_getElem hlt)
  generalize plN b nm = p at *
  obtain ⟨s1, s2, s3⟩ := ok_small (book_ok hok)
  obtain ⟨s4, s5⟩ := s3 b.bs[p] (by simp)
  have hsx := hsz.2 b.bs[p] (by simp)
  obtain ⟨-, hpos⟩ := hk.bsOf.at
  obtain ⟨bb, o, rfl, hS, hbl⟩ := hpos (by omega)
  obtain ⟨a5, d5, a6, d6, -, -, q5, -, l6, -⟩ := (hS.at hlt).cells
  have HX0 : Hid (b.bs[p]? = some b.bs[p]) := List.getElem?_eq_getElem hlt
  generalize b.bs[p] = x0 at *
  obtain ⟨e0, e1⟩ := kA.c2'
  go_wp2_with fail
  refine (namesOk11_any things x0.needs _ _ _ hN l6).mono ?_
  rintro e w6 ⟨rfl, md, hmd⟩
  have hb6 : Below w5.heap.size w5 w6 := by rw [hmd]; exact below_drewN (Below.refl _ _) md
  have hz6 := hb6.size
  have kA := kA.up hb6 (by omega)
  have kR := kR.up hb6 (by omega)
  have kX := kX.up hb6 (by omega)
  have hN := hN.up hb6
  have hk := hk.up hb6
  have hB := up_trans hB hb6
  clear hmd e0 e1 q5 l6 hS hpos
  cases hpt : pB (PartOk things x0.needs)
  · have HA : Hid (AskIs b nm things 2 b) := HA2.out (by rw [Hna.out]; exact hpt)
    obtain ⟨⟨y0, y1⟩, f0, f1⟩ := kR.c2
    obtain ⟨⟨z0, z1⟩, -⟩ := kX.c2
    go_wp2_with fail
    refine end_cb2b Tryz.results70 Tryz.underlying26 rfl sizeBk1 kR rfl rfl ?_
    exact ⟨⟨_, _, _, rfl, HA.out, Hback.out _ hb6⟩, below_set2 hB (Nat.le_succ _) _ _⟩
  have Hpt : Hid (pB (PartOk things (needsAt b nm)) = true) := by show _ = _; rw [Hna.out]; exact hpt
  have Hpart : Hid (PartOk things x0.needs) := pB_iff.1 hpt
  clear hpt HA2
  obtain ⟨e0, e1⟩ := kA.c2'
  go_wp2_with fail
  refine (taken13_any b _ _ p things _ hk hN).mono ?_
  rintro e w7 ⟨rfl, hb7⟩
  have hz7 := hb7.size
  have kA := kA.up hb7 (by omega)
  have kR := kR.up hb7 (by omega)
  have kX := kX.up hb7 (by omega)
  have hN := hN.up hb7
  have hk := hk.up hb7
  have hB := up_trans hB hb7
  have hb57 := up_trans hb6 hb7
  clear e0 e1 hb6 hb7
  cases htk : pB (Taken b.bs (p : Int) things)
  case true =>
    have HA : Hid (AskIs b nm things 5 b) := HA5.out Hpt.out (pB_iff.1 htk)
    obtain ⟨⟨y0, y1⟩, f0, f1⟩ := kR.c2
    obtain ⟨⟨z0, z1⟩, -⟩ := kX.c2
    go_wp2_with fail
    refine end_cb2b Tryz.results70 Tryz.underlying26 rfl sizeBk1 kR rfl rfl ?_
    exact ⟨⟨_, _, _, rfl, HA.out, Hback.out _ hb57⟩, below_set2 hB (Nat.le_succ _) _ _⟩
  have Htk : Hid (¬ Taken b.bs (p : Int) things) := pB_not.1 htk
  clear htk HA5
  obtain ⟨e0, e1⟩ := kA.c2'
  go_wp2_with fail
  refine (copy11_any b _ _ hk (by omega) (by omega) (fun y hy => by have := s3 y hy; omega)).mono ?_
  rintro e w8 ⟨⟨tu, bu, qs, rfl, y1, y2, y3, -, ynn⟩, hb8⟩
  have kA0 := kA
  have kR0 := kR
  have kX0 := kX
  have hk0 := hk
  have hN0 := hN
  have hB0 := hB
  obtain ⟨a7, c7, rfl⟩ := y1.lst.shape
  have hqs : qs.length = b.bs.length := by rw [← y3, List.length_map]
  obtain ⟨g, c8, hgp⟩ := own_ptr2 y2.1 (by omega)
  rw [hqs] at hgp
  subst hgp
  have hz8 := hb8.size
  have kA := kA.up hb8 (by omega)
  have kR := kR.up hb8 (by omega)
  have kX := kX.up hb8 (by omega)
  have hN := hN.up hb8
  have hk := hk.up hb8
  have hB := up_trans hB hb8
  have hb58 := up_trans hb57 hb8
  have hb78 := hb8
  have kA7 := kA0
  have kR7 := kR0
  have kX7 := kX0
  have hk7 := hk0
  have hN7 := hN0
  have hB7 := hB0
  have hg8 := y2.1.lt g rfl
  have hb57k := hb57
  clear e0 e1 hb57 hb8
  go_upto_region 12 with fail
  obtain ⟨W9, hW9, kY, hb9, hs9⟩ : ∃ W9, w8.alloc (.cells #[.slice a7 b.things.length c7, .slice (some ⟨g, 0, none⟩) b.bs.length c8] 26) = W9 ∧ CB W9 w8.heap.size [.slice a7 b.things.length c7, .slice (some ⟨g, 0, none⟩) b.bs.length c8] ∧ Below w8.heap.size w8 W9 ∧ W9.heap.size = w8.heap.size + 1 := ⟨_, rfl, cb1 w8 _ _⟩
  rw [hW9]
  clear hW9
  obtain ⟨⟨x0', hv0, nv0⟩, hpv, hpx⟩ : ∃ pv : Bv, qs[p]? = some pv ∧ pv.1 = x0 := by
    have h := HX0.out
    rw [← y3, List.getElem?_map, Option.map_eq_some_iff] at h
    exact h
  obtain rfl : x0' = x0 := hpx
  have hx8 := y2.2 _ (List.mem_of_getElem? hpv)
  have Hnn0 : Hid (NN hv0) := ynn _ (List.mem_of_getElem? hpv)
  have Hqv : Hid (qs[p]? = some (x0', hv0, nv0)) := hpv
  have row8 := y2.1
  rw [hqs] at row8
  have hset0 : qs.set p (x0', hv0, nv0) = qs := List.ext_getElem? fun j => by
    rw [List.getElem?_set]
    by_cases e : p = j
    · subst e; rw [if_pos rfl, if_pos (by omega), hpv]
    · rw [if_neg e]
  have hb79 : Below w7.heap.size w7 W9 := hb78.trans (hb9.mono hz8)
  have hgo : (Value.slice (some ⟨g, 0, none⟩) b.bs.length c8).ownBlock = some g := rfl
  have hpn := part_short Hpart.out
  obtain ⟨-, -, hposN⟩ := hN7.inv
  have Hxn : Hid (x0'.nm.size ≤ maxLen) := hx8.2.2
  clear kA kR kX hN hk hB hpv ynn
  go_wp2_with fail
  go_loopw [11] (fun i w' => ∃ (k : Nat) (hv : Value), k ≤ things.length ∧ i = .int .i64 k ∧ w'.ownsRow w7.heap.size 32 3 (.slice (some ⟨g, 0, none⟩) b.bs.length c8) b.bs.length (rowsB (qs.set p ((⟨x0'.nm, insAll x0'.has (things.take k), x0'.needs⟩, hv, nv0) : Bv))) ∧ OwnT w' w7.heap.size hv (insAll x0'.has (things.take k)) ∧ NN hv ∧
      (∀ q ∈ qs, OwnT w' w7.heap.size q.2.1 q.1.has ∧ OwnT w' w7.heap.size q.2.2 q.1.needs ∧ q.1.nm.size ≤ maxLen) ∧ CB w' w8.heap.size [.slice a7 b.things.length c7, .slice (some ⟨g, 0, none⟩) b.bs.length c8] ∧ OwnT w' w7.heap.size (.slice a7 b.things.length c7) b.things ∧ Below w7.heap.size w7 w') (fun i _ => things.length - (intOf i).toNat)
  case atStart => exact ⟨0, hv0, by omega, rfl, by rw [show (⟨x0'.nm, insAll x0'.has (things.take 0), x0'.needs⟩ : Ba) = x0' from rfl, hset0]; exact own_up row8 hb9, hx8.1.up hb9, Hnn0.out, fun q hq => by
      obtain ⟨q1, q2, q3⟩ := y2.2 q hq
      exact ⟨q1.up hb9, q2.up hb9, q3⟩, kY, y1.up hb9, hb79⟩
  case round =>
    clear kY hb9 hb79 row8 hx8 y1 y2 hset0 hs9
    obtain ⟨k, hv, hk, rfl, row, hoh, hnn, hlists, kY, hot, hBk⟩ := hrel
    obtain ⟨gh, nh, ch, rfl⟩ := hnn
    by_cases hp : k < things.length
    · obtain ⟨tb, tof, rfl, hST, htl⟩ := hposN (by omega)
      have cT := (hBk.cell (p := ⟨tb, tof + k, none⟩) htl).trans (hST.cell hp)
      have HI : Hid (insAll x0'.has (things.take (k + 1)) = insL (insAll x0'.has (things.take k)) things[k]) := insAll_take _ _ _ hp
      have hil : (insAll x0'.has (things.take k)).length ≤ 1000 := Nat.le_trans (insAll_len _ _) (by rw [List.length_take]; omega)
      generalize things[k] = s0 at *
      have hT := hoh.txt ⟨_, _, _, rfl⟩
      generalize insAll x0'.has (things.take k) = is at *
      have hset : (qs.set p ((⟨x0'.nm, is, x0'.needs⟩, .slice (some ⟨gh, 0, none⟩) nh ch, nv0) : Bv))[p]? = some (⟨x0'.nm, is, x0'.needs⟩, .slice (some ⟨gh, 0, none⟩) nh ch, nv0) := by rw [List.getElem?_set, if_pos rfl, if_pos (by omega)]
      have r1 := (row.cellAt (p * 3 + 1) (by omega)).trans (rowsB_at _ p _ hset 1 _ rfl)
      obtain ⟨⟨z0, z1⟩, -⟩ := kY.c2
      have hyl := kY.2.2
      have hgl := (row.lt g rfl).2
      have htl2 := Nat.lt_of_lt_of_le htl hBk.size
      have mk : ∀ W, Below wr.heap.size wr W → World.cell? W ⟨w8.heap.size, 1, none⟩ = some (.slice (some ⟨g, 0, none⟩) b.bs.length c8) ∧ World.cell? W ⟨g, p * 3 + 1, none⟩ = some (.slice (some ⟨gh, 0, none⟩) nh ch) ∧ World.cell? W ⟨tb, tof + k, none⟩ = some (.string s0) := fun W hb => ⟨(hb.cell (p := ⟨w8.heap.size, 1, none⟩) hyl).trans z1, (hb.cell (p := ⟨g, p * 3 + 1, none⟩) hgl).trans r1, (hb.cell (p := ⟨tb, tof + k, none⟩) htl2).trans cT⟩
      have Mk : Hid (∀ W, Below wr.heap.size wr W → World.cell? W ⟨w8.heap.size, 1, none⟩ = some (.slice (some ⟨g, 0, none⟩) b.bs.length c8) ∧ World.cell? W ⟨g, p * 3 + 1, none⟩ = some (.slice (some ⟨gh, 0, none⟩) nh ch) ∧ World.cell? W ⟨tb, tof + k, none⟩ = some (.string s0)) := mk
      have hbd : Below wr.heap.size wr wr.drew := (Below.refl _ _).drew
      have hS1 := mk _ hbd
      clear mk z0 z1 r1 cT
      go_wp2_with fail
      refine wp_region_x 16 (fun w' => World.cell? w' ⟨w8.heap.size, 1, none⟩ = some (.slice (some ⟨g, 0, none⟩) b.bs.length c8) ∧ World.cell? w' ⟨g, p * 3 + 1, none⟩ = some (.slice (some ⟨gh, 0, none⟩) nh ch) ∧ World.cell? w' ⟨tb, tof + k, none⟩ = some (.string s0)) (by kernel_rfl) ?_
      refine tkx 0 rfl hS1 ?_
      refine tkx 1 rfl hS1 ?_
      refine tkx 2 rfl hS1 ?_
      refine tkx 3 rfl hS1 ?_
      refine tkx 4 rfl hS1 ?_
      refine tkx 5 rfl hS1 ?_
      refine tkx 6 rfl hS1 ?_
      refine tkx 7 rfl hS1 ?_
      refine tkx 8 rfl hS1 ?_
      refine tkx 9 rfl hS1 ?_
      refine tkx 10 rfl hS1 ?_
      refine tkx 11 rfl hS1 ?_
      refine tkx 12 rfl hS1 ?_
      refine onx 13 rfl (fun K hK => ?_)
      go_simp
      go_wp2_with (go_at_call 100; refine (insert13_any is _ s0 _ (hT.up hbd) hil).mono ?_; rintro e wi ⟨⟨u, rfl, hTu, hor⟩, hbi⟩; have hbi := up_trans hbd hbi; have hSi := Mk.out _ hbi)
      obtain ⟨gu, cu, hgu, -⟩ := id hTu
      subst hgu
      have hou : OwnT wi w7.heap.size (.slice (some ⟨gu, 0, none⟩) (insL is s0).length cu) (insL is s0) := by
        rcases hor with ⟨h1, h2⟩ | h
        · rw [h1, h2]; exact hoh.up hbi
        · exact own_low h (by have := hBk.size; simpa using this)
      have rowi := own_up row hbi
      have f1 := rowi.frozenAt (p * 3 + 1)
      have r1 := hSi.2.1
      clear hor hTu hT hoh
      refine gox hK hSi ?_; clear hK K
      refine onx 14 rfl (fun K hK => ?_)
      go_simp
      refine gox hK hSi ?_; clear hK K
      refine tkx 15 rfl hSi ?_
      refine onx 16 rfl (fun K hK => ?_)
      go_simp
      refine finx hK ?_
      clear hK K
      refine anyX_done (by kernel_rfl) ?_ _
      have st := rowi.stored (p * 3 + 1) (.slice (some ⟨gu, 0, none⟩) (insL is s0).length cu)
      rw [rowsB_set1 _ p _ _ ⟨x0'.nm, insL is s0, x0'.needs⟩ hset rfl, List.set_set] at st
      have gr := st.2
      have Hst := st.1
      have HL : Hid (∀ q ∈ qs, OwnT (wi.setCell ⟨g, p * 3 + 1, none⟩ (.slice (some ⟨gu, 0, none⟩) (insL is s0).length cu)) w7.heap.size q.2.1 q.1.has ∧ OwnT (wi.setCell ⟨g, p * 3 + 1, none⟩ (.slice (some ⟨gu, 0, none⟩) (insL is s0).length cu)) w7.heap.size q.2.2 q.1.needs ∧ q.1.nm.size ≤ maxLen) := fun q hq => by
        obtain ⟨q1, q2, q3⟩ := hlists q hq
        exact ⟨own_step (q1.up hbi) rowi (hgo ▸ gr), own_step (q2.up hbi) rowi (hgo ▸ gr), q3⟩
      have hou2 := own_step hou rowi (hgo ▸ gr)
      have hot2 := own_step (hot.up hbi) rowi (hgo ▸ gr)
      have kY2 := (kY.up hbi hyl).kept gr (by simp; omega)
      have hB2 : Below w7.heap.size w7 (wi.setCell ⟨g, p * 3 + 1, none⟩ (.slice (some ⟨gu, 0, none⟩) (insL is s0).length cu)) := (hBk.trans (hbi.mono hBk.size)).setCell (p := ⟨g, p * 3 + 1, none⟩) hg8.1 _
      clear st gr rowi row hou hot kY hlists hS1 hSi r1 f1 Mk hset hbd hbi hBk
      go_wp2_with fail
      go_roundw
      case rel => exact ⟨k + 1, .slice (some ⟨gu, 0, none⟩) (insL is s0).length cu, by omega, by go_num, by rw [HI.out]; exact Hst, by rw [HI.out]; exact hou2, ⟨_, _, _, rfl⟩, HL.out, kY2, hot2, hB2⟩
      case measure => simp [intOf]; omega
    · obtain rfl : k = things.length := by omega
      rw [List.take_length] at row hoh
      have hW : BsW wr w7.heap.size (.slice (some ⟨g, 0, none⟩) b.bs.length c8) (qs.set p ((askF things x0', .slice (some ⟨gh, 0, none⟩) nh ch, nv0) : Bv)) := bsW_mk row rfl (by rw [List.length_set, hqs]) (fun q hq => by
        rcases List.mem_or_eq_of_mem_set hq with h | rfl
        · exact hlists q h
        · exact ⟨hoh, (hlists _ (List.mem_of_getElem? Hqv.out)).2.1, Hxn.out⟩)
      have hmap : (qs.set p ((askF things x0', .slice (some ⟨gh, 0, none⟩) nh ch, nv0) : Bv)).map (·.1) = b.bs.set p (askF things x0') := by rw [List.map_set, y3]
      have hmem' : ∀ y ∈ b.bs.set p (askF things x0'), y ∈ b.bs ∨ y = askF things x0' := fun y hy => List.mem_or_eq_of_mem_set hy
      have hbk' : BkW wr w7.heap.size (.agg #[.slice a7 b.things.length c7, .slice (some ⟨g, 0, none⟩) b.bs.length c8]) ⟨b.things, b.bs.set p (askF things x0')⟩ := ⟨_, _, _, rfl, hot, hW, hmap⟩
      have hbv := hbk'.bk ⟨hsz.1, fun y hy => by
        rcases hmem' y hy with h | rfl
        · exact hsz.2 y h
        · exact ⟨fun s hs => by
            rcases insAll_mem _ _ s hs with h | h
            · exact hsx.1 s h
            · exact hNz s h, hsx.2⟩⟩
      have Hcopy : Hid (∀ (v : Value) (w : World), BkV w v ⟨b.things, b.bs.set p (askF things x0')⟩ → Calls Tryz.prog 49 #[v] w fun e w' => (∃ v', e = .returned v' ∧ BkW w' w.heap.size v' ⟨b.things, b.bs.set p (askF things x0')⟩) ∧ Below w.heap.size w w') := fun v w h => copyS_any _ v w h (by show b.things.length ≤ 100; omega) (by show (b.bs.set p (askF things x0')).length ≤ 100; rw [List.length_set]; omega) (fun y hy => by
        rcases hmem' y hy with h | rfl
        · have := s3 y h; omega
        · have h1 := insAll_len x0'.has things
          show (insAll x0'.has things).length ≤ 100 ∧ x0'.needs.length ≤ 100
          omega)
      have Hch : Hid (chg b p (askF things) = ⟨b.things, b.bs.set p (askF things x0')⟩) := chg_at HX0.out
      rw [Hch.out] at HA6 HA0
      clear hmem' hmap hW hbk' hot hoh hlists row Hqv HX0
      generalize (⟨b.things, b.bs.set p (askF things x0')⟩ : Bk) = b' at *
      have kA := kA7.up hBk (by omega)
      have kR := kR7.up hBk (by omega)
      have kX := kX7.up hBk (by omega)
      have hk := hk7.up hBk
      have hB := up_trans hB7 hBk
      have hb5r : Below w5.heap.size w5 wr := up_trans hb57k hBk
      clear kA7 kR7 kX7 hk7 hB7
      obtain ⟨e0, e1⟩ := kA.c2'
      go_wp2_with fail
      refine (specSafe_any b _ _ hk).mono ?_
      rintro e wa ⟨⟨ss, ok, rfl, hord⟩, hba⟩
      have kR := kR.up hba kR.2.2
      have kX := kX.up hba kX.2.2
      have kY := kY.up hba kY.2.2
      have hbv := hbv.up hba
      have hB := up_trans hB hba
      have hb5r := up_trans hb5r hba
      clear e0 e1 hba kA hk
      cases ok
      · have HA : Hid (AskIs b nm things 0 b') := HA0.out Hpt.out Htk.out (.inl ⟨ss, hord⟩)
        obtain ⟨⟨z0, z1⟩, -⟩ := kY.c2
        go_wp2_with fail
        refine (Hcopy.out _ _ hbv).mono ?_
        rintro e w12 ⟨⟨v', rfl, hV⟩, hb12⟩
        obtain ⟨a10, c10, a11, c11, qs', rfl, -⟩ := hV.parts
        have kR12 := kR.up hb12 kR.2.2
        have hrl := kR.2.2
        have hB12 := up_trans hB hb12
        clear z0 z1
        obtain ⟨⟨y0, y1⟩, f0, f1⟩ := kR12.c2
        go_wp2_with fail
        refine end_cb2b Tryz.results70 Tryz.underlying26 rfl sizeBk1 kR12 rfl rfl ?_
        exact ⟨⟨_, _, _, rfl, HA.out, ((BkW.set (BkW.set hV hrl) hrl).low (by have := hB.size; omega))⟩, below_set2 hB12 (Nat.le_succ _) _ _⟩
      · obtain ⟨⟨z0, z1⟩, -⟩ := kY.c2
        go_wp2_with fail
        refine (specSafe_any b' _ _ hbv).mono ?_
        rintro e wb ⟨⟨ss2, ok2, rfl, hord2⟩, hbb⟩
        have kR := kR.up hbb kR.2.2
        have kX := kX.up hbb kX.2.2
        have kY := kY.up hbb kY.2.2
        have hbv := hbv.up hbb
        have hB := up_trans hB hbb
        have hb5r := up_trans hb5r hbb
        clear z0 z1 hbb
        cases ok2
        · have HA : Hid (AskIs b nm things 6 b) := HA6.out Hpt.out Htk.out ⟨ss, hord⟩ ⟨ss2, hord2⟩
          obtain ⟨⟨y0, y1⟩, f0, f1⟩ := kR.c2
          obtain ⟨⟨z0, z1⟩, -⟩ := kX.c2
          go_wp2_with fail
          refine end_cb2b Tryz.results70 Tryz.underlying26 rfl sizeBk1 kR rfl rfl ?_
          exact ⟨⟨_, _, _, rfl, HA.out, Hback.out _ hb5r⟩, below_set2 hB (Nat.le_succ _) _ _⟩
        · have HA : Hid (AskIs b nm things 0 b') := HA0.out Hpt.out Htk.out (.inr ⟨ss2, hord2⟩)
          obtain ⟨⟨z0, z1⟩, -⟩ := kY.c2
          go_wp2_with fail
          refine (Hcopy.out _ _ hbv).mono ?_
          rintro e w12 ⟨⟨v', rfl, hV⟩, hb12⟩
          obtain ⟨a10, c10, a11, c11, qs', rfl, -⟩ := hV.parts
          have kR12 := kR.up hb12 kR.2.2
          have hrl := kR.2.2
          have hB12 := up_trans hB hb12
          clear z0 z1
          obtain ⟨⟨y0, y1⟩, f0, f1⟩ := kR12.c2
          go_wp2_with fail
          refine end_cb2b Tryz.results70 Tryz.underlying26 rfl sizeBk1 kR12 rfl rfl ?_
          exact ⟨⟨_, _, _, rfl, HA.out, ((BkW.set (BkW.set hV hrl) hrl).low (by have := hB.size; omega))⟩, below_set2 hB12 (Nat.le_succ _) _ _⟩
end Go.Proofs.YtnojjmkmkelbgaaGreat
