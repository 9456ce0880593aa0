/- The laws' marks over a book of one's own: written. -/
import Derived.Test.YtialglmnfchfmadGreatDoorJ17
namespace Go.Proofs.YtialglmnfchfmadGreatDoor
open Go.RowKit

theorem cur_pair {m : Int} {bs : List Ba} {k : Nat} {ps : List Bv} (h : ps.map (·.1) = curB m bs k) (hk : k < bs.length) : ∃ hv nv, ps[k]? = some (bs[k], hv, nv) := by
  have h1 : (ps.map (·.1))[k]? = some bs[k] := by rw [h, curB_at m bs k (Nat.le_of_lt hk), List.getElem?_eq_getElem hk]
  rw [List.getElem?_map] at h1
  obtain ⟨p, hp, e⟩ := Option.map_eq_some_iff.1 h1
  exact ⟨p.2.1, p.2.2, by rw [hp, ← e]⟩
theorem set_twice (ps : List Bv) (k : Nat) (a b : Bv) : (ps.set k a).set k b = ps.set k b := by simp
theorem erase_set (ps : List Bv) (k : Nat) (a : Bv) : (ps.set k a).eraseIdx k = ps.eraseIdx k := List.eraseIdx_set_eq
set_option maxRecDepth 20000 in
set_option maxHeartbeats 4000000 in
theorem mkBsF_any (t : Value × List ByteArray) (bs : List Ba) (base : Nat) (v : Value) (qs : List Bv) (m : Int) (w : World) (hrow : w.ownsRow base 45 3 v bs.length (rowsB qs)) (hq : qs.map (·.1) = bs) (G : Nat) (hG : G < w.heap.size) (hvG : ∀ g, v.ownBlock = some g → some g ≠ some G) (hF : Fam w base (some G) (t :: famB qs)) (hz : base ≤ w.heap.size)
    (hn : bs.length ≤ 100) (hs : ∀ x ∈ bs, x.has.length ≤ 100 ∧ x.needs.length ≤ 100) (hm : 1 ≤ m) (hm9 : m ≤ 1000) :
    Calls Tryz.prog 28 #[v, .int .i64 m] w fun e w' => e = .returned (.int .i64 (m + szBas bs)) ∧ (∃ ps : List Bv, w'.ownsRow base 45 3 v bs.length (rowsB ps) ∧ ps.map (·.1) = mkBas m bs ∧ Fam w' base (some G) (t :: famB ps)) ∧ Below base w w' ∧ w'.heap[G]? = w.heap[G]? := by
  rcases Nat.eq_zero_or_pos bs.length with h0 | h0
  · obtain rfl : bs = [] := List.length_eq_zero_iff.1 h0
    obtain rfl : qs = [] := by simpa using hq
    obtain ⟨a, c, rfl⟩ := own_shape hrow
    have HR : Hid (w.ownsRow base 45 3 (.slice a 0 c) 0 []) := hrow
    have HF : Hid (Fam w base (some G) [t]) := hF
    clear hrow hF hq
    simp only [List.length_nil]
    go_enter Tryz.func28, Tryz.ntmps28
    go_wp2
    go_rounds 1
    go_ret
    exact ⟨by simp [szBas], ⟨[], HR.out, rfl, HF.out⟩, Below.refl _ _, rfl⟩
  obtain ⟨g, cap, rfl⟩ := own_ptr2 hrow h0
  have hgb := (hrow.lt g rfl).1
  have hgG : g ≠ G := fun e => hvG g rfl (by rw [e])
  have Hq : Hid (qs.map (·.1) = curB m bs 0) := by show _ = _; rw [curB_zero]; exact hq
  clear hq
  go_enter Tryz.func28, Tryz.ntmps28
  go_wp2
  go_loopw [1, 5] (fun kk i w' => ∃ (k : Nat) (ps : List Bv) (y : Int), k ≤ bs.length ∧ i = .int .i64 k ∧ kk = .int .i64 y ∧ y = m + szBas (bs.take k) ∧ 1 ≤ y ∧ y ≤ 1000 + 201 * (k : Int) ∧ ps.map (·.1) = curB m bs k ∧ w'.ownsRow base 45 3 (.slice (some ⟨g, 0, none⟩) bs.length cap) bs.length (rowsB ps) ∧ Fam w' base (some G) (t :: famB ps) ∧ Below base w w' ∧ w'.heap[G]? = w.heap[G]?) (fun _ i _ => bs.length - (intOf i).toNat)
  case atStart => exact ⟨0, qs, m, by omega, rfl, rfl, by simp [szBas], hm, by omega, Hq.out, hrow, hF, Below.refl _ _, rfl⟩
  case round =>
    clear hrow hF Hq
    obtain ⟨k, ps, y, hk, rfl, rfl, hy, hy1, hy9, hps, hrow, hF, hB, hK⟩ := hrel
    have HK : Hid (wr.heap[G]? = w.heap[G]?) := hK
    clear hK
    have Hps : Hid (ps.map (·.1) = curB m bs k) := hps
    have Hy : Hid (y = m + szBas (bs.take k)) := hy
    clear hps hy
    by_cases hp : k < bs.length
    · obtain ⟨s1, s2⟩ := hs bs[k] (by simp)
      obtain ⟨hv, nv, hpk⟩ := cur_pair Hps.out hp
      have hpl : ps.length = bs.length := by
        have := congrArg List.length Hps.out
        rw [List.length_map, curB, List.length_append, mkBas_len, List.length_take, List.length_drop] at this
        omega
      have Hstep : Hid ((ps.set k ((mkBa y bs[k], hv, nv) : Bv)).map (·.1) = curB m bs (k + 1)) := by
        show _ = _
        rw [List.map_set, Hps.out, curB_step m bs k hp, ← Hy.out]
      have Hsz : Hid (m + (szBas (bs.take (k + 1)) : Int) = y + szBa bs[k]) := by
        show _ = _
        rw [List.take_succ_eq_append_getElem hp, szBas_snoc, Hy.out]; omega
      have Hpk : Hid (ps[k]? = some (bs[k], hv, nv)) := hpk
      have Hpl : Hid (ps.length = bs.length) := hpl
      have hsz := hB.size
      generalize bs[k] = x0 at *
      clear hpk hpl
      go_wp2_with fail
      refine (mark_any y wr (by omega)).mono ?_
      rintro e w1 ⟨rfl, hB1⟩
      have hz1 := hB1.size
      have HK1 : Hid (w1.heap[G]? = w.heap[G]?) := (hB1.block G (by omega)).trans HK.out
      have hrow1 := own_up hrow hB1
      have hF1 := hF.up hB1
      have hBB1 : Below base w w1 := hB.trans (hB1.mono (by omega))
      have c0 := hrow1.cellAt (k * 3) (by omega)
      rw [show (rowsB ps)[k * 3]? = some (Value.string x0.nm) from rowsB_at ps k _ Hpk.out 0 _ rfl] at c0
      have f0 := hrow1.frozenAt (k * 3)
      have st := hrow1.stored (k * 3) (.string (mkB y))
      have hrow2 := st.1
      rw [rowsB_nm ps k _ (mkB y) Hpk.out] at hrow2
      have hF2 := hF1.row hrow1 st.2
      have HK2 : Hid ((w1.setCell ⟨g, k * 3, none⟩ (.string (mkB y))).heap[G]? = w.heap[G]?) := (st.2.block G (by omega) (by simp; omega)).trans HK1.out
      have hB2 : Below base w (w1.setCell ⟨g, k * 3, none⟩ (.string (mkB y))) := below_ownB hBB1 (by omega) hrow1 st.2 (Nat.le_refl _)
      have hz2 : (w1.setCell ⟨g, k * 3, none⟩ (.string (mkB y))).heap.size = w1.heap.size := by simp
      have Hmb : Hid (mkBa y x0 = ⟨mkB y, mkL (y + 1) x0.has.length, mkL (y + 1 + x0.has.length) x0.needs.length⟩) := rfl
      clear hrow hF hB hB1 hrow1 hF1 hBB1 st
      generalize mkB y = mb at *
      go_upto_region 6 with fail
      clear c0 f0
      generalize w1.setCell ⟨g, k * 3, none⟩ (.string mb) = W2 at *
      have Hp2 : Hid ((ps.set k ((⟨mb, x0.has, x0.needs⟩, hv, nv) : Bv))[k]? = some (⟨mb, x0.has, x0.needs⟩, hv, nv)) := List.getElem?_set_self (by rw [Hpl.out]; exact hp)
      have hF3 := hF2.front Hpk.out
      have hoh := hF3.own _ List.mem_cons_self
      obtain ⟨ah, ch, hhv⟩ := hoh.lst.shape
      have hon := hF3.own _ (List.mem_cons_of_mem _ List.mem_cons_self)
      obtain ⟨an, cn, hnv⟩ := hon.lst.shape
      simp only at hhv hnv
      subst hhv hnv
      have c1 := hrow2.cellAt (k * 3 + 1) (by omega)
      rw [rowsB_at _ k _ Hp2.out 1 _ rfl] at c1
      go_wp2_with fail
      refine (markS_any x0.has base _ (y + 1) _ hoh (by omega) (by omega) (by omega)).mono ?_
      rintro e w3 ⟨rfl, ⟨ys, hyl, hym, hoy⟩, hg3⟩
      obtain rfl := marked_mkL hyl hym
      have hz3 := hg3.size
      have hF4 := hF3.over (by omega) hg3 hoy
      have HK3 : Hid (w3.heap[G]? = w.heap[G]?) := (hF3.off (by omega) hg3).trans HK2.out
      have hrow3 := row_step hrow2 hoh hg3
      have hB3 : Below base w w3 := below_ownB hB2 (by omega) hoh hg3 (Nat.le_refl _)
      have hon3 := hF4.own _ (List.mem_cons_of_mem _ List.mem_cons_self)
      have hF5 := hF4.swap
      clear c1 hrow2 hF2 hF3 hoh hon hF4 hg3 hB2 hyl hym hoy
      have c2 := hrow3.cellAt (k * 3 + 2) (by omega)
      rw [rowsB_at _ k _ Hp2.out 2 _ rfl] at c2
      go_wp2_with fail
      refine (markS_any x0.needs base _ (y + 1 + x0.has.length) _ hon3 (by omega) (by omega) (by omega)).mono ?_
      rintro e w4 ⟨rfl, ⟨ys, hyl, hym, hoy⟩, hg4⟩
      obtain rfl := marked_mkL hyl hym
      have hF6 := (hF5.over (by omega) hg4 hoy).swap
      have HK4 : Hid (w4.heap[G]? = w.heap[G]?) := (hF5.off (by omega) hg4).trans HK3.out
      have hrow4 := row_step hrow3 hon3 hg4
      have hB4 : Below base w w4 := below_ownB hB3 (by omega) hon3 hg4 (Nat.le_refl _)
      clear c2 hrow3 hF5 hon3 hg4 hB3 hyl hym hoy
      have Hrow : Hid (w4.ownsRow base 45 3 (.slice (some ⟨g, 0, none⟩) bs.length cap) bs.length (rowsB (ps.set k ((mkBa y x0, .slice ah x0.has.length ch, .slice an x0.needs.length cn) : Bv)))) := by
        have := rowsB_same (ps.set k ((⟨mb, x0.has, x0.needs⟩, .slice ah x0.has.length ch, .slice an x0.needs.length cn) : Bv)) k _ (mkBa y x0) Hp2.out (by rw [Hmb.out])
        rw [set_twice] at this
        show _
        rw [this]; exact hrow4
      have HF : Hid (Fam w4 base (some G) (t :: famB (ps.set k ((mkBa y x0, .slice ah x0.has.length ch, .slice an x0.needs.length cn) : Bv)))) := by
        refine Fam.back ?_ (by rw [Hpl.out]; exact hp)
        rw [Hmb.out]; exact hF6
      clear hrow4 hF6
      go_wp2_with fail
      go_roundw
      case rel => exact ⟨k + 1, _, _, by omega, by go_num, rfl, by rw [Hsz.out]; simp [szBa]; omega, by omega, by omega, Hstep.out, Hrow.out, HF.out, hB4, HK4.out⟩
      case measure => simp [intOf]; omega
    · obtain rfl : k = bs.length := by omega
      have HE : Hid (y = m + szBas bs) := by have := Hy.out; rwa [List.take_length] at this
      have HP : Hid (ps.map (·.1) = mkBas m bs) := by have := Hps.out; rwa [curB_all] at this
      go_wp2_with fail
      go_ret
      exact ⟨by rw [← HE.out]; rfl, ⟨ps, hrow, HP.out, hF⟩, hB, HK.out⟩
end Go.Proofs.YtialglmnfchfmadGreatDoor

/- The laws' marks over a book of one's own: a whole book written; held. -/
namespace Go.Proofs.YtialglmnfchfmadGreatDoor
open Go.RowKit

theorem mkB_size (k : Int) : (mkB k).size ≤ k.toNat + 2 := by
  unfold mkB
  split
  · show 2 ≤ _; omega
  · rw [ByteArray.size_append]
    have h1 := mkD_size k.toNat ⟨#[]⟩
    have h2 : (⟨#[]⟩ : ByteArray).size = 0 := rfl
    have h3 : (⟨#[109]⟩ : ByteArray).size = 1 := rfl
    omega
theorem mkBas_at : ∀ (m : Int) (bs : List Ba) (k : Nat) (hk : k < bs.length), (mkBas m bs)[k]? = some (mkBa (m + szBas (bs.take k)) bs[k])
  | m, x :: r, 0, _ => by simp [mkBas, szBas]
  | m, x :: r, k + 1, hk => by
    have ih := mkBas_at (m + szBa x) r k (by simpa using hk)
    simp only [mkBas, List.getElem?_cons_succ, List.take_succ_cons, szBas, List.getElem_cons_succ]
    rw [ih, show m + (szBa x : Int) + (szBas (r.take k) : Int) = m + ((szBa x + szBas (r.take k) : Nat) : Int) by omega]
theorem szBas_take : ∀ (bs : List Ba) (k : Nat), szBas (bs.take k) ≤ szBas bs
  | [], k => by simp [szBas]
  | x :: r, 0 => by simp [szBas]
  | x :: r, k + 1 => by
    have := szBas_take r k
    simp only [List.take_succ_cons, szBas]; omega
theorem mkBas_nm {m : Int} {bs : List Ba} (h : m + szBas bs ≤ 100000) : ∀ x ∈ mkBas m bs, x.nm.size ≤ maxLen := fun x hx => by
  obtain ⟨i, hi, rfl⟩ := List.getElem_of_mem hx
  have hi' : i < bs.length := by rwa [mkBas_len] at hi
  have h1 := mkBas_at m bs i hi'
  rw [List.getElem?_eq_getElem hi] at h1
  rw [Option.some.inj h1]
  have h2 := mkB_size (m + szBas (bs.take i))
  have h3 := szBas_take bs i
  show (mkB _).size ≤ _
  unfold maxLen; omega
set_option maxRecDepth 20000 in
set_option maxHeartbeats 2000000 in
theorem mkBookF_any (b : Bk) (base : Nat) (v : Value) (w : World) (G : Nat) (hG : G < w.heap.size) (h : BkG w base (some G) v b) (hl : Lit b) (hz : base ≤ w.heap.size) :
    Calls Tryz.prog 13 #[v, .int .i64 1] w fun e w' => e = .returned (.int .i64 (mkEnd b)) ∧ BkG w' base (some G) v (mkBk b) ∧ Below base w w' ∧ w'.heap[G]? = w.heap[G]? := by
  obtain ⟨a1, c1, a2, c2, ps, rfl, x1, x2, hF, hvG⟩ := h
  obtain ⟨l1, l2, l3⟩ := hl
  have HvG : Hid (∀ g, (Value.slice a2 b.bs.length c2).ownBlock = some g → some g ≠ some G) := hvG
  clear hvG
  have Hlid : Hid (szBas b.bs ≤ 201 * b.bs.length) := szBas_lid b.bs l3
  have hps : ps.length = b.bs.length := by rw [← x2, List.length_map]
  have hrow := x1.1
  rw [hps] at hrow
  have hot := hF.own _ List.mem_cons_self
  have hlt : ∀ g, (Value.slice a1 b.things.length c1).ownBlock = some g → g < w.heap.size := fun g hg => (hot.lt g hg).2
  obtain ⟨W1, hW1, kA, hB1, hs1⟩ : ∃ W1, w.alloc (.cells #[.slice a1 b.things.length c1, .slice a2 b.bs.length c2] 30) = W1 ∧ CB W1 w.heap.size [.slice a1 b.things.length c1, .slice a2 b.bs.length c2] ∧ Below w.heap.size w W1 ∧ W1.heap.size = w.heap.size + 1 := ⟨_, rfl, cb1 w _ _⟩
  have hot1 := hot.up hB1
  have hF1 := hF.up hB1
  have hrow1 := own_up hrow hB1
  have hBB1 : Below base w W1 := (Below.refl base w).trans (hB1.mono hz)
  clear hot hF hrow x1
  go_enter Tryz.func13, Tryz.ntmps13
  go_upto_region 1 with fail
  try rw [hW1]
  clear hW1
  obtain ⟨p0, p1⟩ := kA.c2'
  go_wp2_with fail
  refine (markS_any b.things base _ 1 _ hot1 (by omega) (by omega) (by omega)).mono ?_
  rintro e w2 ⟨rfl, ⟨ys, hyl, hym, hoy⟩, hg2⟩
  obtain rfl := marked_mkL hyl hym
  have hz2 := hg2.size
  have hF2 := hF1.over (by omega) hg2 hoy
  have HK2 : Hid (w2.heap[G]? = w.heap[G]?) := (hF1.off (by omega) hg2).trans (hB1.block G hG)
  have hrow2 := row_step hrow1 hot1 hg2
  have hB2 : Below base w w2 := below_ownB hBB1 (by omega) hot1 hg2 (Nat.le_refl _)
  have kA2 := kA.kept hg2 (fun e => by have := hlt _ e.symm; omega)
  clear p0 p1 kA hot1 hF1 hrow1 hBB1 hg2 hyl hym hoy
  obtain ⟨p0, p1⟩ := kA2.c2'
  go_wp2_with fail
  refine (mkBsF_any _ b.bs base _ ps (1 + b.things.length) _ hrow2 x2 G (by omega) HvG.out hF2 (by omega) l2 l3 (by omega) (by omega)).mono ?_
  rintro e w3 ⟨rfl, ⟨qs, hrow3, hq3, hF3⟩, hB3, hK3⟩
  have HK3 : Hid (w3.heap[G]? = w.heap[G]?) := hK3.trans HK2.out
  clear hK3
  have hB4 := hB2.trans hB3
  have Hr : Hid (w3.ownsRow base 45 3 (.slice a2 b.bs.length c2) b.bs.length (rowsB qs)) := hrow3
  have Hq : Hid (qs.map (·.1) = mkBas (1 + b.things.length) b.bs) := hq3
  clear p0 p1 kA2 hrow2 hF2 hrow3 hq3
  go_wp2_with fail
  go_ret
  refine ⟨rfl, ?_, hB4, HK3.out⟩
  have hql : qs.length = b.bs.length := by
    have := congrArg List.length Hq.out
    rwa [List.length_map, mkBas_len] at this
  refine ⟨a1, c1, a2, c2, qs, ?_, ?_, Hq.out, ?_, ?_⟩
  · show Value.agg #[_, _] = Value.agg #[.slice _ (mkL 1 b.things.length).length _, .slice _ (mkBas _ b.bs).length _]
    rw [mkL_len, mkBas_len]
  · show BsW _ _ (.slice _ (mkBas _ b.bs).length _) _
    rw [mkBas_len]
    refine hF3.bsW (fs := [(.slice a1 b.things.length c1, mkL 1 b.things.length)]) (by rw [hql]; exact Hr.out) (fun p hp => ?_)
    have hm : p.1 ∈ mkBas (1 + b.things.length) b.bs := by rw [← Hq.out]; exact List.mem_map.2 ⟨p, hp, rfl⟩
    exact mkBas_nm (by have := Hlid.out; omega) p.1 hm
  · show Fam _ _ _ ((.slice _ (mkL 1 b.things.length).length _, _) :: _)
    rw [mkL_len]
    exact hF3
  · intro g hg
    rw [show (mkBk b).bs.length = b.bs.length from mkBas_len _ _] at hg
    exact HvG.out g hg
end Go.Proofs.YtialglmnfchfmadGreatDoor
