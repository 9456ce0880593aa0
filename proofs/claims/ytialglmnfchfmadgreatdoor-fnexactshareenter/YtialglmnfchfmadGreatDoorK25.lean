/- The laws' marks over a book of one's own, in plain. -/
import Derived.Test.YtialglmnfchfmadGreatDoorMk2
import Derived.Test.YtialglmnfchfmadGreatDoorKr9
namespace Go.Proofs.YtialglmnfchfmadGreatDoor
open Go.RowKit

def mkL (m : Int) (n : Nat) : List ByteArray := (List.range n).map fun (i : Nat) => mkB (m + i)
theorem mkL_len (m : Int) (n : Nat) : (mkL m n).length = n := by simp [mkL]
theorem mkL_marked (m : Int) (n : Nat) : Marked (mkL m n) m n := fun i hi => by simp [mkL, hi]
theorem marked_mkL {ys : List ByteArray} {m : Int} {n : Nat} (hl : ys.length = n) (h : Marked ys m n) : ys = mkL m n := by
  refine List.ext_getElem? fun i => ?_
  by_cases hi : i < n
  · rw [h i hi]; exact (mkL_marked m n i hi).symm
  · rw [List.getElem?_eq_none (by omega), List.getElem?_eq_none (by rw [mkL_len]; omega)]
def mkBa (m : Int) (x : Ba) : Ba := ⟨mkB m, mkL (m + 1) x.has.length, mkL (m + 1 + x.has.length) x.needs.length⟩
def szBa (x : Ba) : Nat := 1 + x.has.length + x.needs.length
def mkBas : Int → List Ba → List Ba
  | _, [] => []
  | m, x :: r => mkBa m x :: mkBas (m + szBa x) r
def szBas : List Ba → Nat
  | [] => 0
  | x :: r => szBa x + szBas r
theorem mkBas_len : ∀ (m : Int) (bs : List Ba), (mkBas m bs).length = bs.length
  | _, [] => rfl
  | m, x :: r => by simp [mkBas, mkBas_len _ r]
theorem szBas_snoc : ∀ (l : List Ba) (x : Ba), szBas (l ++ [x]) = szBas l + szBa x
  | [], x => by simp [szBas]
  | y :: r, x => by simp [szBas, szBas_snoc r x]; omega
theorem mkBas_snoc : ∀ (m : Int) (l : List Ba) (x : Ba), mkBas m (l ++ [x]) = mkBas m l ++ [mkBa (m + szBas l) x]
  | m, [], x => by simp [mkBas, szBas]
  | m, y :: r, x => by
    simp only [List.cons_append, mkBas, mkBas_snoc _ r x, szBas]
    rw [show m + (szBa y : Int) + (szBas r : Int) = m + ((szBa y + szBas r : Nat) : Int) by omega]
/-- The batches, marked up to place k. -/
def curB (m : Int) (bs : List Ba) (k : Nat) : List Ba := mkBas m (bs.take k) ++ bs.drop k
theorem curB_zero (m : Int) (bs : List Ba) : curB m bs 0 = bs := by simp [curB, mkBas]
theorem curB_all (m : Int) (bs : List Ba) : curB m bs bs.length = mkBas m bs := by simp [curB]
theorem curB_at (m : Int) (bs : List Ba) (k : Nat) (hk : k ≤ bs.length) : (curB m bs k)[k]? = bs[k]? := by
  rw [curB, List.getElem?_append_right (by rw [mkBas_len, List.length_take]; omega), List.getElem?_drop, mkBas_len, List.length_take]
  congr 1; omega
theorem curB_step (m : Int) (bs : List Ba) (k : Nat) (hk : k < bs.length) : curB m bs (k + 1) = (curB m bs k).set k (mkBa (m + szBas (bs.take k)) bs[k]) := by
  have hl : (mkBas m (bs.take k)).length = k := by rw [mkBas_len, List.length_take]; omega
  rw [curB, curB, List.take_succ_eq_append_getElem hk, mkBas_snoc, List.set_append_right _ _ (by omega), hl, Nat.sub_self, List.drop_eq_getElem_cons hk, List.append_assoc]
  rfl
def mkBk (b : Bk) : Bk := ⟨mkL 1 b.things.length, mkBas (1 + b.things.length) b.bs⟩
def mkEnd (b : Bk) : Int := 1 + b.things.length + szBas b.bs
/-- Short lists. -/
def Lit (b : Bk) : Prop := b.things.length ≤ 100 ∧ b.bs.length ≤ 100 ∧ ∀ x ∈ b.bs, x.has.length ≤ 100 ∧ x.needs.length ≤ 100
theorem szBas_lid : ∀ (l : List Ba), (∀ x ∈ l, x.has.length ≤ 100 ∧ x.needs.length ≤ 100) → szBas l ≤ 201 * l.length
  | [], _ => by simp [szBas]
  | x :: r, h => by
    have h1 := szBas_lid r fun y hy => h y (List.mem_cons_of_mem _ hy)
    have h2 := h x List.mem_cons_self
    simp only [szBas, szBa, List.length_cons]
    omega
theorem rowsB_nm : ∀ (ps : List Bv) (k : Nat) (p : Bv) (s : ByteArray), ps[k]? = some p → (rowsB ps).set (k * 3) (.string s) = rowsB (ps.set k ((⟨s, p.1.has, p.1.needs⟩, p.2.1, p.2.2) : Bv))
  | q :: r, 0, p, s, h => by
    obtain rfl : q = p := by simpa using h
    simp [rowsB, rowB]
  | q :: r, k + 1, p, s, h => by
    have := rowsB_nm r k p s (by simpa using h)
    rw [show (k + 1) * 3 = k * 3 + 3 by omega]
    simp [rowsB, rowB, this]
/-- What a row shows of a batch is its name and its two lists' places. -/
theorem rowsB_same : ∀ (ps : List Bv) (k : Nat) (p : Bv) (x : Ba), ps[k]? = some p → x.nm = p.1.nm → rowsB (ps.set k ((x, p.2.1, p.2.2) : Bv)) = rowsB ps
  | q :: r, 0, p, x, h, e => by
    obtain rfl : q = p := by simpa using h
    simp [rowsB, rowB, e]
  | q :: r, k + 1, p, x, h, e => by
    have := rowsB_same r k p x (by simpa using h) e
    simp [rowsB, this]
theorem famB_at : ∀ (qs : List Bv) (k : Nat) (p : Bv), qs[k]? = some p → (famB qs).Perm ((p.2.1, p.1.has) :: (p.2.2, p.1.needs) :: famB (qs.eraseIdx k))
  | [], _, _, h => by simp at h
  | q :: r, 0, p, h => by
    obtain rfl : q = p := by simpa using h
    simp [famB]
  | q :: r, k + 1, p, h => by
    have ih := famB_at r k p (by simpa using h)
    simp only [famB, List.eraseIdx_cons_succ]
    refine ((ih.cons _).cons _).trans ?_
    exact (List.perm_append_comm (l₁ := [(q.2.1, q.1.has), (q.2.2, q.1.needs)]) (l₂ := [(p.2.1, p.1.has), (p.2.2, p.1.needs)])).append_right (famB (r.eraseIdx k))
theorem turn3 {α : Type} (t a b : α) (l : List α) : (t :: a :: b :: l).Perm (a :: b :: t :: l) := (List.perm_append_comm (l₁ := [t]) (l₂ := [a, b])).append_right l
/-- The lists of one batch put ahead of the others. -/
theorem Fam.front {w : World} {B : Nat} {q : Option Nat} {t : Value × List ByteArray} {ps : List Bv} {k : Nat} {p : Bv} (h : Fam w B q (t :: famB ps)) (hp : ps[k]? = some p) : Fam w B q ((p.2.1, p.1.has) :: (p.2.2, p.1.needs) :: t :: famB (ps.eraseIdx k)) :=
  h.perm (((famB_at ps k p hp).cons t).trans (turn3 _ _ _ _))
theorem Fam.back {w : World} {B : Nat} {q : Option Nat} {t : Value × List ByteArray} {ps : List Bv} {k : Nat} {p : Bv} (h : Fam w B q ((p.2.1, p.1.has) :: (p.2.2, p.1.needs) :: t :: famB (ps.eraseIdx k))) (hk : k < ps.length) : Fam w B q (t :: famB (ps.set k p)) := by
  refine h.perm (List.Perm.symm ?_)
  have h1 := famB_at (ps.set k p) k p (by rw [List.getElem?_set_self hk])
  rw [List.eraseIdx_set_eq] at h1
  exact (h1.cons t).trans (turn3 _ _ _ _)
/-- The first is written over. -/
theorem Fam.over {w w' : World} {B G : Nat} {u : Value} {ss ss' : List ByteArray} {fs : List (Value × List ByteArray)} (h : Fam w B (some G) ((u, ss) :: fs)) (hG : G < w.heap.size) (hg : w.grownBy w' u.ownBlock) (hu : OwnT w' B u ss') : Fam w' B (some G) ((u, ss') :: fs) :=
  h.app hg hu (fun _ hg => .inl hg) (fun _ h => by cases h; exact hG)
theorem Fam.off {w w' : World} {B G : Nat} {u : Value} {ss : List ByteArray} {fs : List (Value × List ByteArray)} (h : Fam w B (some G) ((u, ss) :: fs)) (hG : G < w.heap.size) (hg : w.grownBy w' u.ownBlock) : w'.heap[G]? = w.heap[G]? :=
  hg.block G hG (fun e => h.av _ List.mem_cons_self G e.symm rfl)
/-- A row of batches stays while a list is written over. -/
theorem row_step {W W' : World} {base b2 n : Nat} {u v : Value} {ss : List ByteArray} {xs : List Value} (hrow : W.ownsRow b2 45 3 v n xs) (h : OwnT W base u ss) (hg : W.grownBy W' u.ownBlock) : W'.ownsRow b2 45 3 v n xs :=
  own_keep2 hrow hg (own_apart2 hrow h (by decide))
/-- A book of one's own whose lists lie apart, and off a block. -/
def BkG (w : World) (base : Nat) (q : Option Nat) (v : Value) (b : Bk) : Prop := ∃ a1 c1 a2 c2 ps, v = .agg #[.slice a1 b.things.length c1, .slice a2 b.bs.length c2] ∧ BsW w base (.slice a2 b.bs.length c2) ps ∧ ps.map (·.1) = b.bs ∧ Fam w base q ((.slice a1 b.things.length c1, b.things) :: famB ps) ∧ ∀ g, (Value.slice a2 b.bs.length c2).ownBlock = some g → some g ≠ q
theorem BkF.off {w : World} {base G : Nat} {v : Value} {b : Bk} (h : BkF w base v b) (hG : w.heap.size ≤ G) : BkG w base (some G) v b := by
  obtain ⟨a1, c1, a2, c2, ps, e, h1, h2, h3⟩ := h
  refine ⟨a1, c1, a2, c2, ps, e, h1, h2, h3.avoid hG, fun g hg e => ?_⟩
  have := (h1.1.lt g hg).2
  obtain rfl := Option.some.inj e
  omega
theorem BkG.free {w : World} {base : Nat} {q : Option Nat} {v : Value} {b : Bk} (h : BkG w base q v b) : BkF w base v b := by
  obtain ⟨a1, c1, a2, c2, ps, e, h1, h2, h3, -⟩ := h
  exact ⟨a1, c1, a2, c2, ps, e, h1, h2, h3.free⟩
theorem BkG.up {w w' : World} {base : Nat} {q : Option Nat} {v : Value} {b : Bk} (h : BkG w base q v b) (hb : Below w.heap.size w w') : BkG w' base q v b := by
  obtain ⟨a1, c1, a2, c2, ps, e, h1, h2, h3, h4⟩ := h
  exact ⟨a1, c1, a2, c2, ps, e, h1.up hb, h2, h3.up hb, h4⟩
end Go.Proofs.YtialglmnfchfmadGreatDoor

/- The laws' marks over a book of one's own: written. -/
namespace Go.Proofs.YtialglmnfchfmadGreatDoor
open Go.RowKit

theorem cur_pair {m : Int} {bs : List Ba} {k : Nat} {ps : List Bv} (h : ps.map (·.1) = curB m bs k) (hk : k < bs.length) : ∃ hv nv, ps[k]? = some (bs[k], hv, nv) := by
  have h1 : (ps.map (·.1))[k]? = some bs[k] := by rw [h, curB_at m bs k (Nat.le_of_lt hk), List.getElem?_eq_getElem hk]
  rw [List.getElem?_map] at h1
  obtain ⟨p, hp, e⟩ := Option.map_eq_some_iff.1 h1
  exact ⟨p.2.1, p.2.2, by rw [hp, ← e]⟩
theorem set_twice (ps : List Bv) (k : Nat) (a b : Bv) : (ps.set k a).set k b = ps.set k b := by simp
theorem erase_set (ps : List Bv) (k : Nat) (a : Bv) : (ps.set k a).eraseIdx k = ps.eraseIdx k := List.eraseIdx_set_eq
set_option maxRecDepth 20000 in
set_option maxHeartbeats 4000000 in
theorem mkBsF_any (t : Value × List ByteArray) (bs : List Ba) (base : Nat) (v : Value) (qs : List Bv) (m : Int) (w : World) (hrow : w.ownsRow base 45 3 v bs.length (rowsB qs)) (hq : qs.map (·.1) = bs) (G : Nat) (hG : G < w.heap.size) (hvG : ∀ g, v.ownBlock = some g → some g ≠ some G) (hF : Fam w base (some G) (t :: famB qs)) (hz : base ≤ w.heap.size)
    (hn : bs.length ≤ 100) (hs : ∀ x ∈ bs, x.has.length ≤ 100 ∧ x.needs.length ≤ 100) (hm : 1 ≤ m) (hm9 : m ≤ 1000) :
    Calls Tryz.prog 28 #[v, .int .i64 m] w fun e w' => e = .returned (.int .i64 (m + szBas bs)) ∧ (∃ ps : List Bv, w'.ownsRow base 45 3 v bs.length (rowsB ps) ∧ ps.map (·.1) = mkBas m bs ∧ Fam w' base (some G) (t :: famB ps)) ∧ Below base w w' ∧ w'.heap[G]? = w.heap[G]? := by
  rcases Nat.eq_zero_or_pos bs.length with h0 | h0
  · obtain rfl : bs = [] := List.length_eq_zero_iff.1 h0
    obtain rfl : qs = [] := by simpa using hq
    obtain ⟨a, c, rfl⟩ := own_shape hrow
    have HR : Hid (w.ownsRow base 45 3 (.slice a 0 c) 0 []) := hrow
    have HF : Hid (Fam w base (some G) [t]) := hF
    clear hrow hF hq
    simp only [List.length_nil]
    go_enter Tryz.func28, Tryz.ntmps28
    go_wp2
    go_rounds 1
    go_ret
    exact ⟨by simp [szBas], ⟨[], HR.out, rfl, HF.out⟩, Below.refl _ _, rfl⟩
  obtain ⟨g, cap, rfl⟩ := own_ptr2 hrow h0
  have hgb := (hrow.lt g rfl).1
  have hgG : g ≠ G := fun e => hvG g rfl (by rw [e])
  have Hq : Hid (qs.map (·.1) = curB m bs 0) := by show _ = _; rw [curB_zero]; exact hq
  clear hq
  go_enter Tryz.func28, Tryz.ntmps28
  go_wp2
  go_loopw [1, 5] (fun kk i w' => ∃ (k : Nat) (ps : List Bv) (y : Int), k ≤ bs.length ∧ i = .int .i64 k ∧ kk = .int .i64 y ∧ y = m + szBas (bs.take k) ∧ 1 ≤ y ∧ y ≤ 1000 + 201 * (k : Int) ∧ ps.map (·.1) = curB m bs k ∧ w'.ownsRow base 45 3 (.slice (some ⟨g, 0, none⟩) bs.length cap) bs.length (rowsB ps) ∧ Fam w' base (some G) (t :: famB ps) ∧ Below base w w' ∧ w'.heap[G]? = w.heap[G]?) (fun _ i _ => bs.length - (intOf i).toNat)
  case atStart => exact ⟨0, qs, m, by omega, rfl, rfl, by simp [szBas], hm, by omega, Hq.out, hrow, hF, Below.refl _ _, rfl⟩
  case round =>
    clear hrow hF Hq
    obtain ⟨k, ps, y, hk, rfl, rfl, hy, hy1, hy9, hps, hrow, hF, hB, hK⟩ := hrel
    have HK : Hid (wr.heap[G]? = w.heap[G]?) := hK
    clear hK
    have Hps : Hid (ps.map (·.1) = curB m bs k) := hps
    have Hy : Hid (y = m + szBas (bs.take k)) := hy
    clear hps hy
    by_cases hp : k < bs.length
    · obtain ⟨s1, s2⟩ := hs bs[k] (by simp)
      obtain ⟨hv, nv, hpk⟩ := cur_pair Hps.out hp
      have hpl : ps.length = bs.length := by
        have := congrArg List.length Hps.out
        rw [List.length_map, curB, List.length_append, mkBas_len, List.length_take, List.length_drop] at this
        omega
      have Hstep : Hid ((ps.set k ((mkBa y bs[k], hv, nv) : Bv)).map (·.1) = curB m bs (k + 1)) := by
        show _ = _
        rw [List.map_set, Hps.out, curB_step m bs k hp, ← Hy.out]
      have Hsz : Hid (m + (szBas (bs.take (k + 1)) : Int) = y + szBa bs[k]) := by
        show _ = _
        rw [List.take_succ_eq_append_getElem hp, szBas_snoc, Hy.out]; omega
      have Hpk : Hid (ps[k]? = some (bs[k], hv, nv)) := hpk
      have Hpl : Hid (ps.length = bs.length) := hpl
      have hsz := hB.size
      generalize bs[k] = x0 at *
      clear hpk hpl
      go_wp2_with fail
      refine (mark_any y wr (by omega)).mono ?_
      rintro e w1 ⟨rfl, hB1⟩
      have hz1 := hB1.size
      have HK1 : Hid (w1.heap[G]? = w.heap[G]?) := (hB1.block G (by omega)).trans HK.out
      have hrow1 := own_up hrow hB1
      have hF1 := hF.up hB1
      have hBB1 : Below base w w1 := hB.trans (hB1.mono (by omega))
      have c0 := hrow1.cellAt (k * 3) (by omega)
      rw [show (rowsB ps)[k * 3]? = some (Value.string x0.nm) from rowsB_at ps k _ Hpk.out 0 _ rfl] at c0
      have f0 := hrow1.frozenAt (k * 3)
      have st := hrow1.stored (k * 3) (.string (mkB y))
      have hrow2 := st.1
      rw [rowsB_nm ps k _ (mkB y) Hpk.out] at hrow2
      have hF2 := hF1.row hrow1 st.2
      have HK2 : Hid ((w1.setCell ⟨g, k * 3, none⟩ (.string (mkB y))).heap[G]? = w.heap[G]?) := (st.2.block G (by omega) (by simp; omega)).trans HK1.out
      have hB2 : Below base w (w1.setCell ⟨g, k * 3, none⟩ (.string (mkB y))) := below_ownB hBB1 (by omega) hrow1 st.2 (Nat.le_refl _)
      have hz2 : (w1.setCell ⟨g, k * 3, none⟩ (.string (mkB y))).heap.size = w1.heap.size := by simp
      have Hmb : Hid (mkBa y x0 = ⟨mkB y, mkL (y + 1) x0.has.length, mkL (y + 1 + x0.has.length) x0.needs.length⟩) := rfl
      clear hrow hF hB hB1 hrow1 hF1 hBB1 st
      generalize mkB y = mb at *
      go_upto_region 6 with fail
      clear c0 f0
      generalize w1.setCell ⟨g, k * 3, none⟩ (.string mb) = W2 at *
      have Hp2 : Hid ((ps.set k ((⟨mb, x0.has, x0.needs⟩, hv, nv) : Bv))[k]? = some (⟨mb, x0.has, x0.needs⟩, hv, nv)) := List.getElem?_set_self (by rw [Hpl.out]; exact hp)
      have hF3 := hF2.front Hpk.out
      have hoh := hF3.own _ List.mem_cons_self
      obtain ⟨ah, ch, hhv⟩ := hoh.lst.shape
      have hon := hF3.own _ (List.mem_cons_of_mem _ List.mem_cons_self)
      obtain ⟨an, cn, hnv⟩ := hon.lst.shape
      simp only at hhv hnv
      subst hhv hnv
      have c1 := hrow2.cellAt (k * 3 + 1) (by omega)
      rw [rowsB_at _ k _ Hp2.out 1 _ rfl] at c1
      go_wp2_with fail
      refine (markS_any x0.has base _ (y + 1) _ hoh (by omega) (by omega) (by omega)).mono ?_
      rintro e w3 ⟨rfl, ⟨ys, hyl, hym, hoy⟩, hg3⟩
      obtain rfl := marked_mkL hyl hym
      have hz3 := hg3.size
      have hF4 := hF3.over (by omega) hg3 hoy
      have HK3 : Hid (w3.heap[G]? = w.heap[G]?) := (hF3.off (by omega) hg3).trans HK2.out
      have hrow3 := row_step hrow2 hoh hg3
      have hB3 : Below base w w3 := below_ownB hB2 (by omega) hoh hg3 (Nat.le_refl _)
      have hon3 := hF4.own _ (List.mem_cons_of_mem _ List.mem_cons_self)
      have hF5 := hF4.swap
      clear c1 hrow2 hF2 hF3 hoh hon hF4 hg3 hB2 hyl hym hoy
      have c2 := hrow3.cellAt (k * 3 + 2) (by omega)
      rw [rowsB_at _ k _ Hp2.out 2 _ rfl] at c2
      go_wp2_with fail
      refine (markS_any x0.needs base _ (y + 1 + x0.has.length) _ hon3 (by omega) (by omega) (by omega)).mono ?_
      rintro e w4 ⟨rfl, ⟨ys, hyl, hym, hoy⟩, hg4⟩
      obtain rfl := marked_mkL hyl hym
      have hF6 := (hF5.over (by omega) hg4 hoy).swap
      have HK4 : Hid (w4.heap[G]? = w.heap[G]?) := (hF5.off (by omega) hg4).trans HK3.out
      have hrow4 := row_step hrow3 hon3 hg4
      have hB4 : Below base w w4 := below_ownB hB3 (by omega) hon3 hg4 (Nat.le_refl _)
      clear c2 hrow3 hF5 hon3 hg4 hB3 hyl hym hoy
      have Hrow : Hid (w4.ownsRow base 45 3 (.slice (some ⟨g, 0, none⟩) bs.length cap) bs.length (rowsB (ps.set k ((mkBa y x0, .slice ah x0.has.length ch, .slice an x0.needs.length cn) : Bv)))) := by
        have := rowsB_same (ps.set k ((⟨mb, x0.has, x0.needs⟩, .slice ah x0.has.length ch, .slice an x0.needs.length cn) : Bv)) k _ (mkBa y x0) Hp2.out (by rw [Hmb.out])
        rw [set_twice] at this
        show _
        rw [this]; exact hrow4
      have HF : Hid (Fam w4 base (some G) (t :: famB (ps.set k ((mkBa y x0, .slice ah x0.has.length ch, .slice an x0.needs.length cn) : Bv)))) := by
        refine Fam.back ?_ (by rw [Hpl.out]; exact hp)
        rw [Hmb.out]; exact hF6
      clear hrow4 hF6
      go_wp2_with fail
      go_roundw
      case rel => exact ⟨k + 1, _, _, by omega, by go_num, rfl, by rw [Hsz.out]; simp [szBa]; omega, by omega, by omega, Hstep.out, Hrow.out, HF.out, hB4, HK4.out⟩
      case measure => simp [intOf]; omega
    · obtain rfl : k = bs.length := by omega
      have HE : Hid (y = m + szBas bs) := by have := Hy.out; rwa [List.take_length] at this
      have HP : Hid (ps.map (·.1) = mkBas m bs) := by have := Hps.out; rwa [curB_all] at this
      go_wp2_with fail
      go_ret
      exact ⟨by rw [← HE.out]; rfl, ⟨ps, hrow, HP.out, hF⟩, hB, HK.out⟩
end Go.Proofs.YtialglmnfchfmadGreatDoor
