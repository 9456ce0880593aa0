/- The laws' helpers over lists of texts: alike, marked, held. -/
import Derived.Test.YtialglmnfchfmadGreatDoorJ0
import Derived.Test.YtialglmnfchfmadGreatDoorMk1
import Derived.Deep.RegionHeld
import Derived.Test.YtialglmnfchfmadGreatDoorKr9
namespace Go.Proofs.YtialglmnfchfmadGreatDoor
open Go.RowKit

set_option maxHeartbeats 1000000 in
theorem eqStr_any (ss : List ByteArray) (va vb : Value) (w : World) (ha : Lst w va ss) (hb : Lst w vb ss) (hn : ss.length ≤ 1000) :
    Calls Tryz.prog 12 #[va, vb] w fun e w' => e = .returned (.bool true) ∧ Below w.heap.size w w' := by
  by_cases h0 : ss = []
  · subst h0
    obtain ⟨a1, c1, rfl⟩ := ha.shape
    obtain ⟨a2, c2, rfl⟩ := hb.shape
    simp only [List.length_nil]
    go_enter Tryz.func12, Tryz.ntmps12
    go_wp2
    go_rounds 1
    go_ret
    exact ⟨rfl, Below.refl _ _⟩
  rcases ha with ⟨_, h⟩ | ha
  · exact absurd h h0
  rcases hb with ⟨_, h⟩ | hb
  · exact absurd h h0
  obtain ⟨g1, c1, rfl, hS1, hg1, _, _⟩ := ha
  obtain ⟨g2, c2, rfl, hS2, hg2, _, _⟩ := hb
  go_enter Tryz.func12, Tryz.ntmps12
  go_wp2
  go_loopw [5] (fun i w' => ∃ k : Nat, k ≤ ss.length ∧ i = .int .i64 k ∧ Below w.heap.size w w') (fun i _ => ss.length - (intOf i).toNat)
  case atStart => exact ⟨0, by omega, rfl, Below.refl _ _⟩
  case round =>
    obtain ⟨k, hk, rfl, hB⟩ := hrel
    by_cases hp : k < ss.length
    · have c1 := (hB.cell (p := ⟨g1, 0 + k, none⟩) hg1).trans (hS1 k ss[k] (by simp))
      have c2 := (hB.cell (p := ⟨g2, 0 + k, none⟩) hg2).trans (hS2 k ss[k] (by simp))
      simp only [Nat.zero_add] at c1 c2
      go_wp2_with fail
      go_quiet (fail)
      go_wp2_with fail
      go_roundw
      case rel => exact ⟨k + 1, by omega, by go_num, below_drewN hB nq⟩
      case measure => simp [intOf]; omega
    · go_wp2_with fail
      go_ret
      exact ⟨rfl, hB⟩

/-- From place 0 to k the marks from m on. -/
def Marked (ys : List ByteArray) (m : Int) (k : Nat) : Prop := ∀ i : Nat, i < k → ys[i]? = some (mkB (m + i))
theorem Marked.set {ys : List ByteArray} {m : Int} {k : Nat} (h : Marked ys m k) (hk : k < ys.length) : Marked (ys.set k (mkB (m + k))) m (k + 1) := fun i hi => by
  rw [List.getElem?_set]
  by_cases e : k = i
  · subst e; rw [if_pos rfl, if_pos hk]
  · rw [if_neg e]; exact h i (by omega)

set_option maxHeartbeats 1000000 in
theorem markS_any (ss : List ByteArray) (base : Nat) (u : Value) (m : Int) (w : World) (h : OwnT w base u ss) (hn : ss.length ≤ 1000) (hm : 1 ≤ m) (hm9 : m ≤ 1000000) :
    Calls Tryz.prog 14 #[u, .int .i64 m] w fun e w' => e = .returned (.int .i64 (m + ss.length)) ∧ (∃ ys, ys.length = ss.length ∧ Marked ys m ss.length ∧ OwnT w' base u ys) ∧ w.grownBy w' u.ownBlock := by
  by_cases h0 : ss = []
  · subst h0
    obtain ⟨a1, c1, rfl⟩ := h.lst.shape
    simp only [List.length_nil]
    have HO : Hid (OwnT w base (.slice a1 0 c1) []) := h
    clear h
    go_enter Tryz.func14, Tryz.ntmps14
    go_wp2
    go_rounds 1
    go_ret
    exact ⟨by simp, ⟨[], rfl, fun i hi => by omega, HO.out⟩, grown_refl _ _⟩
  have hpos : 0 < ss.length := by
    rcases Nat.eq_zero_or_pos ss.length with h1 | h1
    · exact absurd (List.length_eq_zero_iff.1 h1) h0
    · exact h1
  obtain ⟨g, cap, rfl⟩ := own_ptr2 h hpos
  go_enter Tryz.func14, Tryz.ntmps14
  go_wp2
  go_loopw [1, 5] (fun kk i w' => ∃ (k : Nat) (ys : List ByteArray), k ≤ ss.length ∧ i = .int .i64 k ∧ kk = .int .i64 (m + k) ∧ ys.length = ss.length ∧ Marked ys m k ∧ w'.ownsRow base 9 1 (.slice (some ⟨g, 0, none⟩) ss.length cap) ss.length (ys.map Value.string) ∧ w.grownBy w' (some g)) (fun _ i _ => ss.length - (intOf i).toNat)
  case atStart => exact ⟨0, ss, by omega, rfl, by simp, rfl, fun i hi => by omega, h, grown_refl _ _⟩
  case round =>
    obtain ⟨k, ys, hk, rfl, rfl, hyl, hM, hown, hG⟩ := hrel
    by_cases hp : k < ss.length
    · go_wp2_with fail
      refine (mark_any (m + k) wr (by omega)).mono ?_
      rintro e w1 ⟨rfl, hB1⟩
      have hown1 := own_up hown hB1
      have hG1 := grown_trans hG (grown_below (r := some g) hB1)
      have c0 := hown1.cellAt k (by omega)
      rw [List.getElem?_map, List.getElem?_eq_getElem (by omega)] at c0
      have f0 := hown1.frozenAt k
      have hst := hown1.stored k (.string (mkB (m + k)))
      have hM' := hM.set (by omega)
      have Hst : Hid ((w1.setCell ⟨g, k, none⟩ (.string (mkB (m + k)))).ownsRow base 9 1 (.slice (some ⟨g, 0, none⟩) ss.length cap) ss.length ((ys.set k (mkB (m + k))).map Value.string) ∧ w.grownBy (w1.setCell ⟨g, k, none⟩ (.string (mkB (m + k)))) (some g)) := by
        refine ⟨?_, grown_trans hG1 hst.2⟩
        rw [List.map_set]; exact hst.1
      have HM : Hid (Marked (ys.set k (mkB (m + k))) m (k + 1)) := hM'
      have hyl' : (ys.set k (mkB (m + k))).length = ss.length := by rw [List.length_set]; exact hyl
      have Hyl : Hid ((ys.set k (mkB (m + k))).length = ss.length) := hyl'
      clear hown hB1 hG hown1 hG1 hst hM' hM hyl'
      simp only [Option.map_some] at c0
      generalize mkB (m + k) = mb at *
      go_wp2_with fail
      go_roundw
      case rel => exact ⟨k + 1, ys.set k mb, by omega, by go_num, by go_num, Hyl.out, HM.out, Hst.out.1, Hst.out.2⟩
      case measure => simp [intOf]; omega
    · obtain rfl : k = ss.length := by omega
      go_wp2_with fail
      go_ret
      exact ⟨rfl, ⟨ys, hyl, hM, by unfold OwnT; rw [hyl]; exact hown⟩, hG⟩

set_option maxHeartbeats 1000000 in
theorem heldS_any (ys : List ByteArray) (base : Nat) (u : Value) (m : Int) (w : World) (h : OwnT w base u ys) (hM : Marked ys m ys.length) (hn : ys.length ≤ 1000) (hm : 1 ≤ m) (hm9 : m ≤ 1000000) :
    Calls Tryz.prog 30 #[u, .int .i64 m] w fun e w' => e = .returned (.int .i64 (m + ys.length)) ∧ Below w.heap.size w w' := by
  by_cases h0 : ys = []
  · subst h0
    obtain ⟨a1, c1, rfl⟩ := h.lst.shape
    simp only [List.length_nil]
    clear h hM
    go_enter Tryz.func30, Tryz.ntmps30
    go_wp2
    go_rounds 1
    go_ret
    exact ⟨by simp, Below.refl _ _⟩
  have hpos : 0 < ys.length := by
    rcases Nat.eq_zero_or_pos ys.length with h1 | h1
    · exact absurd (List.length_eq_zero_iff.1 h1) h0
    · exact h1
  obtain ⟨g, cap, rfl⟩ := own_ptr2 h hpos
  have hg := (h.lt g rfl).2
  have hcell : ∀ k, k < ys.length → w.cell? ⟨g, k, none⟩ = some (.string (mkB (m + k))) := fun k hk => by
    rw [h.cellAt k (by omega), List.getElem?_map, hM k hk]; rfl
  have Hcell : Hid (∀ k, k < ys.length → w.cell? ⟨g, k, none⟩ = some (.string (mkB (m + k)))) := hcell
  clear hcell h hM
  go_enter Tryz.func30, Tryz.ntmps30
  go_wp2
  go_loopw [1, 5] (fun kk i w' => ∃ k : Nat, k ≤ ys.length ∧ i = .int .i64 k ∧ kk = .int .i64 (m + k) ∧ Below w.heap.size w w') (fun _ i _ => ys.length - (intOf i).toNat)
  case atStart => exact ⟨0, by omega, rfl, by simp, Below.refl _ _⟩
  case round =>
    obtain ⟨k, hk, rfl, rfl, hB⟩ := hrel
    by_cases hp : k < ys.length
    · have c0 := (hB.cell (p := ⟨g, k, none⟩) hg).trans (Hcell.out k hp)
      go_wp2_with fail
      have hS : Below w.heap.size w wr ∧ wr.cell? ⟨g, k, none⟩ = some (.string (mkB (m + k))) := ⟨hB, c0⟩
      clear c0
      go_region_held (fun w' => Below w.heap.size w w' ∧ w'.cell? ⟨g, k, none⟩ = some (.string (mkB (m + k)))) (first | exact ⟨hS.1.drew, hS.2⟩ | exact keep1 hg (by assumption) (by assumption))
        (first | (go_at_call 29; refine (mark_any (m + k) _ (by omega)).mono ?_; rintro e w1 ⟨rfl, hB1⟩))
      rename_i hHeld
      have hB3 := hHeld.1
      clear hHeld hS hB
      generalize mkB (m + k) = mb at *
      go_wp2_with fail
      go_roundw
      case rel => exact ⟨k + 1, by omega, by go_num, by go_num, hB3⟩
      case measure => simp [intOf]; omega
    · obtain rfl : k = ys.length := by omega
      go_wp2_with fail
      go_ret
      exact ⟨rfl, hB⟩
end Go.Proofs.YtialglmnfchfmadGreatDoor

/- The laws' marks over a book of one's own, in plain. -/
namespace Go.Proofs.YtialglmnfchfmadGreatDoor
open Go.RowKit

def mkL (m : Int) (n : Nat) : List ByteArray := (List.range n).map fun (i : Nat) => mkB (m + i)
theorem mkL_len (m : Int) (n : Nat) : (mkL m n).length = n := by simp [mkL]
theorem mkL_marked (m : Int) (n : Nat) : Marked (mkL m n) m n := fun i hi => by simp [mkL, hi]
theorem marked_mkL {ys : List ByteArray} {m : Int} {n : Nat} (hl : ys.length = n) (h : Marked ys m n) : ys = mkL m n := by
  refine List.ext_getElem? fun i => ?_
  by_cases hi : i < n
  · rw [h i hi]; exact (mkL_marked m n i hi).symm
  · rw [List.getElem?_eq_none (by omega), List.getElem?_eq_none (by rw [mkL_len]; omega)]
def mkBa (m : Int) (x : Ba) : Ba := ⟨mkB m, mkL (m + 1) x.has.length, mkL (m + 1 + x.has.length) x.needs.length⟩
def szBa (x : Ba) : Nat := 1 + x.has.length + x.needs.length
def mkBas : Int → List Ba → List Ba
  | _, [] => []
  | m, x :: r => mkBa m x :: mkBas (m + szBa x) r
def szBas : List Ba → Nat
  | [] => 0
  | x :: r => szBa x + szBas r
theorem mkBas_len : ∀ (m : Int) (bs : List Ba), (mkBas m bs).length = bs.length
  | _, [] => rfl
  | m, x :: r => by simp [mkBas, mkBas_len _ r]
theorem szBas_snoc : ∀ (l : List Ba) (x : Ba), szBas (l ++ [x]) = szBas l + szBa x
  | [], x => by simp [szBas]
  | y :: r, x => by simp [szBas, szBas_snoc r x]; omega
theorem mkBas_snoc : ∀ (m : Int) (l : List Ba) (x : Ba), mkBas m (l ++ [x]) = mkBas m l ++ [mkBa (m + szBas l) x]
  | m, [], x => by simp [mkBas, szBas]
  | m, y :: r, x => by
    simp only [List.cons_append, mkBas, mkBas_snoc _ r x, szBas]
    rw [show m + (szBa y : Int) + (szBas r : Int) = m + ((szBa y + szBas r : Nat) : Int) by omega]
/-- The batches, marked up to place k. -/
def curB (m : Int) (bs : List Ba) (k : Nat) : List Ba := mkBas m (bs.take k) ++ bs.drop k
theorem curB_zero (m : Int) (bs : List Ba) : curB m bs 0 = bs := by simp [curB, mkBas]
theorem curB_all (m : Int) (bs : List Ba) : curB m bs bs.length = mkBas m bs := by simp [curB]
theorem curB_at (m : Int) (bs : List Ba) (k : Nat) (hk : k ≤ bs.length) : (curB m bs k)[k]? = bs[k]? := by
  rw [curB, List.getElem?_append_right (by rw [mkBas_len, List.length_take]; omega), List.getElem?_drop, mkBas_len, List.length_take]
  congr 1; omega
theorem curB_step (m : Int) (bs : List Ba) (k : Nat) (hk : k < bs.length) : curB m bs (k + 1) = (curB m bs k).set k (mkBa (m + szBas (bs.take k)) bs[k]) := by
  have hl : (mkBas m (bs.take k)).length = k := by rw [mkBas_len, List.length_take]; omega
  rw [curB, curB, List.take_succ_eq_append_getElem hk, mkBas_snoc, List.set_append_right _ _ (by omega), hl, Nat.sub_self, List.drop_eq_getElem_cons hk, List.append_assoc]
  rfl
def mkBk (b : Bk) : Bk := ⟨mkL 1 b.things.length, mkBas (1 + b.things.length) b.bs⟩
def mkEnd (b : Bk) : Int := 1 + b.things.length + szBas b.bs
/-- Short lists. -/
def Lit (b : Bk) : Prop := b.things.length ≤ 100 ∧ b.bs.length ≤ 100 ∧ ∀ x ∈ b.bs, x.has.length ≤ 100 ∧ x.needs.length ≤ 100
theorem szBas_lid : ∀ (l : List Ba), (∀ x ∈ l, x.has.length ≤ 100 ∧ x.needs.length ≤ 100) → szBas l ≤ 201 * l.length
  | [], _ => by simp [szBas]
  | x :: r, h => by
    have h1 := szBas_lid r fun y hy => h y (List.mem_cons_of_mem _ hy)
    have h2 := h x List.mem_cons_self
    simp only [szBas, szBa, List.length_cons]
    omega
theorem rowsB_nm : ∀ (ps : List Bv) (k : Nat) (p : Bv) (s : ByteArray), ps[k]? = some p → (rowsB ps).set (k * 3) (.string s) = rowsB (ps.set k ((⟨s, p.1.has, p.1.needs⟩, p.2.1, p.2.2) : Bv))
  | q :: r, 0, p, s, h => by
    obtain rfl : q = p := by simpa using h
    simp [rowsB, rowB]
  | q :: r, k + 1, p, s, h => by
    have := rowsB_nm r k p s (by simpa using h)
    rw [show (k + 1) * 3 = k * 3 + 3 by omega]
    simp [rowsB, rowB, this]
/-- What a row shows of a batch is its name and its two lists' places. -/
theorem rowsB_same : ∀ (ps : List Bv) (k : Nat) (p : Bv) (x : Ba), ps[k]? = some p → x.nm = p.1.nm → rowsB (ps.set k ((x, p.2.1, p.2.2) : Bv)) = rowsB ps
  | q :: r, 0, p, x, h, e => by
    obtain rfl : q = p := by simpa using h
    simp [rowsB, rowB, e]
  | q :: r, k + 1, p, x, h, e => by
    have := rowsB_same r k p x (by simpa using h) e
    simp [rowsB, this]
theorem famB_at : ∀ (qs : List Bv) (k : Nat) (p : Bv), qs[k]? = some p → (famB qs).Perm ((p.2.1, p.1.has) :: (p.2.2, p.1.needs) :: famB (qs.eraseIdx k))
  | [], _, _, h => by simp at h
  | q :: r, 0, p, h => by
    obtain rfl : q = p := by simpa using h
    simp [famB]
  | q :: r, k + 1, p, h => by
    have ih := famB_at r k p (by simpa using h)
    simp only [famB, List.eraseIdx_cons_succ]
    refine ((ih.cons _).cons _).trans ?_
    exact (List.perm_append_comm (l₁ := [(q.2.1, q.1.has), (q.2.2, q.1.needs)]) (l₂ := [(p.2.1, p.1.has), (p.2.2, p.1.needs)])).append_right (famB (r.eraseIdx k))
theorem turn3 {α : Type} (t a b : α) (l : List α) : (t :: a :: b :: l).Perm (a :: b :: t :: l) := (List.perm_append_comm (l₁ := [t]) (l₂ := [a, b])).append_right l
/-- The lists of one batch put ahead of the others. -/
theorem Fam.front {w : World} {B : Nat} {q : Option Nat} {t : Value × List ByteArray} {ps : List Bv} {k : Nat} {p : Bv} (h : Fam w B q (t :: famB ps)) (hp : ps[k]? = some p) : Fam w B q ((p.2.1, p.1.has) :: (p.2.2, p.1.needs) :: t :: famB (ps.eraseIdx k)) :=
  h.perm (((famB_at ps k p hp).cons t).trans (turn3 _ _ _ _))
theorem Fam.back {w : World} {B : Nat} {q : Option Nat} {t : Value × List ByteArray} {ps : List Bv} {k : Nat} {p : Bv} (h : Fam w B q ((p.2.1, p.1.has) :: (p.2.2, p.1.needs) :: t :: famB (ps.eraseIdx k))) (hk : k < ps.length) : Fam w B q (t :: famB (ps.set k p)) := by
  refine h.perm (List.Perm.symm ?_)
  have h1 := famB_at (ps.set k p) k p (by rw [List.getElem?_set_self hk])
  rw [List.eraseIdx_set_eq] at h1
  exact (h1.cons t).trans (turn3 _ _ _ _)
/-- The first is written over. -/
theorem Fam.over {w w' : World} {B G : Nat} {u : Value} {ss ss' : List ByteArray} {fs : List (Value × List ByteArray)} (h : Fam w B (some G) ((u, ss) :: fs)) (hG : G < w.heap.size) (hg : w.grownBy w' u.ownBlock) (hu : OwnT w' B u ss') : Fam w' B (some G) ((u, ss') :: fs) :=
  h.app hg hu (fun _ hg => .inl hg) (fun _ h => by cases h; exact hG)
theorem Fam.off {w w' : World} {B G : Nat} {u : Value} {ss : List ByteArray} {fs : List (Value × List ByteArray)} (h : Fam w B (some G) ((u, ss) :: fs)) (hG : G < w.heap.size) (hg : w.grownBy w' u.ownBlock) : w'.heap[G]? = w.heap[G]? :=
  hg.block G hG (fun e => h.av _ List.mem_cons_self G e.symm rfl)
/-- A row of batches stays while a list is written over. -/
theorem row_step {W W' : World} {base b2 n : Nat} {u v : Value} {ss : List ByteArray} {xs : List Value} (hrow : W.ownsRow b2 45 3 v n xs) (h : OwnT W base u ss) (hg : W.grownBy W' u.ownBlock) : W'.ownsRow b2 45 3 v n xs :=
  own_keep2 hrow hg (own_apart2 hrow h (by decide))
/-- A book of one's own whose lists lie apart, and off a block. -/
def BkG (w : World) (base : Nat) (q : Option Nat) (v : Value) (b : Bk) : Prop := ∃ a1 c1 a2 c2 ps, v = .agg #[.slice a1 b.things.length c1, .slice a2 b.bs.length c2] ∧ BsW w base (.slice a2 b.bs.length c2) ps ∧ ps.map (·.1) = b.bs ∧ Fam w base q ((.slice a1 b.things.length c1, b.things) :: famB ps) ∧ ∀ g, (Value.slice a2 b.bs.length c2).ownBlock = some g → some g ≠ q
theorem BkF.off {w : World} {base G : Nat} {v : Value} {b : Bk} (h : BkF w base v b) (hG : w.heap.size ≤ G) : BkG w base (some G) v b := by
  obtain ⟨a1, c1, a2, c2, ps, e, h1, h2, h3⟩ := h
  refine ⟨a1, c1, a2, c2, ps, e, h1, h2, h3.avoid hG, fun g hg e => ?_⟩
  have := (h1.1.lt g hg).2
  obtain rfl := Option.some.inj e
  omega
theorem BkG.free {w : World} {base : Nat} {q : Option Nat} {v : Value} {b : Bk} (h : BkG w base q v b) : BkF w base v b := by
  obtain ⟨a1, c1, a2, c2, ps, e, h1, h2, h3, -⟩ := h
  exact ⟨a1, c1, a2, c2, ps, e, h1, h2, h3.free⟩
theorem BkG.up {w w' : World} {base : Nat} {q : Option Nat} {v : Value} {b : Bk} (h : BkG w base q v b) (hb : Below w.heap.size w w') : BkG w' base q v b := by
  obtain ⟨a1, c1, a2, c2, ps, e, h1, h2, h3, h4⟩ := h
  exact ⟨a1, c1, a2, c2, ps, e, h1.up hb, h2, h3.up hb, h4⟩
end Go.Proofs.YtialglmnfchfmadGreatDoor
