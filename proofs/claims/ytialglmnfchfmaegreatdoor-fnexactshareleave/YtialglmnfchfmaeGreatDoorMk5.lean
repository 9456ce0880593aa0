/- The laws' marks over a book of one's own, in plain. -/
import Derived.Test.YtialglmnfchfmaeGreatDoorMk2
import Derived.Test.YtialglmnfchfmaeGreatDoorJ25
namespace Go.Proofs.YtialglmnfchfmaeGreatDoor
open Go.RowKit

def mkL (m : Int) (n : Nat) : List ByteArray := (List.range n).map fun (i : Nat) => mkB (m + i)
theorem mkL_len (m : Int) (n : Nat) : (mkL m n).length = n := by simp [mkL]
theorem mkL_marked (m : Int) (n : Nat) : Marked (mkL m n) m n := fun i hi => by simp [mkL, hi]
theorem marked_mkL {ys : List ByteArray} {m : Int} {n : Nat} (hl : ys.length = n) (h : Marked ys m n) : ys = mkL m n := by
  refine List.ext_getElem? fun i => ?_
  by_cases hi : i < n
  · rw [h i hi]; exact (mkL_marked m n i hi).symm
  · rw [List.getElem?_eq_none (by omega), List.getElem?_eq_none (by rw [mkL_len]; omega)]
def mkBa (m : Int) (x : Ba) : Ba := ⟨mkB m, mkL (m + 1) x.has.length, mkL (m + 1 + x.has.length) x.needs.length⟩
def szBa (x : Ba) : Nat := 1 + x.has.length + x.needs.length
def mkBas : Int → List Ba → List Ba
  | _, [] => []
  | m, x :: r => mkBa m x :: mkBas (m + szBa x) r
def szBas : List Ba → Nat
  | [] => 0
  | x :: r => szBa x + szBas r
theorem mkBas_len : ∀ (m : Int) (bs : List Ba), (mkBas m bs).length = bs.length
  | _, [] => rfl
  | m, x :: r => by simp [mkBas, mkBas_len _ r]
theorem szBas_snoc : ∀ (l : List Ba) (x : Ba), szBas (l ++ [x]) = szBas l + szBa x
  | [], x => by simp [szBas]
  | y :: r, x => by simp [szBas, szBas_snoc r x]; omega
theorem mkBas_snoc : ∀ (m : Int) (l : List Ba) (x : Ba), mkBas m (l ++ [x]) = mkBas m l ++ [mkBa (m + szBas l) x]
  | m, [], x => by simp [mkBas, szBas]
  | m, y :: r, x => by
    simp only [List.cons_append, mkBas, mkBas_snoc _ r x, szBas]
    rw [show m + (szBa y : Int) + (szBas r : Int) = m + ((szBa y + szBas r : Nat) : Int) by omega]
/-- The batches, marked up to place k. -/
def curB (m : Int) (bs : List Ba) (k : Nat) : List Ba := mkBas m (bs.take k) ++ bs.drop k
theorem curB_zero (m : Int) (bs : List Ba) : curB m bs 0 = bs := by simp [curB, mkBas]
theorem curB_all (m : Int) (bs : List Ba) : curB m bs bs.length = mkBas m bs := by simp [curB]
theorem curB_at (m : Int) (bs : List Ba) (k : Nat) (hk : k ≤ bs.length) : (curB m bs k)[k]? = bs[k]? := by
  rw [curB, List.getElem?_append_right (by rw [mkBas_len, List.length_take]; omega), List.getElem?_drop, mkBas_len, List.length_take]
  congr 1; omega
theorem curB_step (m : Int) (bs : List Ba) (k : Nat) (hk : k < bs.length) : curB m bs (k + 1) = (curB m bs k).set k (mkBa (m + szBas (bs.take k)) bs[k]) := by
  have hl : (mkBas m (bs.take k)).length = k := by rw [mkBas_len, List.length_take]; omega
  rw [curB, curB, List.take_succ_eq_append_getElem hk, mkBas_snoc, List.set_append_right _ _ (by omega), hl, Nat.sub_self, List.drop_eq_getElem_cons hk, List.append_assoc]
  rfl
def mkBk (b : Bk) : Bk := ⟨mkL 1 b.things.length, mkBas (1 + b.things.length) b.bs⟩
def mkEnd (b : Bk) : Int := 1 + b.things.length + szBas b.bs
/-- Short lists. -/
def Lit (b : Bk) : Prop := b.things.length ≤ 100 ∧ b.bs.length ≤ 100 ∧ ∀ x ∈ b.bs, x.has.length ≤ 100 ∧ x.needs.length ≤ 100
theorem szBas_lid : ∀ (l : List Ba), (∀ x ∈ l, x.has.length ≤ 100 ∧ x.needs.length ≤ 100) → szBas l ≤ 201 * l.length
  | [], _ => by simp [szBas]
  | x :: r, h => by
    have h1 := szBas_lid r fun y hy => h y (List.mem_cons_of_mem _ hy)
    have h2 := h x List.mem_cons_self
    simp only [szBas, szBa, List.length_cons]
    omega
theorem rowsB_nm : ∀ (ps : List Bv) (k : Nat) (p : Bv) (s : ByteArray), ps[k]? = some p → (rowsB ps).set (k * 3) (.string s) = rowsB (ps.set k ((⟨s, p.1.has, p.1.needs⟩, p.2.1, p.2.2) : Bv))
  | q :: r, 0, p, s, h => by
    obtain rfl : q = p := by simpa using h
    simp [rowsB, rowB]
  | q :: r, k + 1, p, s, h => by
    have := rowsB_nm r k p s (by simpa using h)
    rw [show (k + 1) * 3 = k * 3 + 3 by omega]
    simp [rowsB, rowB, this]
/-- What a row shows of a batch is its name and its two lists' places. -/
theorem rowsB_same : ∀ (ps : List Bv) (k : Nat) (p : Bv) (x : Ba), ps[k]? = some p → x.nm = p.1.nm → rowsB (ps.set k ((x, p.2.1, p.2.2) : Bv)) = rowsB ps
  | q :: r, 0, p, x, h, e => by
    obtain rfl : q = p := by simpa using h
    simp [rowsB, rowB, e]
  | q :: r, k + 1, p, x, h, e => by
    have := rowsB_same r k p x (by simpa using h) e
    simp [rowsB, this]
theorem famB_at : ∀ (qs : List Bv) (k : Nat) (p : Bv), qs[k]? = some p → (famB qs).Perm ((p.2.1, p.1.has) :: (p.2.2, p.1.needs) :: famB (qs.eraseIdx k))
  | [], _, _, h => by simp at h
  | q :: r, 0, p, h => by
    obtain rfl : q = p := by simpa using h
    simp [famB]
  | q :: r, k + 1, p, h => by
    have ih := famB_at r k p (by simpa using h)
    simp only [famB, List.eraseIdx_cons_succ]
    refine ((ih.cons _).cons _).trans ?_
    exact (List.perm_append_comm (l₁ := [(q.2.1, q.1.has), (q.2.2, q.1.needs)]) (l₂ := [(p.2.1, p.1.has), (p.2.2, p.1.needs)])).append_right (famB (r.eraseIdx k))
theorem turn3 {α : Type} (t a b : α) (l : List α) : (t :: a :: b :: l).Perm (a :: b :: t :: l) := (List.perm_append_comm (l₁ := [t]) (l₂ := [a, b])).append_right l
/-- The lists of one batch put ahead of the others. -/
theorem Fam.front {w : World} {B : Nat} {q : Option Nat} {t : Value × List ByteArray} {ps : List Bv} {k : Nat} {p : Bv} (h : Fam w B q (t :: famB ps)) (hp : ps[k]? = some p) : Fam w B q ((p.2.1, p.1.has) :: (p.2.2, p.1.needs) :: t :: famB (ps.eraseIdx k)) :=
  h.perm (((famB_at ps k p hp).cons t).trans (turn3 _ _ _ _))
theorem Fam.back {w : World} {B : Nat} {q : Option Nat} {t : Value × List ByteArray} {ps : List Bv} {k : Nat} {p : Bv} (h : Fam w B q ((p.2.1, p.1.has) :: (p.2.2, p.1.needs) :: t :: famB (ps.eraseIdx k))) (hk : k < ps.length) : Fam w B q (t :: famB (ps.set k p)) := by
  refine h.perm (List.Perm.symm ?_)
  have h1 := famB_at (ps.set k p) k p (by rw [List.getElem?_set_self hk])
  rw [List.eraseIdx_set_eq] at h1
  exact (h1.cons t).trans (turn3 _ _ _ _)
/-- The first is written over. -/
theorem Fam.over {w w' : World} {B G : Nat} {u : Value} {ss ss' : List ByteArray} {fs : List (Value × List ByteArray)} (h : Fam w B (some G) ((u, ss) :: fs)) (hG : G < w.heap.size) (hg : w.grownBy w' u.ownBlock) (hu : OwnT w' B u ss') : Fam w' B (some G) ((u, ss') :: fs) :=
  h.app hg hu (fun _ hg => .inl hg) (fun _ h => by cases h; exact hG)
theorem Fam.off {w w' : World} {B G : Nat} {u : Value} {ss : List ByteArray} {fs : List (Value × List ByteArray)} (h : Fam w B (some G) ((u, ss) :: fs)) (hG : G < w.heap.size) (hg : w.grownBy w' u.ownBlock) : w'.heap[G]? = w.heap[G]? :=
  hg.block G hG (fun e => h.av _ List.mem_cons_self G e.symm rfl)
/-- A row of batches stays while a list is written over. -/
theorem row_step {W W' : World} {base b2 n : Nat} {u v : Value} {ss : List ByteArray} {xs : List Value} (hrow : W.ownsRow b2 60 3 v n xs) (h : OwnT W base u ss) (hg : W.grownBy W' u.ownBlock) : W'.ownsRow b2 60 3 v n xs :=
  own_keep2 hrow hg (own_apart2 hrow h (by decide))
/-- A book of one's own whose lists lie apart, and off a block. -/
def BkG (w : World) (base : Nat) (q : Option Nat) (v : Value) (b : Bk) : Prop := ∃ a1 c1 a2 c2 ps, v = .agg #[.slice a1 b.things.length c1, .slice a2 b.bs.length c2] ∧ BsW w base (.slice a2 b.bs.length c2) ps ∧ ps.map (·.1) = b.bs ∧ Fam w base q ((.slice a1 b.things.length c1, b.things) :: famB ps) ∧ ∀ g, (Value.slice a2 b.bs.length c2).ownBlock = some g → some g ≠ q
theorem BkF.off {w : World} {base G : Nat} {v : Value} {b : Bk} (h : BkF w base v b) (hG : w.heap.size ≤ G) : BkG w base (some G) v b := by
  obtain ⟨a1, c1, a2, c2, ps, e, h1, h2, h3⟩ := h
  refine ⟨a1, c1, a2, c2, ps, e, h1, h2, h3.avoid hG, fun g hg e => ?_⟩
  have := (h1.1.lt g hg).2
  obtain rfl := Option.some.inj e
  omega
theorem BkG.free {w : World} {base : Nat} {q : Option Nat} {v : Value} {b : Bk} (h : BkG w base q v b) : BkF w base v b := by
  obtain ⟨a1, c1, a2, c2, ps, e, h1, h2, h3, -⟩ := h
  exact ⟨a1, c1, a2, c2, ps, e, h1, h2, h3.free⟩
theorem BkG.up {w w' : World} {base : Nat} {q : Option Nat} {v : Value} {b : Bk} (h : BkG w base q v b) (hb : Below w.heap.size w w') : BkG w' base q v b := by
  obtain ⟨a1, c1, a2, c2, ps, e, h1, h2, h3, h4⟩ := h
  exact ⟨a1, c1, a2, c2, ps, e, h1.up hb, h2, h3.up hb, h4⟩
end Go.Proofs.YtialglmnfchfmaeGreatDoor
