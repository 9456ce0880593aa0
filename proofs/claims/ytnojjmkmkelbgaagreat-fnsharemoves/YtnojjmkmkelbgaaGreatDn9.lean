/- Drawing for the share: a book that is spoilt: what lies where. -/
import Derived.Test.YtnojjmkmkelbgaaGreatJ26
namespace Go.Proofs.YtnojjmkmkelbgaaGreat
open Go.RowKit

theorem rowsB_set0 : ∀ (ps : List Bv) (k : Nat) (p : Bv) (x : Ba), ps[k]? = some p → (rowsB ps).set (k * 3) (.string x.nm) = rowsB (ps.set k (x, p.2.1, p.2.2))
  | q :: r, 0, p, x, h => by
    obtain rfl : q = p := by simpa using h
    simp [rowsB, rowB]
  | q :: r, k + 1, p, x, h => by
    have := rowsB_set0 r k p x (by simpa using h)
    rw [show (k + 1) * 3 = k * 3 + 3 by omega]
    simp [rowsB, rowB, this]
theorem famB_name : ∀ (ps : List Bv) (k : Nat) (p : Bv) (s : ByteArray), ps[k]? = some p → famB (ps.set k ((⟨s, p.1.has, p.1.needs⟩, p.2.1, p.2.2) : Bv)) = famB ps
  | q :: r, 0, p, s, h => by
    obtain rfl : q = p := by simpa using h
    simp [famB]
  | q :: r, k + 1, p, s, h => by
    have := famB_name r k p s (by simpa using h)
    simp [famB, this]
theorem set_split {ps : List Bv} {k : Nat} {p : Bv} (h : ps[k]? = some p) : ∃ l r, ps = l ++ p :: r ∧ ∀ x, ps.set k x = l ++ x :: r := by
  obtain ⟨hk, rfl⟩ := List.getElem?_eq_some_iff.1 h
  refine ⟨ps.take k, ps.drop (k + 1), ?_, fun x => ?_⟩
  · rw [List.getElem_cons_drop, List.take_append_drop]
  · rw [List.set_eq_take_append_cons_drop, if_pos hk]
theorem famB_mid (l r : List Bv) (p : Bv) (f : Value × List ByteArray) : (f :: famB (l ++ p :: r)).Perm ((p.2.2, p.1.needs) :: (p.2.1, p.1.has) :: f :: famB (l ++ r)) := by
  rw [famB_app, famB_app]
  show ((f :: famB l) ++ (p.2.1, p.1.has) :: ((p.2.2, p.1.needs) :: famB r)).Perm _
  refine List.perm_middle.trans ?_
  refine (List.Perm.cons _ (List.perm_middle (l₁ := f :: famB l))).trans ?_
  exact List.Perm.swap _ _ _
structure SQ (w W : World) (rb len N q : Nat) (v tv xv : Value) (ts : List ByteArray) (ps : List Bv) : Prop where
  r : CB W (w.heap.size + 1) [.slice none 0 0, .slice none 0 0]
  x : CB W q [tv, xv]
  rd : Rd W rb v len N
  g : w.grownBy W (some rb)
  row : W.ownsRow (w.heap.size + 2) 32 3 xv ps.length (rowsB ps)
  fam : Fam W (w.heap.size + 2) (some q) ((tv, ts) :: famB ps)
  rq : ∀ k, xv.ownBlock = some k → some k ≠ some q
  qz : w.heap.size + 2 ≤ q
variable {w W X : World} {rb len N M q k gg n c : Nat} {v tv tv' xv xv' u' : Value} {ts ts' ss' : List ByteArray} {ps : List Bv} {p : Bv}
theorem SQ.gr (h : SQ w W rb len N q v tv xv ts ps) (hrb : rb < w.heap.size) (hg : W.grownBy X (some rb)) (hr : Rd X rb v len M) : SQ w X rb len M q v tv xv ts ps :=
  have := h.qz
  ⟨h.r.kept hg (by simp; omega), h.x.kept hg (by simp; omega), hr, grown_trans h.g hg, own_grown h.row hg (by omega), h.fam.gr hg (by omega), h.rq, h.qz⟩
theorem SQ.up (h : SQ w W rb len N q v tv xv ts ps) (hb : Below W.heap.size W X) : SQ w X rb len N q v tv xv ts ps :=
  ⟨h.r.up hb h.r.2.2, h.x.up hb h.x.2.2, h.rd.kept hb, grown_trans h.g (grown_below hb), own_up h.row hb, h.fam.up hb, h.rq, h.qz⟩
theorem SQ.alloc (h : SQ w W rb len N q v tv xv ts ps) (o : Obj) : SQ w (W.alloc o) rb len N q v tv xv ts ps := h.up ((Below.refl _ _).alloc (Nat.le_refl _) _)
theorem SQ.drew (h : SQ w W rb len N q v tv xv ts ps) : SQ w W.drew rb len N q v tv xv ts ps := h.up (Below.refl _ _).drew
theorem SQ.mono (h : SQ w W rb len N q v tv xv ts ps) (hM : N ≤ M) : SQ w W rb len M q v tv xv ts ps := ⟨h.r, h.x, h.rd.mono hM, h.g, h.row, h.fam, h.rq, h.qz⟩
theorem SQ.z (h : SQ w W rb len N q v tv xv ts ps) : w.heap.size + 2 ≤ W.heap.size := h.r.2.2
theorem SQ.head (h : SQ w W rb len N q v tv xv ts ps) : OwnT W (w.heap.size + 2) tv ts := h.fam.own (tv, ts) (by simp)
/-- The things grow. -/
theorem SQ.things (h : SQ w W rb len N q v tv xv ts ps) (hrb : rb < w.heap.size) (hg : W.grownBy X tv.ownBlock) (hu : OwnT X (w.heap.size + 2) tv' ts') (hw : Where W tv tv') : SQ w (X.setCell ⟨q, 0, none⟩ tv') rb len N q v tv' xv ts' ps :=
  have ho := h.head
  have hq := h.qz
  ⟨(h.r.kept hg (own_ne ho (by omega))).other (by omega), (h.x.kept hg fun e => h.fam.av (tv, ts) (by simp) q e.symm rfl).set (j := 0) (by simp), (h.rd.own ho hg (by omega)).setCell (by omega), grown_setNew (grown_own h.g ho hg (by omega)) (by omega) _,
   own_keep2 (own_keep2 h.row hg (own_apart2 h.row ho (by decide))) (grown_setCell (grown_refl _ _) _) h.rq, (Fam.app h.fam hg hu hw (at_lt h.x.2.2)).set 0 tv', h.rq, h.qz⟩
/-- A store into the row of batches. -/
theorem SQ.store (h : SQ w W rb len N q v tv xv ts ps) (hrb : rb < w.heap.size) (hxv : xv = .slice (some ⟨gg, 0, none⟩) ps.length c) (j : Nat) (u : Value) {ps' : List Bv} (hl : ps'.length = ps.length) (hrow : (rowsB ps).set j u = rowsB ps') (hf : famB ps' = famB ps) : SQ w (W.setCell ⟨gg, j, none⟩ u) rb len N q v tv xv ts ps' := by
  subst hxv
  have hrz := h.row.lt gg rfl
  have st := World.ownsRow.stored h.row j u
  have hg : W.grownBy (W.setCell ⟨gg, j, none⟩ u) (Value.slice (some ⟨gg, 0, none⟩) ps.length c).ownBlock := st.2
  have hqg := h.rq gg rfl
  have hq := h.qz
  refine ⟨h.r.kept hg (own_ne h.row (by omega)), h.x.kept hg fun e => hqg e.symm, h.rd.own h.row hg (by omega), grown_own h.g h.row hg (by omega), ?_, ?_, h.rq, h.qz⟩
  · rw [hl, ← hrow]; exact st.1
  · rw [hf]; exact h.fam.row h.row hg
/-- A list of the k-th grows. -/
theorem SQ.list (h : SQ w W rb len N q v tv xv ts ps) (hrb : rb < w.heap.size) {u : Value} {ss : List ByteArray} (hu : OwnT W (w.heap.size + 2) u ss) (hq : some q ≠ u.ownBlock) (hg : W.grownBy X u.ownBlock) : CB X (w.heap.size + 1) [.slice none 0 0, .slice none 0 0] ∧ CB X q [tv, xv] ∧ Rd X rb v len N ∧ w.grownBy X (some rb) ∧ X.ownsRow (w.heap.size + 2) 32 3 xv ps.length (rowsB ps) :=
  ⟨h.r.kept hg (own_ne hu (by omega)), h.x.kept hg hq, h.rd.own hu hg (by omega), grown_own h.g hu hg (by omega), own_keep2 h.row hg (own_apart2 h.row hu (by decide))⟩
theorem SQ.needs (h : SQ w W rb len N q v tv xv ts ps) (hrb : rb < w.heap.size) (hp : ps[k]? = some p) (hxv : xv = .slice (some ⟨gg, 0, none⟩) ps.length c) (hg : W.grownBy X p.2.2.ownBlock) (hu : OwnT X (w.heap.size + 2) u' ss') (hw : Where W p.2.2 u') :
    SQ w (X.setCell ⟨gg, k * 3 + 2, none⟩ u') rb len N q v tv xv ts (ps.set k ((⟨p.1.nm, p.1.has, ss'⟩, p.2.1, u') : Bv)) := by
  obtain ⟨l, r, hps, hset⟩ := set_split hp
  have hm : p ∈ ps := List.mem_of_getElem? hp
  have hfm : (p.2.2, p.1.needs) ∈ (tv, ts) :: famB ps := List.mem_cons_of_mem _ (famB_mem hm).2
  have hun := h.fam.own _ hfm
  obtain ⟨e1, e2, e3, e4, e5⟩ := h.list hrb hun (fun e => h.fam.av _ hfm q e.symm rfl) hg
  have hF : Fam W (w.heap.size + 2) (some q) ((p.2.2, p.1.needs) :: (p.2.1, p.1.has) :: (tv, ts) :: famB (l ++ r)) := by
    have := h.fam
    rw [hps] at this
    exact this.perm (famB_mid l r p (tv, ts))
  have hF2 := Fam.app hF hg hu hw (at_lt h.x.2.2)
  subst hxv
  have hrz := h.row.lt gg rfl
  have hqz := h.qz
  have st := World.ownsRow.stored e5 (k * 3 + 2) u'
  have hg2 : X.grownBy (X.setCell ⟨gg, k * 3 + 2, none⟩ u') (Value.slice (some ⟨gg, 0, none⟩) ps.length c).ownBlock := st.2
  refine ⟨e1.kept hg2 (own_ne e5 (by omega)), e2.kept hg2 fun e => h.rq gg rfl e.symm, e3.own e5 hg2 (by omega), grown_own e4 e5 hg2 (by omega), ?_, ?_, h.rq, h.qz⟩
  · rw [List.length_set, ← rowsB_set2 ps k p u' ⟨p.1.nm, p.1.has, ss'⟩ hp rfl]; exact st.1
  · rw [hset]
    exact (hF2.row e5 hg2).perm (famB_mid l r ((⟨p.1.nm, p.1.has, ss'⟩, p.2.1, u') : Bv) (tv, ts)).symm
theorem SQ.has (h : SQ w W rb len N q v tv xv ts ps) (hrb : rb < w.heap.size) (hp : ps[k]? = some p) (hxv : xv = .slice (some ⟨gg, 0, none⟩) ps.length c) (hg : W.grownBy X p.2.1.ownBlock) (hu : OwnT X (w.heap.size + 2) u' ss') (hw : Where W p.2.1 u') :
    SQ w (X.setCell ⟨gg, k * 3 + 1, none⟩ u') rb len N q v tv xv ts (ps.set k ((⟨p.1.nm, ss', p.1.needs⟩, u', p.2.2) : Bv)) := by
  obtain ⟨l, r, hps, hset⟩ := set_split hp
  have hm : p ∈ ps := List.mem_of_getElem? hp
  have hfm : (p.2.1, p.1.has) ∈ (tv, ts) :: famB ps := List.mem_cons_of_mem _ (famB_mem hm).1
  have hun := h.fam.own _ hfm
  obtain ⟨e1, e2, e3, e4, e5⟩ := h.list hrb hun (fun e => h.fam.av _ hfm q e.symm rfl) hg
  have hF : Fam W (w.heap.size + 2) (some q) ((p.2.1, p.1.has) :: (p.2.2, p.1.needs) :: (tv, ts) :: famB (l ++ r)) := by
    have := h.fam
    rw [hps] at this
    exact (this.perm (famB_mid l r p (tv, ts))).swap
  have hF2 := (Fam.app hF hg hu hw (at_lt h.x.2.2)).swap
  subst hxv
  have hrz := h.row.lt gg rfl
  have hqz := h.qz
  have st := World.ownsRow.stored e5 (k * 3 + 1) u'
  have hg2 : X.grownBy (X.setCell ⟨gg, k * 3 + 1, none⟩ u') (Value.slice (some ⟨gg, 0, none⟩) ps.length c).ownBlock := st.2
  refine ⟨e1.kept hg2 (own_ne e5 (by omega)), e2.kept hg2 fun e => h.rq gg rfl e.symm, e3.own e5 hg2 (by omega), grown_own e4 e5 hg2 (by omega), ?_, ?_, h.rq, h.qz⟩
  · rw [List.length_set, ← rowsB_set1 ps k p u' ⟨p.1.nm, ss', p.1.needs⟩ hp rfl]; exact st.1
  · rw [hset]
    exact (hF2.row e5 hg2).perm (famB_mid l r ((⟨p.1.nm, ss', p.1.needs⟩, u', p.2.2) : Bv) (tv, ts)).symm
/-- The row grows; what it holds then is told apart. -/
theorem SQ.grow (h : SQ w W rb len N q v tv xv ts ps) (hrb : rb < w.heap.size) (hg : W.grownBy X xv.ownBlock) (hw : Where W xv xv') {xs : List Value} (hrow : X.ownsRow (w.heap.size + 2) 32 3 xv' n xs) :
    CB (X.setCell ⟨q, 1, none⟩ xv') (w.heap.size + 1) [.slice none 0 0, .slice none 0 0] ∧ CB (X.setCell ⟨q, 1, none⟩ xv') q [tv, xv'] ∧ Rd (X.setCell ⟨q, 1, none⟩ xv') rb v len N ∧ w.grownBy (X.setCell ⟨q, 1, none⟩ xv') (some rb) ∧
    (X.setCell ⟨q, 1, none⟩ xv').ownsRow (w.heap.size + 2) 32 3 xv' n xs ∧ Fam (X.setCell ⟨q, 1, none⟩ xv') (w.heap.size + 2) (some q) ((tv, ts) :: famB ps) ∧ (∀ k, xv'.ownBlock = some k → some k ≠ some q) := by
  have hq := h.qz
  have hxl := h.x.2.2
  have hne : some q ≠ xv.ownBlock := fun e => h.rq q e.symm rfl
  have hrq : ∀ k, xv'.ownBlock = some k → some k ≠ some q := fun k hk e => by
    rcases hw k hk with h1 | h1
    · exact h.rq k h1 e
    · have : k = q := by simpa using e
      omega
  exact ⟨(h.r.kept hg (own_ne h.row (by omega))).other (by omega), (h.x.kept hg hne).set (j := 1) (by simp), (h.rd.own h.row hg (by omega)).setCell (by omega), grown_setNew (grown_own h.g h.row hg (by omega)) (by omega) _,
    own_keep2 hrow (grown_setCell (grown_refl _ _) _) hrq, (h.fam.row h.row hg).set 1 xv', hrq⟩
theorem SQ.push (h : SQ w W rb len N q v tv xv ts ps) (hrb : rb < w.heap.size) {s : ByteArray} (hg : W.grownBy X xv.ownBlock) (hw : Where W xv xv') (hrow : X.ownsRow (w.heap.size + 2) 32 3 xv' (ps.length + 1) (rowsB ps ++ [.string s, .slice none 0 0, .slice none 0 0])) :
    SQ w (X.setCell ⟨q, 1, none⟩ xv') rb len N q v tv xv' ts (ps ++ [((⟨s, [], []⟩, .slice none 0 0, .slice none 0 0) : Bv)]) := by
  obtain ⟨e1, e2, e3, e4, e5, e6, e7⟩ := h.grow hrb hg hw hrow
  refine ⟨e1, e2, e3, e4, ?_, ?_, e7, h.qz⟩
  · rw [rowsB_snoc, List.length_append]; exact e5
  · have hF := (e6.nil_new.nil_new).perm ((List.perm_append_comm (l₁ := [((.slice none 0 0, []) : Value × List ByteArray), (.slice none 0 0, [])]) (l₂ := [(tv, ts)])).append_right (famB ps))
    exact hF.perm (famB_snoc ps ((⟨s, [], []⟩, .slice none 0 0, .slice none 0 0) : Bv) [(tv, ts)])
/-- What is handed back. -/
structure XF (w W : World) (rb len N q : Nat) (v tv xv : Value) (b : Bk) : Prop where
  r : CB W (w.heap.size + 1) [.slice none 0 0, .slice none 0 0]
  x : CB W q [tv, xv]
  rd : Rd W rb v len N
  g : w.grownBy W (some rb)
  bk : BkW W (w.heap.size + 2) (.agg #[tv, xv]) b
  z : Szb b ∧ Loose b
theorem SQ.fin (h : SQ w W rb len N q v tv xv ts ps) (hn : ∀ p ∈ ps, p.1.nm.size ≤ maxLen) (hz : Szb ⟨ts, ps.map (·.1)⟩ ∧ Loose ⟨ts, ps.map (·.1)⟩) : XF w W rb len N q v tv xv ⟨ts, ps.map (·.1)⟩ :=
  ⟨h.r, h.x, h.rd, h.g, ⟨tv, xv, ps, rfl, h.head, h.fam.bsW (fs := [(tv, ts)]) h.row hn, rfl⟩, hz⟩
/-- One batch told twice. -/
theorem SQ.twice (h : SQ w W rb len N q v tv xv ts ps) (hrb : rb < w.heap.size) (hp : ps[k]? = some p) (hg : W.grownBy X xv.ownBlock) (hw : Where W xv xv') (hrow : X.ownsRow (w.heap.size + 2) 32 3 xv' (ps.length + 1) (rowsB ps ++ rowB p))
    (hn : ∀ p ∈ ps, p.1.nm.size ≤ maxLen) (hz : Szb ⟨ts, (ps ++ [p]).map (·.1)⟩ ∧ Loose ⟨ts, (ps ++ [p]).map (·.1)⟩) : XF w (X.setCell ⟨q, 1, none⟩ xv') rb len N q v tv xv' ⟨ts, (ps ++ [p]).map (·.1)⟩ := by
  obtain ⟨e1, e2, e3, e4, e5, e6, e7⟩ := h.grow hrb hg hw hrow
  refine ⟨e1, e2, e3, e4, ⟨tv, xv', ps ++ [p], rfl, e6.own (tv, ts) (by simp), ⟨by rw [rowsB_snoc, List.length_append]; exact e5, fun y hy => ?_⟩, rfl⟩, hz⟩
  have hy' : y ∈ ps := by
    rcases List.mem_append.1 hy with h1 | h1
    · exact h1
    · obtain rfl : y = p := by simpa using h1
      exact List.mem_of_getElem? hp
  exact ⟨e6.own _ (List.mem_cons_of_mem _ (famB_mem hy').1), e6.own _ (List.mem_cons_of_mem _ (famB_mem hy').2), hn y hy'⟩
end Go.Proofs.YtnojjmkmkelbgaaGreat
