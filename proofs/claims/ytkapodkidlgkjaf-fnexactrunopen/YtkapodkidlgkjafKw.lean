/- Books of one's own. -/
import Derived.Test.YtkapodkidlgkjafKf
import Derived.Test.YtkapodkidlgkjafBy
import Derived.Test.YtkapodkidlgkjafKc
namespace Go.Proofs.Ytkapodkidlgkjaf
open Go.RowKit

theorem rowsB_append (a b : List Bv) : rowsB (a ++ b) = rowsB a ++ rowsB b := by
  induction a with
  | nil => rfl
  | cons p r ih => simp [rowsB, ih]
theorem rowsB_at : ∀ (ps : List Bv) (i : Nat) (p : Bv), ps[i]? = some p → ∀ (j : Nat) (u : Value), (rowB p)[j]? = some u → (rowsB ps)[i * 3 + j]? = some u
  | q :: r, 0, p, hp, j, u, hu => by
    simp at hp; subst hp
    have hj : j < (rowB q).length := (List.getElem?_eq_some_iff.1 hu).1
    rw [rowsB, Nat.zero_mul, Nat.zero_add, List.getElem?_append_left hj]; exact hu
  | q :: r, i + 1, p, hp, j, u, hu => by
    have := rowsB_at r i p (by simpa using hp) j u hu
    have hl : (rowB q).length = 3 := rfl
    rw [rowsB, List.getElem?_append_right (by rw [hl]; omega), hl, show (i + 1) * 3 + j - 3 = i * 3 + j by omega]; exact this
theorem rowsB_take (ps : List Bv) (k : Nat) (hk : k ≤ ps.length) : (rowsB ps).take (k * 3) = rowsB (ps.take k) := by
  have h : rowsB ps = rowsB (ps.take k) ++ rowsB (ps.drop k) := by rw [← rowsB_append, List.take_append_drop]
  rw [h, List.take_left' (by rw [rowsB_length, List.length_take]; omega)]
theorem rowsB_drop (ps : List Bv) (k : Nat) (hk : k ≤ ps.length) : (rowsB ps).drop (k * 3) = rowsB (ps.drop k) := by
  have h : rowsB ps = rowsB (ps.take k) ++ rowsB (ps.drop k) := by rw [← rowsB_append, List.take_append_drop]
  rw [h, List.drop_left' (by rw [rowsB_length, List.length_take]; omega)]
/-- A book of one's own. -/
def BkW (w : World) (base : Nat) (v : Value) (b : Bk) : Prop := ∃ tu bu ps, v = .agg #[tu, bu] ∧ OwnT w base tu b.things ∧ BsW w base bu ps ∧ ps.map (·.1) = b.bs
theorem BkV.szb {w : World} {v : Value} {b : Bk} (h : BkV w v b) : Szb b := by
  obtain ⟨tv, bv, rfl, ⟨_, _, _, _, h1, _⟩, ⟨a, c, _, _, h2⟩⟩ := h
  refine ⟨h1, fun x hx => ?_⟩
  obtain ⟨i, hi, rfl⟩ := List.getElem_of_mem hx
  obtain ⟨g, o, _, hS, _⟩ := h2 (by omega)
  obtain ⟨hv, nv, _, ⟨_, _, _, _, h3, _⟩, ⟨_, _, _, _, h4, _⟩, _⟩ := hS.at hi
  exact ⟨h3, h4⟩
theorem own_cap2 {w : World} {base e size n g cap : Nat} {xs : List Value} (h : w.ownsRow base e size (.slice (some ⟨g, 0, none⟩) n cap) n xs) : n ≤ cap ∧ cap ≤ maxLen := by
  rcases h.2 with ⟨h0, _⟩ | ⟨g', cap', cur, h', _, _, hc, hm, _⟩
  · simp at h0
  · simp only [Value.slice.injEq] at h'; omega
theorem own_len {w : World} {base e size n : Nat} {v : Value} {xs : List Value} (h : w.ownsRow base e size v n xs) : n ≤ maxLen := by
  rcases h.2 with ⟨_, rfl⟩ | ⟨g, cap, _, _, _, _, h1, h2, _⟩
  · omega
  · omega
theorem BsW.bs {w : World} {base : Nat} {v : Value} {ps : List Bv} {bs : List Ba} (h : BsW w base v ps) (hm : ps.map (·.1) = bs) (hz : ∀ x ∈ bs, (∀ s ∈ x.has, s.size ≤ maxLen) ∧ (∀ s ∈ x.needs, s.size ≤ maxLen)) : Bs w v bs := by
  subst hm
  have hl : (ps.map (·.1)).length = ps.length := List.length_map _
  obtain ⟨a, c, rfl⟩ := own_shape h.1
  refine ⟨a, c, by rw [hl], by rw [hl]; exact own_len h.1, fun hp => ?_⟩
  rw [hl] at hp
  obtain ⟨g, cap, hv⟩ := own_ptr2 h.1 hp
  obtain ⟨rfl, -, rfl⟩ := Value.slice.inj hv
  refine ⟨g, 0, rfl, fun i x hx => ?_, (h.1.lt g rfl).2⟩
  rw [List.getElem?_map, Option.map_eq_some_iff] at hx
  obtain ⟨p, hp', rfl⟩ := hx
  have hpm : p ∈ ps := List.mem_of_getElem? hp'
  obtain ⟨q1, q2, q3⟩ := h.2 p hpm
  have hzz := hz p.1 (List.mem_map_of_mem hpm)
  have hi : i < ps.length := (List.getElem?_eq_some_iff.1 hp').1
  refine ⟨p.2.1, p.2.2, fun j u hu => ?_, q1.lst.ls hzz.1, q2.lst.ls hzz.2, q3⟩
  have hr := rowsB_at ps i p hp' j u hu
  have hj : j < 3 := (List.getElem?_eq_some_iff.1 hu).1
  rw [Nat.zero_add, h.1.cellAt (i * 3 + j) (by omega)]; exact hr
theorem BkW.bk {w : World} {base : Nat} {v : Value} {b : Bk} (h : BkW w base v b) (hz : Szb b) : BkV w v b := by
  obtain ⟨tu, bu, ps, rfl, h1, h2, h3⟩ := h
  exact ⟨tu, bu, rfl, h1.lst.ls hz.1, h2.bs h3 hz.2⟩
theorem BkW.low {w : World} {base base' : Nat} {v : Value} {b : Bk} (h : BkW w base v b) (hb : base' ≤ base) : BkW w base' v b := by
  obtain ⟨tu, bu, ps, rfl, h1, h2, h3⟩ := h
  exact ⟨tu, bu, ps, rfl, own_low h1 hb, h2.low hb, h3⟩
theorem BkW.up {w w' : World} {base : Nat} {v : Value} {b : Bk} (h : BkW w base v b) (hb : Below w.heap.size w w') : BkW w' base v b := by
  obtain ⟨tu, bu, ps, rfl, h1, h2, h3⟩ := h
  exact ⟨tu, bu, ps, rfl, h1.up hb, h2.up hb, h3⟩
theorem BkW.set {w : World} {base r j : Nat} {v u : Value} {b : Bk} (h : BkW w base v b) (hr : r < base) : BkW (w.setCell ⟨r, j, none⟩ u) base v b := by
  obtain ⟨tu, bu, ps, rfl, h1, h2, h3⟩ := h
  exact ⟨tu, bu, ps, rfl, own_grown h1 (grown_setCell (grown_refl _ _) _) hr, h2.set hr, h3⟩
theorem BkW.gr {w w' : World} {base r : Nat} {v : Value} {b : Bk} (h : BkW w base v b) (hg : w.grownBy w' (some r)) (hr : r < base) : BkW w' base v b := by
  obtain ⟨tu, bu, ps, rfl, h1, h2, h3⟩ := h
  exact ⟨tu, bu, ps, rfl, own_grown h1 hg hr, ⟨own_grown h2.1 hg hr, fun p hp => ⟨own_grown (h2.2 p hp).1 hg hr, own_grown (h2.2 p hp).2.1 hg hr, (h2.2 p hp).2.2⟩⟩, h3⟩
theorem BkW.parts {w : World} {base : Nat} {v : Value} {b : Bk} (h : BkW w base v b) : ∃ a1 c1 a2 c2 ps, v = .agg #[.slice a1 b.things.length c1, .slice a2 b.bs.length c2] ∧ OwnT w base (.slice a1 b.things.length c1) b.things ∧ BsW w base (.slice a2 b.bs.length c2) ps ∧ ps.map (·.1) = b.bs := by
  obtain ⟨tu, bu, ps, rfl, h1, h2, h3⟩ := h
  obtain ⟨a1, c1, rfl⟩ := h1.lst.shape
  obtain ⟨a2, c2, rfl⟩ := own_shape h2.1
  have hl : ps.length = b.bs.length := by rw [← h3, List.length_map]
  rw [hl] at h2
  exact ⟨a1, c1, a2, c2, ps, by rw [hl], h1, h2, h3⟩
theorem bkW_none (w : World) (base : Nat) : BkW w base (.agg #[.slice none 0 0, .slice none 0 0]) nobody :=
  ⟨_, _, [], rfl, World.ownsRow_nil _ _ _ _, ⟨World.ownsRow_nil _ _ _ _, fun p hp => by simp at hp⟩, rfl⟩
theorem BkV.bsOf {w : World} {x y : Value} {b : Bk} (h : BkV w (.agg #[x, y]) b) : Bs w y b.bs := by
  obtain ⟨tv, bv, e, -, h2⟩ := h
  simp at e
  obtain ⟨rfl, rfl⟩ := e
  exact h2
theorem ret_pair {v : Value} {x y : Int} (h : x = y) : Ending.returned (.tuple #[v, .int .i64 x]) = .returned (.tuple #[v, .int .i64 y]) := by rw [h]
theorem end_cb2b {P : Program} {fn : Func} {q q2 : Tmp} {T : TypeId} (h : fn.results = #[.cell q T, .tmp q2]) {d : TypeDesc} (hu : P.underlying T = some d) (hd : d.isRow = true) (hi : (P.info? T).map (·.size) = some 2) {R : Ending → World → Prop} {tmps : Array Value} {w : World} {rk : Nat} {y0 y1 x0 x1 v : Value}
    (k : CB w rk [y0, y1]) (ht : tmps.getD q undef = .pointer (some ⟨rk, 0, none⟩)) (hv : tmps.getD q2 undef = v) (hR : R (.returned (.tuple #[.agg #[x0, x1], v])) ((w.setCell ⟨rk, 0, none⟩ x0).setCell ⟨rk, 1, none⟩ x1)) :
    bodyPost P fn R .ret { tmps := tmps, defers := [] } ((w.setCell ⟨rk, 0, none⟩ x0).setCell ⟨rk, 1, none⟩ x1) :=
  bodyPost_ret (ret_cb2 (cs := [x0, x1]) h hu hd hi ht hv (k.copy2 x0 x1)) rfl hR
/-- A list stays while a row of batches grows. -/
theorem own_step {W W' : World} {base b2 n : Nat} {u v : Value} {ss : List ByteArray} {xs : List Value} (h : OwnT W base u ss) (hrow : W.ownsRow b2 48 3 v n xs) (hg : W.grownBy W' v.ownBlock) : OwnT W' base u ss :=
  own_keep2 h hg (own_apart2 h hrow (by decide))
/-- The cells of a row of batches, from place k on. -/
theorem rows_cells {w : World} {base g cap n : Nat} {ps : List Bv} (h : w.ownsRow base 48 3 (.slice (some ⟨g, 0, none⟩) n cap) n (rowsB ps)) (k : Nat) (qs : List Bv) (hq : ∀ i p, qs[i]? = some p → ps[k + i]? = some p) :
    ∀ (j : Nat) (u : Value), (rowsB qs)[j]? = some u → w.cell? ((⟨g, k * 3, none⟩ : Addr).add j) = some u := fun j u hu => by
  have hj : j < qs.length * 3 := by rw [← rowsB_length]; exact (List.getElem?_eq_some_iff.1 hu).1
  have hi : j / 3 < qs.length := by omega
  have hp := List.getElem?_eq_getElem hi
  have h3 : (rowB (qs[j / 3]))[j % 3]? = some u := by
    have hl : j % 3 < (rowB (qs[j / 3])).length := by show _ < 3; omega
    have := rowsB_at qs (j / 3) _ hp (j % 3) _ (List.getElem?_eq_getElem hl)
    rw [show j / 3 * 3 + j % 3 = j by omega, hu] at this
    rw [List.getElem?_eq_getElem hl]; exact this.symm
  have h4 := rowsB_at ps (k + j / 3) _ (hq _ _ hp) (j % 3) u h3
  have h5 := (List.getElem?_eq_some_iff.1 h4).1
  rw [h.1] at h5
  rw [Addr.add_mid, show k * 3 + j = (k + j / 3) * 3 + j % 3 by omega, h.cellAt _ h5]; exact h4
theorem slice_ne {g n c : Nat} {r : Option Nat} (h : some g ≠ r) : ∀ g', (Value.slice (some ⟨g, 0, none⟩) n c).ownBlock = some g' → some g' ≠ r := fun g' hg' => by
  simp only [Value.ownBlock, Option.some.injEq] at hg'
  subst hg'; exact h
theorem take_at (ps : List Bv) (k : Nat) : ∀ (i : Nat) (q : Bv), (ps.take k)[i]? = some q → ps[0 + i]? = some q := fun i q hq => by
  rw [List.getElem?_take] at hq
  split at hq
  · rw [Nat.zero_add]; exact hq
  · cases hq
theorem drop_at (ps : List Bv) (k : Nat) : ∀ (i : Nat) (q : Bv), (ps.drop k)[i]? = some q → ps[k + i]? = some q := fun i q hq => by rwa [List.getElem?_drop] at hq
theorem bsW_mk {w : World} {base n : Nat} {v : Value} {qs : List Bv} {xs : List Value} (h : w.ownsRow base 48 3 v n xs) (hx : xs = rowsB qs) (hn : n = qs.length) (hl : ∀ p ∈ qs, OwnT w base p.2.1 p.1.has ∧ OwnT w base p.2.2 p.1.needs ∧ p.1.nm.size ≤ maxLen) : BsW w base v qs := by
  subst hx hn; exact ⟨h, hl⟩
theorem oneB (ps : List Bv) (h : ∀ p ∈ ps, (∃ a n c, p.2.1 = .slice a n c) ∧ ∃ a n c, p.2.2 = .slice a n c) : ∀ u ∈ rowsB ps, u.oneCell' = true := by
  induction ps with
  | nil => intro u hu; simp [rowsB] at hu
  | cons p r ih =>
    intro u hu
    rw [rowsB, List.mem_append] at hu
    rcases hu with hu | hu
    · obtain ⟨⟨a, n, c, h1⟩, a2, n2, c2, h2⟩ := h p (by simp)
      simp only [rowB, h1, h2, List.mem_cons, List.not_mem_nil, or_false] at hu
      rcases hu with rfl | rfl | rfl <;> rfl
    · exact ih (fun q hq => h q (by simp [hq])) u hu
theorem BsW.one {w : World} {base : Nat} {v : Value} {ps : List Bv} (h : BsW w base v ps) (qs : List Bv) (hq : ∀ p ∈ qs, p ∈ ps) : ∀ u ∈ rowsB qs, u.oneCell' = true :=
  oneB qs fun p hp => by
    obtain ⟨q1, q2, -⟩ := h.2 p (hq p hp)
    obtain ⟨a, c, e1⟩ := q1.lst.shape
    obtain ⟨a2, c2, e2⟩ := q2.lst.shape
    exact ⟨⟨_, _, _, e1⟩, ⟨_, _, _, e2⟩⟩
end Go.Proofs.Ytkapodkidlgkjaf
