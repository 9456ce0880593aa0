/- The reader of a code; what grows; lists of texts: plain facts. -/
import Derived.Test.YtnojjmkmkelbgaaGreatJ1
import Derived.Laws.Bits64
import Derived.Deep.QuietTactic
import Derived.BigQuiet
import Derived.Test.YtnojjmkmkelbgaaGreatKf
import Derived.Test.YtnojjmkmkelbgaaGreatJ6
import Derived.Test.YtnojjmkmkelbgaaGreatKs2
import Derived.Test.YtnojjmkmkelbgaaGreatJ4
namespace Go.Proofs.YtnojjmkmkelbgaaGreat
open Go.RowKit

theorem xor_i64 (a b : Nat) (ha : a < 4611686018427387904) (hb : b < 4611686018427387904) : 0 ≤ bits .xor .i64 (a : Int) (b : Int) ∧ bits .xor .i64 (a : Int) (b : Int) < 4611686018427387904 := by
  have hx : a ^^^ b < 2 ^ 62 := Nat.xor_lt_two_pow (by omega) (by omega)
  have h1 : (BitVec.ofInt 64 (a : Int)).toNat = a := by
    rw [BitVec.ofInt_natCast, BitVec.toNat_ofNat]; exact Nat.mod_eq_of_lt (by omega)
  have h2 : (BitVec.ofInt 64 (b : Int)).toNat = b := by
    rw [BitVec.ofInt_natCast, BitVec.toNat_ofNat]; exact Nat.mod_eq_of_lt (by omega)
  have e : bits .xor .i64 (a : Int) (b : Int) = IntKind.i64.wrap ((a ^^^ b : Nat) : Int) := by
    show IntKind.i64.wrap ((BitVec.ofInt 64 (a : Int) ^^^ BitVec.ofInt 64 (b : Int)).toNat : Int) = _
    rw [BitVec.toNat_xor, h1, h2]
  rw [e, IntKind.wrap_i64]
  omega

/-- The bytes of a code, apart from block rb. -/
def BytesAt (w : World) (rb : Nat) (v : Value) (len : Nat) : Prop := ∃ (a : Option Addr) (cap : Nat), v = .slice a len cap ∧ (len = 0 ∨ ∃ (b o : Nat) (z : Nat → Int), a = some ⟨b, o, none⟩ ∧ b < rb ∧ ∀ i, i < len → w.cell? ⟨b, o + i, none⟩ = some (.int .u8 (z i)) ∧ 0 ≤ z i ∧ z i ≤ 255)
/-- The reader: at most N have been picked. -/
def Rd (w : World) (rb : Nat) (v : Value) (len N : Nat) : Prop := ∃ p : Nat, p ≤ N ∧ w.cell? ⟨rb, 0, none⟩ = some v ∧ w.cell? ⟨rb, 1, none⟩ = some (.int .i64 p) ∧ w.frozen? ⟨rb, 1, none⟩ = false ∧ BytesAt w rb v len ∧ len ≤ 2000
theorem BytesAt.kept {w w' : World} {rb len : Nat} {v : Value} (h : BytesAt w rb v len) (hg : w.grownBy w' (some rb)) : BytesAt w' rb v len := by
  obtain ⟨a, cap, hv, h⟩ := h
  refine ⟨a, cap, hv, ?_⟩
  rcases h with h | ⟨b, o, z, ha, hb, hz⟩
  · exact .inl h
  · exact .inr ⟨b, o, z, ha, hb, fun i hi => ⟨hg.cell (hz i hi).1 (by simp; omega), (hz i hi).2⟩⟩

theorem Rd.drewN {w : World} {rb len N : Nat} {v : Value} (h : Rd w rb v len N) (n : Nat) : Rd (w.drewN n) rb v len N := h

theorem Rd.mono {w : World} {rb len N M : Nat} {v : Value} (h : Rd w rb v len N) (hM : N ≤ M) : Rd w rb v len M := by
  obtain ⟨p, hp, r⟩ := h
  exact ⟨p, by omega, r⟩
theorem Rd.lt {w : World} {rb len N : Nat} {v : Value} (h : Rd w rb v len N) : rb < w.heap.size := by
  obtain ⟨p, hp, c0, _⟩ := h
  exact World.block_lt_of_cell? w _ c0
theorem Rd.kept {w w' : World} {rb len N : Nat} {v : Value} (h : Rd w rb v len N) (hb : Below w.heap.size w w') : Rd w' rb v len N := by
  have hlt := h.lt
  obtain ⟨p, hp, c0, c1, f1, by1, hl⟩ := h
  exact ⟨p, hp, (hb.cell (p := ⟨rb, 0, none⟩) hlt).trans c0, (hb.cell (p := ⟨rb, 1, none⟩) hlt).trans c1, (hb.frozen (p := ⟨rb, 1, none⟩) hlt).trans f1, by1.kept (grown_below hb), hl⟩
theorem Rd.alloc {w : World} {rb len N : Nat} {v : Value} (h : Rd w rb v len N) (o : Obj) : Rd (w.alloc o) rb v len N := h.kept ((Below.refl _ _).alloc (Nat.le_refl _) _)
theorem Rd.setCell {w : World} {rb len N pb off : Nat} {v u : Value} (h : Rd w rb v len N) (hlt : rb < pb) : Rd (w.setCell ⟨pb, off, none⟩ u) rb v len N := by
  obtain ⟨p, hp, c0, c1, f1, ⟨a, cap, hv, hb⟩, hl⟩ := h
  refine ⟨p, hp, ?_, ?_, ?_, ⟨a, cap, hv, ?_⟩, hl⟩
  · rw [World.cell?_setCell_other _ _ _ _ (by simp <;> omega)]; exact c0
  · rw [World.cell?_setCell_other _ _ _ _ (by simp <;> omega)]; exact c1
  · rw [World.frozen?_setCell]; exact f1
  · rcases hb with hb | ⟨b, o, z, rfl, h1, hz⟩
    · exact .inl hb
    · refine .inr ⟨b, o, z, rfl, h1, fun i hi => ⟨?_, (hz i hi).2⟩⟩
      rw [World.cell?_setCell_other _ _ _ _ (by simp <;> omega)]; exact (hz i hi).1
/-- The texts of a list all have sizes. -/
def SzS (ss : List ByteArray) : Prop := ∀ s ∈ ss, s.size ≤ maxLen
theorem sz_lit {ss : List ByteArray} (h : (ss.all fun s => decide (s.size ≤ 100)) = true) : SzS ss := fun s hs => by
  have := List.all_eq_true.1 h s hs
  simp only [decide_eq_true_eq] at this
  unfold maxLen; omega
theorem strsAt_alloc (w : World) (ss : List ByteArray) (t : TypeId) : StrsAt (w.alloc (.cells (ss.map Value.string).toArray t)) w.heap.size 0 ss := fun i s hs => by
  have : ((ss.map Value.string).toArray)[i]? = some (.string s) := by simp [hs]
  simp [go_sem, World.cell?_alloc_at, this]
theorem Rd.row {w w' : World} {rb len N k : Nat} {v : Value} (h : Rd w rb v len N) (hg : w.grownBy w' (some k)) (hk : rb < k) : Rd w' rb v len N := by
  have hlt := h.lt
  obtain ⟨p, hp, c0, c1, f1, ⟨a, cap, hv, hb⟩, hl⟩ := h
  have hbl := hg.block rb hlt (by simp; omega)
  refine ⟨p, hp, (World.cell?_of_block (w := w) (a := ⟨rb, 0, none⟩) hbl).trans c0, (World.cell?_of_block (w := w) (a := ⟨rb, 1, none⟩) hbl).trans c1, (World.frozen?_of_block (w := w) (a := ⟨rb, 1, none⟩) hbl).trans f1, ⟨a, cap, hv, ?_⟩, hl⟩
  rcases hb with hb | ⟨b, o, z, ha, h1, hz⟩
  · exact .inl hb
  · exact .inr ⟨b, o, z, ha, h1, fun i hi => ⟨hg.cell (hz i hi).1 (by simp; omega), (hz i hi).2⟩⟩
theorem Rd.own {w w' : World} {rb len N base e size n : Nat} {v u : Value} {xs : List Value} (h : Rd w rb v len N) (hown : w.ownsRow base e size u n xs) (hg : w.grownBy w' u.ownBlock) (hk : rb < base) : Rd w' rb v len N := by
  have hlt := h.lt
  obtain ⟨p, hp, c0, c1, f1, ⟨a, cap, hv, hb⟩, hl⟩ := h
  have hbl := hg.block rb hlt (own_ne hown hk)
  refine ⟨p, hp, (World.cell?_of_block (w := w) (a := ⟨rb, 0, none⟩) hbl).trans c0, (World.cell?_of_block (w := w) (a := ⟨rb, 1, none⟩) hbl).trans c1, (World.frozen?_of_block (w := w) (a := ⟨rb, 1, none⟩) hbl).trans f1, ⟨a, cap, hv, ?_⟩, hl⟩
  rcases hb with hb | ⟨b, o, z, ha, h1, hz⟩
  · exact .inl hb
  · exact .inr ⟨b, o, z, ha, h1, fun i hi => ⟨hg.cell (hz i hi).1 (own_ne hown (b := b) (by omega)), (hz i hi).2⟩⟩
theorem Rd.drew {w : World} {rb len N : Nat} {v : Value} (h : Rd w rb v len N) : Rd w.drew rb v len N := h
theorem BytesAt.cut {w : World} {rb n m : Nat} {a : Option Addr} {cap : Nat} (h : BytesAt w rb (.slice a n cap) n) (hm : m ≤ n) : BytesAt w rb (.slice a m cap) m := by
  obtain ⟨a', cap', hv, h⟩ := h
  cases hv
  refine ⟨a, cap, rfl, ?_⟩
  rcases h with h | ⟨b, o, z, ha, hb, hz⟩
  · exact .inl (by omega)
  · exact .inr ⟨b, o, z, ha, hb, fun i hi => hz i (by omega)⟩
theorem BytesAt.up {w w' : World} {B rb len : Nat} {v : Value} (h : BytesAt w B v len) (hg : Below B w w') (hB : B ≤ rb) : BytesAt w' rb v len := by
  obtain ⟨a, cap, hv, h⟩ := h
  refine ⟨a, cap, hv, ?_⟩
  rcases h with h | ⟨b, o, z, ha, hb, hz⟩
  · exact .inl h
  · exact .inr ⟨b, o, z, ha, by omega, fun i hi => ⟨(hg.cell (p := ⟨b, o + i, none⟩) hb).trans (hz i hi).1, (hz i hi).2⟩⟩
theorem rd_alloc (w : World) (v : Value) (n : Nat) (t : TypeId) (h : BytesAt w w.heap.size v n) (hn : n ≤ 2000) : Rd (w.alloc (.cells #[v, .int .i64 0] t)) w.heap.size v n 0 :=
  ⟨0, Nat.le_refl _, by simp [go_sem], by simp [go_sem], by simp [go_sem], h.up ((Below.refl _ _).alloc (Nat.le_refl _) _) (Nat.le_refl _), hn⟩
theorem below_of_grown' {a b : World} {rb : Nat} (h : a.grownBy b (some rb)) (hrb : a.heap.size ≤ rb) : Below a.heap.size a b :=
  { os := h.os, tape := h.tape, output := h.output, size := h.size, block := fun i hi => h.block i hi (by simp; omega) }
end Go.Proofs.YtnojjmkmkelbgaaGreat

/- Books of one's own. -/
namespace Go.Proofs.YtnojjmkmkelbgaaGreat
open Go.RowKit

theorem rowsB_append (a b : List Bv) : rowsB (a ++ b) = rowsB a ++ rowsB b := by
  induction a with
  | nil => rfl
  | cons p r ih => simp [rowsB, ih]
theorem rowsB_at : ∀ (ps : List Bv) (i : Nat) (p : Bv), ps[i]? = some p → ∀ (j : Nat) (u : Value), (rowB p)[j]? = some u → (rowsB ps)[i * 3 + j]? = some u
  | q :: r, 0, p, hp, j, u, hu => by
    simp at hp; subst hp
    have hj : j < (rowB q).length := (List.getElem?_eq_some_iff.1 hu).1
    rw [rowsB, Nat.zero_mul, Nat.zero_add, List.getElem?_append_left hj]; exact hu
  | q :: r, i + 1, p, hp, j, u, hu => by
    have := rowsB_at r i p (by simpa using hp) j u hu
    have hl : (rowB q).length = 3 := rfl
    rw [rowsB, List.getElem?_append_right (by rw [hl]; omega), hl, show (i + 1) * 3 + j - 3 = i * 3 + j by omega]; exact this
theorem rowsB_take (ps : List Bv) (k : Nat) (hk : k ≤ ps.length) : (rowsB ps).take (k * 3) = rowsB (ps.take k) := by
  have h : rowsB ps = rowsB (ps.take k) ++ rowsB (ps.drop k) := by rw [← rowsB_append, List.take_append_drop]
  rw [h, List.take_left' (by rw [rowsB_length, List.length_take]; omega)]
theorem rowsB_drop (ps : List Bv) (k : Nat) (hk : k ≤ ps.length) : (rowsB ps).drop (k * 3) = rowsB (ps.drop k) := by
  have h : rowsB ps = rowsB (ps.take k) ++ rowsB (ps.drop k) := by rw [← rowsB_append, List.take_append_drop]
  rw [h, List.drop_left' (by rw [rowsB_length, List.length_take]; omega)]
/-- A book of one's own. -/
def BkW (w : World) (base : Nat) (v : Value) (b : Bk) : Prop := ∃ tu bu ps, v = .agg #[tu, bu] ∧ OwnT w base tu b.things ∧ BsW w base bu ps ∧ ps.map (·.1) = b.bs
theorem BkV.szb {w : World} {v : Value} {b : Bk} (h : BkV w v b) : Szb b := by
  obtain ⟨tv, bv, rfl, ⟨_, _, _, _, h1, _⟩, ⟨a, c, _, _, h2⟩⟩ := h
  refine ⟨h1, fun x hx => ?_⟩
  obtain ⟨i, hi, rfl⟩ := List.getElem_of_mem hx
  obtain ⟨g, o, _, hS, _⟩ := h2 (by omega)
  obtain ⟨hv, nv, _, ⟨_, _, _, _, h3, _⟩, ⟨_, _, _, _, h4, _⟩, _⟩ := hS.at hi
  exact ⟨h3, h4⟩
theorem own_cap2 {w : World} {base e size n g cap : Nat} {xs : List Value} (h : w.ownsRow base e size (.slice (some ⟨g, 0, none⟩) n cap) n xs) : n ≤ cap ∧ cap ≤ maxLen := by
  rcases h.2 with ⟨h0, _⟩ | ⟨g', cap', cur, h', _, _, hc, hm, _⟩
  · simp at h0
  · simp only [Value.slice.injEq] at h'; omega
theorem own_len {w : World} {base e size n : Nat} {v : Value} {xs : List Value} (h : w.ownsRow base e size v n xs) : n ≤ maxLen := by
  rcases h.2 with ⟨_, rfl⟩ | ⟨g, cap, _, _, _, _, h1, h2, _⟩
  · omega
  · omega
theorem BsW.bs {w : World} {base : Nat} {v : Value} {ps : List Bv} {bs : List Ba} (h : BsW w base v ps) (hm : ps.map (·.1) = bs) (hz : ∀ x ∈ bs, (∀ s ∈ x.has, s.size ≤ maxLen) ∧ (∀ s ∈ x.needs, s.size ≤ maxLen)) : Bs w v bs := by
  subst hm
  have hl : (ps.map (·.1)).length = ps.length := List.length_map _
  obtain ⟨a, c, rfl⟩ := own_shape h.1
  refine ⟨a, c, by rw [hl], by rw [hl]; exact own_len h.1, fun hp => ?_⟩
  rw [hl] at hp
  obtain ⟨g, cap, hv⟩ := own_ptr2 h.1 hp
  obtain ⟨rfl, -, rfl⟩ := Value.slice.inj hv
  refine ⟨g, 0, rfl, fun i x hx => ?_, (h.1.lt g rfl).2⟩
  rw [List.getElem?_map, Option.map_eq_some_iff] at hx
  obtain ⟨p, hp', rfl⟩ := hx
  have hpm : p ∈ ps := List.mem_of_getElem? hp'
  obtain ⟨q1, q2, q3⟩ := h.2 p hpm
  have hzz := hz p.1 (List.mem_map_of_mem hpm)
  have hi : i < ps.length := (List.getElem?_eq_some_iff.1 hp').1
  refine ⟨p.2.1, p.2.2, fun j u hu => ?_, q1.lst.ls hzz.1, q2.lst.ls hzz.2, q3⟩
  have hr := rowsB_at ps i p hp' j u hu
  have hj : j < 3 := (List.getElem?_eq_some_iff.1 hu).1
  rw [Nat.zero_add, h.1.cellAt (i * 3 + j) (by omega)]; exact hr
theorem BkW.bk {w : World} {base : Nat} {v : Value} {b : Bk} (h : BkW w base v b) (hz : Szb b) : BkV w v b := by
  obtain ⟨tu, bu, ps, rfl, h1, h2, h3⟩ := h
  exact ⟨tu, bu, rfl, h1.lst.ls hz.1, h2.bs h3 hz.2⟩
theorem BkW.low {w : World} {base base' : Nat} {v : Value} {b : Bk} (h : BkW w base v b) (hb : base' ≤ base) : BkW w base' v b := by
  obtain ⟨tu, bu, ps, rfl, h1, h2, h3⟩ := h
  exact ⟨tu, bu, ps, rfl, own_low h1 hb, h2.low hb, h3⟩
theorem BkW.up {w w' : World} {base : Nat} {v : Value} {b : Bk} (h : BkW w base v b) (hb : Below w.heap.size w w') : BkW w' base v b := by
  obtain ⟨tu, bu, ps, rfl, h1, h2, h3⟩ := h
  exact ⟨tu, bu, ps, rfl, h1.up hb, h2.up hb, h3⟩
theorem BkW.set {w : World} {base r j : Nat} {v u : Value} {b : Bk} (h : BkW w base v b) (hr : r < base) : BkW (w.setCell ⟨r, j, none⟩ u) base v b := by
  obtain ⟨tu, bu, ps, rfl, h1, h2, h3⟩ := h
  exact ⟨tu, bu, ps, rfl, own_grown h1 (grown_setCell (grown_refl _ _) _) hr, h2.set hr, h3⟩
theorem BkW.gr {w w' : World} {base r : Nat} {v : Value} {b : Bk} (h : BkW w base v b) (hg : w.grownBy w' (some r)) (hr : r < base) : BkW w' base v b := by
  obtain ⟨tu, bu, ps, rfl, h1, h2, h3⟩ := h
  exact ⟨tu, bu, ps, rfl, own_grown h1 hg hr, ⟨own_grown h2.1 hg hr, fun p hp => ⟨own_grown (h2.2 p hp).1 hg hr, own_grown (h2.2 p hp).2.1 hg hr, (h2.2 p hp).2.2⟩⟩, h3⟩
theorem BkW.parts {w : World} {base : Nat} {v : Value} {b : Bk} (h : BkW w base v b) : ∃ a1 c1 a2 c2 ps, v = .agg #[.slice a1 b.things.length c1, .slice a2 b.bs.length c2] ∧ OwnT w base (.slice a1 b.things.length c1) b.things ∧ BsW w base (.slice a2 b.bs.length c2) ps ∧ ps.map (·.1) = b.bs := by
  obtain ⟨tu, bu, ps, rfl, h1, h2, h3⟩ := h
  obtain ⟨a1, c1, rfl⟩ := h1.lst.shape
  obtain ⟨a2, c2, rfl⟩ := own_shape h2.1
  have hl : ps.length = b.bs.length := by rw [← h3, List.length_map]
  rw [hl] at h2
  exact ⟨a1, c1, a2, c2, ps, by rw [hl], h1, h2, h3⟩
theorem bkW_none (w : World) (base : Nat) : BkW w base (.agg #[.slice none 0 0, .slice none 0 0]) nobody :=
  ⟨_, _, [], rfl, World.ownsRow_nil _ _ _ _, ⟨World.ownsRow_nil _ _ _ _, fun p hp => by simp at hp⟩, rfl⟩
theorem BkV.bsOf {w : World} {x y : Value} {b : Bk} (h : BkV w (.agg #[x, y]) b) : Bs w y b.bs := by
  obtain ⟨tv, bv, e, -, h2⟩ := h
  simp at e
  obtain ⟨rfl, rfl⟩ := e
  exact h2
theorem ret_pair {v : Value} {x y : Int} (h : x = y) : Ending.returned (.tuple #[v, .int .i64 x]) = .returned (.tuple #[v, .int .i64 y]) := by rw [h]
theorem end_cb2b {P : Program} {fn : Func} {q q2 : Tmp} {T : TypeId} (h : fn.results = #[.cell q T, .tmp q2]) {d : TypeDesc} (hu : P.underlying T = some d) (hd : d.isRow = true) (hi : (P.info? T).map (·.size) = some 2) {R : Ending → World → Prop} {tmps : Array Value} {w : World} {rk : Nat} {y0 y1 x0 x1 v : Value}
    (k : CB w rk [y0, y1]) (ht : tmps.getD q undef = .pointer (some ⟨rk, 0, none⟩)) (hv : tmps.getD q2 undef = v) (hR : R (.returned (.tuple #[.agg #[x0, x1], v])) ((w.setCell ⟨rk, 0, none⟩ x0).setCell ⟨rk, 1, none⟩ x1)) :
    bodyPost P fn R .ret { tmps := tmps, defers := [] } ((w.setCell ⟨rk, 0, none⟩ x0).setCell ⟨rk, 1, none⟩ x1) :=
  bodyPost_ret (ret_cb2 (cs := [x0, x1]) h hu hd hi ht hv (k.copy2 x0 x1)) rfl hR
/-- A list stays while a row of batches grows. -/
theorem own_step {W W' : World} {base b2 n : Nat} {u v : Value} {ss : List ByteArray} {xs : List Value} (h : OwnT W base u ss) (hrow : W.ownsRow b2 32 3 v n xs) (hg : W.grownBy W' v.ownBlock) : OwnT W' base u ss :=
  own_keep2 h hg (own_apart2 h hrow (by decide))
/-- The cells of a row of batches, from place k on. -/
theorem rows_cells {w : World} {base g cap n : Nat} {ps : List Bv} (h : w.ownsRow base 32 3 (.slice (some ⟨g, 0, none⟩) n cap) n (rowsB ps)) (k : Nat) (qs : List Bv) (hq : ∀ i p, qs[i]? = some p → ps[k + i]? = some p) :
    ∀ (j : Nat) (u : Value), (rowsB qs)[j]? = some u → w.cell? ((⟨g, k * 3, none⟩ : Addr).add j) = some u := fun j u hu => by
  have hj : j < qs.length * 3 := by rw [← rowsB_length]; exact (List.getElem?_eq_some_iff.1 hu).1
  have hi : j / 3 < qs.length := by omega
  have hp := List.getElem?_eq_getElem hi
  have h3 : (rowB (qs[j / 3]))[j % 3]? = some u := by
    have hl : j % 3 < (rowB (qs[j / 3])).length := by show _ < 3; omega
    have := rowsB_at qs (j / 3) _ hp (j % 3) _ (List.getElem?_eq_getElem hl)
    rw [show j / 3 * 3 + j % 3 = j by omega, hu] at this
    rw [List.getElem?_eq_getElem hl]; exact this.symm
  have h4 := rowsB_at ps (k + j / 3) _ (hq _ _ hp) (j % 3) u h3
  have h5 := (List.getElem?_eq_some_iff.1 h4).1
  rw [h.1] at h5
  rw [Addr.add_mid, show k * 3 + j = (k + j / 3) * 3 + j % 3 by omega, h.cellAt _ h5]; exact h4
theorem slice_ne {g n c : Nat} {r : Option Nat} (h : some g ≠ r) : ∀ g', (Value.slice (some ⟨g, 0, none⟩) n c).ownBlock = some g' → some g' ≠ r := fun g' hg' => by
  simp only [Value.ownBlock, Option.some.injEq] at hg'
  subst hg'; exact h
theorem take_at (ps : List Bv) (k : Nat) : ∀ (i : Nat) (q : Bv), (ps.take k)[i]? = some q → ps[0 + i]? = some q := fun i q hq => by
  rw [List.getElem?_take] at hq
  split at hq
  · rw [Nat.zero_add]; exact hq
  · cases hq
theorem drop_at (ps : List Bv) (k : Nat) : ∀ (i : Nat) (q : Bv), (ps.drop k)[i]? = some q → ps[k + i]? = some q := fun i q hq => by rwa [List.getElem?_drop] at hq
theorem bsW_mk {w : World} {base n : Nat} {v : Value} {qs : List Bv} {xs : List Value} (h : w.ownsRow base 32 3 v n xs) (hx : xs = rowsB qs) (hn : n = qs.length) (hl : ∀ p ∈ qs, OwnT w base p.2.1 p.1.has ∧ OwnT w base p.2.2 p.1.needs ∧ p.1.nm.size ≤ maxLen) : BsW w base v qs := by
  subst hx hn; exact ⟨h, hl⟩
theorem oneB (ps : List Bv) (h : ∀ p ∈ ps, (∃ a n c, p.2.1 = .slice a n c) ∧ ∃ a n c, p.2.2 = .slice a n c) : ∀ u ∈ rowsB ps, u.oneCell' = true := by
  induction ps with
  | nil => intro u hu; simp [rowsB] at hu
  | cons p r ih =>
    intro u hu
    rw [rowsB, List.mem_append] at hu
    rcases hu with hu | hu
    · obtain ⟨⟨a, n, c, h1⟩, a2, n2, c2, h2⟩ := h p (by simp)
      simp only [rowB, h1, h2, List.mem_cons, List.not_mem_nil, or_false] at hu
      rcases hu with rfl | rfl | rfl <;> rfl
    · exact ih (fun q hq => h q (by simp [hq])) u hu
theorem BsW.one {w : World} {base : Nat} {v : Value} {ps : List Bv} (h : BsW w base v ps) (qs : List Bv) (hq : ∀ p ∈ qs, p ∈ ps) : ∀ u ∈ rowsB qs, u.oneCell' = true :=
  oneB qs fun p hp => by
    obtain ⟨q1, q2, -⟩ := h.2 p (hq p hp)
    obtain ⟨a, c, e1⟩ := q1.lst.shape
    obtain ⟨a2, c2, e2⟩ := q2.lst.shape
    exact ⟨⟨_, _, _, e1⟩, ⟨_, _, _, e2⟩⟩
end Go.Proofs.YtnojjmkmkelbgaaGreat

/- The specification's walk of the place of a name. -/
namespace Go.Proofs.YtnojjmkmkelbgaaGreat
open Go.RowKit

set_option maxHeartbeats 2000000 in
theorem at11_any (b : Bk) (v : Value) (s : ByteArray) (w : World) (h : BkV w v b) :
    Calls Tryz.prog 31 #[v, .string s] w fun e w' => e = .returned (.int .i64 (idxI (nms b.bs) s)) ∧ Below w.heap.size w w' := by
  obtain ⟨a1, c1, a2, c2, rfl, h1, h2⟩ := h.parts
  have hC : CB (w.alloc (.cells #[.slice a1 (b).things.length c1, .slice a2 (b).bs.length c2] 26)) w.heap.size [.slice a1 b.things.length c1, .slice a2 b.bs.length c2] := cb_alloc w _ _
  have hB0 := (Below.refl w.heap.size w).alloc (Nat.le_refl _) (.cells #[.slice a1 (b).things.length c1, .slice a2 (b).bs.length c2] 26)
  have g2 := h2.at.1
  unfold maxLen at g2
  go_enter Tryz.func31, Tryz.ntmps31
  go_upto_region 1 with fail
  generalize w.alloc (.cells #[.slice a1 (b).things.length c1, .slice a2 (b).bs.length c2] 26) = W1 at *
  have l2 := h2.up hB0
  clear h h1 h2
  obtain ⟨e0, e1⟩ := hC.c2'
  obtain ⟨-, hpos⟩ := l2.at
  go_wp2_with fail
  go_loop [5] (fun i => ∃ k : Nat, k ≤ b.bs.length ∧ i = .int .i64 k ∧ memS ((nms b.bs).take k) s = false) (fun i => b.bs.length - (intOf i).toNat)
  case atStart => exact ⟨0, by omega, rfl, rfl⟩
  case round =>
    obtain ⟨k, hk, rfl, hal⟩ := hrel
    have Hal : Hid (memS ((nms b.bs).take k) s = false) := hal
    clear hal
    by_cases hp : k < b.bs.length
    · obtain ⟨bb, o, rfl, hS, hb⟩ := hpos (by omega)
      obtain ⟨a3, d3, a4, d4, c3, c4, c5, -, -, -⟩ := (hS.at hp).cells
      have hp' : k < (nms b.bs).length := by rw [nms_length]; exact hp
      have Hn : Hid ((nms b.bs)[k] = (b.bs[k]).nm) := nms_get b.bs k hp
      cases hq : ((b.bs[k]).nm.toList == s.toList)
      · have Hq : Hid (memS ((nms b.bs).take (k + 1)) s = false) := memS_take hp' Hal.out (by rw [Hn.out]; exact hq)
        generalize b.bs[k] = x0 at *
        go_wp2_with fail
        go_round
        case rel => exact ⟨k + 1, by omega, by go_num, Hq.out⟩
        case measure => simp [intOf]; omega
      · have Hq : Hid (idxI (nms b.bs) s = (k : Int)) := idxI_found hp' Hal.out (by rw [Hn.out]; exact hq)
        generalize b.bs[k] = x0 at *
        go_wp2_with fail
        go_ret
        exact ⟨ret_int Hq.out.symm, hB0⟩
    · have Hq : Hid (idxI (nms b.bs) s = -1) := idxI_none (memS_all (by rw [nms_length]; exact hp) Hal.out)
      go_wp2_with fail
      go_ret
      exact ⟨ret_int Hq.out.symm, hB0⟩
end Go.Proofs.YtnojjmkmkelbgaaGreat

/- The specification's walks of chapter 12: who can, orders that fit (out of Ks4). -/
namespace Go.Proofs.YtnojjmkmkelbgaaGreat
open Go.RowKit


set_option maxHeartbeats 2000000 in
theorem can12_any (b : Bk) (v gv : Value) (at' : Nat) (gone : List ByteArray) (w : World) (h : BkV w v b) (hg : Ls w gv gone) (hat : at' < b.bs.length) :
    Calls Tryz.prog 22 #[v, .int .i64 at', gv] w fun e w' => e = .returned (.bool (pB (Can b.bs at' gone))) ∧ Below w.heap.size w w' := by
  obtain ⟨a1, c1, a2, c2, rfl, h1, h2⟩ := h.parts
  have hC : CB (w.alloc (.cells #[.slice a1 (b).things.length c1, .slice a2 (b).bs.length c2] 26)) w.heap.size [.slice a1 b.things.length c1, .slice a2 b.bs.length c2] := cb_alloc w _ _
  have hB0 := (Below.refl w.heap.size w).alloc (Nat.le_refl _) (.cells #[.slice a1 (b).things.length c1, .slice a2 (b).bs.length c2] 26)
  have g2 := h2.at.1
  unfold maxLen at g2
  go_enter Tryz.func22, Tryz.ntmps22
  go_upto_region 1 with fail
  generalize w.alloc (.cells #[.slice a1 (b).things.length c1, .slice a2 (b).bs.length c2] 26) = W1 at *
  have l2 := h2.up hB0
  have lg := hg.up hB0
  clear h h1 h2 hg
  obtain ⟨e0, e1⟩ := hC.c2'
  obtain ⟨-, hpos⟩ := l2.at
  obtain ⟨bb, o, rfl, hS, hb⟩ := hpos (by omega)
  obtain ⟨a5, d5, a6, d6, -, -, c8, -, l6, -⟩ := (hS.at hat).cells
  go_wp2_with fail
  go_loopw [7] (fun i w' => ∃ k m : Nat, k ≤ b.bs.length ∧ i = .int .i64 k ∧ CanTo b.bs at' gone k ∧ w' = W1.drewN m) (fun i _ => b.bs.length - (intOf i).toNat)
  case atStart => exact ⟨0, 0, by omega, rfl, CanTo.zero _ _ _, rfl⟩
  case round =>
    obtain ⟨k, m, hk, rfl, hal, hw⟩ := hrel
    have Hw : Hid (wr = W1.drewN m) := hw
    have Hal : Hid (CanTo b.bs at' gone k) := hal
    have hBw : Below W1.heap.size W1 wr := by rw [hw]; exact below_drewN (Below.refl _ _) _
    clear hw hal
    have f1 : wr.cell? ⟨w.heap.size, 1, none⟩ = some (.slice (some ⟨bb, o, none⟩) b.bs.length c2) := by rw [Hw.out]; exact e1
    by_cases hp : k < b.bs.length
    · by_cases hka : k = at'
      · subst hka
        have Hs : Hid (CanTo b.bs k gone (k + 1)) := Hal.out.step hp hat (.inl rfl)
        go_wp2_with fail
        go_quiet (fail)
        go_wp2_with fail
        go_roundw
        case rel =>
          obtain ⟨m', hm'⟩ := drew_more (n := nq) Hw.out
          exact ⟨k + 1, m', by omega, by go_num, Hs.out, hm'⟩
        case measure => simp [intOf]; omega
      have hkb : ((k : Int) != (at' : Int)) = true := by rw [bne_iff_ne]; omega
      obtain ⟨a3, d3, a4, d4, c3, c4, -, l3, -, -⟩ := (hS.at hp).cells
      have c3' : wr.cell? ⟨bb, o + k * 3, none⟩ = some (.string (b.bs[k]).nm) := by rw [Hw.out]; exact c3
      have c4' : wr.cell? ⟨bb, o + k * 3 + 1, none⟩ = some (.slice a3 (b.bs[k]).has.length d3) := by rw [Hw.out]; exact c4
      have c8' : wr.cell? ⟨bb, o + at' * 3 + 2, none⟩ = some (.slice a6 (b.bs[at']).needs.length d6) := by rw [Hw.out]; exact c8
      have HY : Hid (memS gone (b.bs[k]).nm = true ∨ shareB (b.bs[k]).has (b.bs[at']).needs = false → CanTo b.bs at' gone (k + 1)) := fun h => Hal.out.step hp hat (.inr h)
      have HN : Hid (memS gone (b.bs[k]).nm = false → shareB (b.bs[k]).has (b.bs[at']).needs = true → ¬ Can b.bs at' gone) := fun h1 h2 => can_no hp hat hka h1 h2
      have R1 : Hid (∀ n, Calls Tryz.prog 41 #[gv, .string (b.bs[k]).nm] (wr.drewN n) fun e w'' => e = .returned (.bool (memS gone (b.bs[k]).nm)) ∧ ∃ m, w'' = wr.drewN m) := fun n => Calls.quiet_of_same (has11_any gone gv _ _ (by have e := Hw.out; subst e; exact lg))
      have R2 : Hid (∀ n, Calls Tryz.prog 27 #[.slice a3 (b.bs[k]).has.length d3, .slice a6 (b.bs[at']).needs.length d6] (wr.drewN n) fun e w'' => e = .returned (.bool (shareB (b.bs[k]).has (b.bs[at']).needs)) ∧ ∃ m, w'' = wr.drewN m) := fun n => Calls.quiet_of_same (share11_any _ _ _ _ _ (by have e := Hw.out; subst e; exact l3) (by have e := Hw.out; subst e; exact l6))
      clear c3 c4 l3
      generalize b.bs[k] = x0 at *
      generalize b.bs[at'] = y0 at *
      obtain ⟨hv, hhv⟩ : ∃ hv, Value.slice a3 x0.has.length d3 = hv := ⟨_, rfl⟩
      obtain ⟨nv, hnv⟩ : ∃ nv, Value.slice a6 y0.needs.length d6 = nv := ⟨_, rfl⟩
      rw [hhv] at c4' R2
      rw [hnv] at c8' R2
      clear hhv hnv
      cases hm : memS gone x0.nm
      case true =>
        have Hs : Hid (CanTo b.bs at' gone (k + 1)) := HY.out (.inl hm)
        have Q1 : Hid (∀ n, Calls Tryz.prog 41 #[gv, .string x0.nm] (wr.drewN n) fun e w'' => e = .returned (.bool true) ∧ ∃ m, w'' = wr.drewN m) := by have := R1.out; rw [hm] at this; exact this
        have q1 := Q1.out
        clear Q1 R1 R2 HY HN
        go_wp2_with fail
        go_quiet ((go_at_call 41; exact q1 _))
        go_wp2_with fail
        go_roundw
        case rel =>
          obtain ⟨m', hm'⟩ := drew_more (n := nq) Hw.out
          exact ⟨k + 1, m', by omega, by go_num, Hs.out, hm'⟩
        case measure => simp [intOf]; omega
      have Q1 : Hid (∀ n, Calls Tryz.prog 41 #[gv, .string x0.nm] (wr.drewN n) fun e w'' => e = .returned (.bool false) ∧ ∃ m, w'' = wr.drewN m) := by have := R1.out; rw [hm] at this; exact this
      cases hs : shareB x0.has y0.needs
      · have Hs : Hid (CanTo b.bs at' gone (k + 1)) := HY.out (.inr hs)
        have Q2 : Hid (∀ n, Calls Tryz.prog 27 #[hv, nv] (wr.drewN n) fun e w'' => e = .returned (.bool false) ∧ ∃ m, w'' = wr.drewN m) := by have := R2.out; rw [hs] at this; exact this
        have q1 := Q1.out
        have q2 := Q2.out
        clear Q1 Q2 R1 R2 HY HN
        go_wp2_with fail
        go_quiet ((first | (go_at_call 41; exact q1 _) | (go_at_call 27; exact q2 _)))
        go_wp2_with fail
        go_roundw
        case rel =>
          obtain ⟨m', hm'⟩ := drew_more (n := nq) Hw.out
          exact ⟨k + 1, m', by omega, by go_num, Hs.out, hm'⟩
        case measure => simp [intOf]; omega
      · have Hs : Hid (¬ Can b.bs at' gone) := HN.out hm hs
        have Q2 : Hid (∀ n, Calls Tryz.prog 27 #[hv, nv] (wr.drewN n) fun e w'' => e = .returned (.bool true) ∧ ∃ m, w'' = wr.drewN m) := by have := R2.out; rw [hs] at this; exact this
        have q1 := Q1.out
        have q2 := Q2.out
        clear Q1 Q2 R1 R2 HY HN
        go_wp2_with fail
        go_quiet ((first | (go_at_call 41; exact q1 _) | (go_at_call 27; exact q2 _)))
        go_wp2_with fail
        go_ret
        exact ⟨ret_bool (pB_no Hs.out).symm, up_trans hB0 (below_drewN hBw _)⟩
    · have Hs : Hid (Can b.bs at' gone) := can_end Hal.out hp
      go_wp2_with fail
      go_ret
      exact ⟨ret_bool (pB_yes Hs.out).symm, up_trans hB0 hBw⟩
end Go.Proofs.YtnojjmkmkelbgaaGreat

/- The specification's walks of chapter 12: the place of a name, who can. -/
