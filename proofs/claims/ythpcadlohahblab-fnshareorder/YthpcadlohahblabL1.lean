/- Books in memory: lists of texts, batches, a book. -/
import Derived.Test.YthpcadlohahblabK1
import Derived.Test.YthpcadlohahblabA1
namespace Go.Proofs.Ythpcadlohahblab
open Go.RowKit

/-- A list of texts that a slice leads to. -/
def Ls (w : World) (v : Value) (ss : List ByteArray) : Prop :=
  ∃ a c, v = .slice a ss.length c ∧ ss.length ≤ maxLen ∧ (∀ s ∈ ss, s.size ≤ maxLen) ∧ (0 < ss.length → ∃ b o, a = some ⟨b, o, none⟩ ∧ StrsAt w b o ss ∧ b < w.heap.size)
theorem StrsAt.up {w w' : World} {g o : Nat} {ss : List ByteArray} (h : StrsAt w g o ss) (hb : Below w.heap.size w w') (hg : g < w.heap.size) : StrsAt w' g o ss :=
  fun i s hs => (hb.cell (p := ⟨g, o + i, none⟩) hg).trans (h i s hs)
theorem StrsAt.cell {w : World} {g o : Nat} {ss : List ByteArray} (h : StrsAt w g o ss) {k : Nat} (hk : k < ss.length) : w.cell? ⟨g, o + k, none⟩ = some (.string ss[k]) := h k _ (by rw [List.getElem?_eq_getElem])
theorem Ls.up {w w' : World} {v : Value} {ss : List ByteArray} (h : Ls w v ss) (hb : Below w.heap.size w w') : Ls w' v ss := by
  obtain ⟨a, c, rfl, h1, h2, h3⟩ := h
  refine ⟨a, c, rfl, h1, h2, fun hp => ?_⟩
  obtain ⟨b, o, rfl, hS, hlt⟩ := h3 hp
  exact ⟨b, o, rfl, hS.up hb hlt, Nat.lt_of_lt_of_le hlt hb.size⟩
theorem Ls.inv {w : World} {a : Option Addr} {n c : Nat} {ss : List ByteArray} (h : Ls w (.slice a n c) ss) : ss.length ≤ maxLen ∧ (∀ s ∈ ss, s.size ≤ maxLen) ∧ (0 < ss.length → ∃ b o, a = some ⟨b, o, none⟩ ∧ StrsAt w b o ss ∧ b < w.heap.size) := by
  obtain ⟨a', c', e, h1⟩ := h
  obtain ⟨rfl, -, rfl⟩ := Value.slice.inj e
  exact h1
theorem Ls.drew {w : World} {v : Value} {ss : List ByteArray} (h : Ls w v ss) : Ls w.drew v ss := h
theorem Ls.drewN {w : World} {v : Value} {ss : List ByteArray} (h : Ls w v ss) {n : Nat} : Ls (w.drewN n) v ss := h
theorem Ls.take {w : World} {a : Option Addr} {c : Nat} {ss : List ByteArray} (h : Ls w (.slice a ss.length c) ss) {k : Nat} (hk : k ≤ ss.length) (c' : Nat) : Ls w (.slice a k c') (ss.take k) := by
  obtain ⟨a', c', e, h1, h2, h3⟩ := h
  obtain ⟨rfl, -, rfl⟩ := Value.slice.inj e
  have hl : (ss.take k).length = k := by rw [List.length_take]; omega
  refine ⟨a, _, by rw [hl], by rw [hl]; omega, fun s hs => h2 s (List.mem_of_mem_take hs), fun hp => ?_⟩
  obtain ⟨b, o, rfl, hS, hlt⟩ := h3 (by omega)
  exact ⟨b, o, rfl, hS.take k, hlt⟩
theorem Ls.nil (w : World) (a : Option Addr) (c : Nat) : Ls w (.slice a 0 c) [] := ⟨a, c, rfl, by simp, fun s hs => by simp at hs, fun h => by simp at h⟩
theorem Lst.ls {w : World} {v : Value} {ss : List ByteArray} (h : Lst w v ss) (hz : ∀ s ∈ ss, s.size ≤ maxLen) : Ls w v ss := by
  rcases h with ⟨rfl, rfl⟩ | ⟨g, c, rfl, hS, hg, h1, h2⟩
  · exact Ls.nil _ _ _
  · exact ⟨_, c, rfl, by omega, hz, fun _ => ⟨g, 0, rfl, hS, hg⟩⟩
/-- A batch's three cells. -/
def BaAt (w : World) (b o : Nat) (x : Ba) : Prop := ∃ hv nv, w.rangeAt b o [.string x.nm, hv, nv] ∧ Ls w hv x.has ∧ Ls w nv x.needs ∧ x.nm.size ≤ maxLen
theorem BaAt.up {w w' : World} {b o : Nat} {x : Ba} (h : BaAt w b o x) (hb : Below w.heap.size w w') (hlt : b < w.heap.size) : BaAt w' b o x := by
  obtain ⟨hv, nv, hr, h1, h2, h3⟩ := h
  exact ⟨hv, nv, fun j v hv => (hb.cell (p := ⟨b, o + j, none⟩) hlt).trans (hr j v hv), h1.up hb, h2.up hb, h3⟩
def BsAt (w : World) (b o : Nat) (bs : List Ba) : Prop := ∀ (i : Nat) (x : Ba), bs[i]? = some x → BaAt w b (o + i * 3) x
theorem BsAt.up {w w' : World} {b o : Nat} {bs : List Ba} (h : BsAt w b o bs) (hb : Below w.heap.size w w') (hlt : b < w.heap.size) : BsAt w' b o bs := fun i x hx => (h i x hx).up hb hlt
theorem BsAt.at {w : World} {b o : Nat} {bs : List Ba} (h : BsAt w b o bs) {k : Nat} (hk : k < bs.length) : BaAt w b (o + k * 3) bs[k] := h k _ (by rw [List.getElem?_eq_getElem])
/-- The cells of a batch, its lists with their shapes. -/
theorem BaAt.cells {w : World} {b o : Nat} {x : Ba} (h : BaAt w b o x) : ∃ a1 c1 a2 c2, w.cell? ⟨b, o, none⟩ = some (.string x.nm) ∧ w.cell? ⟨b, o + 1, none⟩ = some (.slice a1 x.has.length c1) ∧ w.cell? ⟨b, o + 2, none⟩ = some (.slice a2 x.needs.length c2) ∧
    Ls w (.slice a1 x.has.length c1) x.has ∧ Ls w (.slice a2 x.needs.length c2) x.needs ∧ x.nm.size ≤ maxLen := by
  obtain ⟨hv, nv, hr, h1, h2, h3⟩ := h
  obtain ⟨a1, c1, rfl, -⟩ := id h1
  obtain ⟨a2, c2, rfl, -⟩ := id h2
  exact ⟨a1, c1, a2, c2, hr 0 _ rfl, hr 1 _ rfl, hr 2 _ rfl, h1, h2, h3⟩
/-- The batches that a slice leads to. -/
def Bs (w : World) (v : Value) (bs : List Ba) : Prop := ∃ a c, v = .slice a bs.length c ∧ bs.length ≤ maxLen ∧ (0 < bs.length → ∃ b o, a = some ⟨b, o, none⟩ ∧ BsAt w b o bs ∧ b < w.heap.size)
theorem Bs.up {w w' : World} {v : Value} {bs : List Ba} (h : Bs w v bs) (hb : Below w.heap.size w w') : Bs w' v bs := by
  obtain ⟨a, c, rfl, h1, h3⟩ := h
  refine ⟨a, c, rfl, h1, fun hp => ?_⟩
  obtain ⟨b, o, rfl, hS, hlt⟩ := h3 hp
  exact ⟨b, o, rfl, hS.up hb hlt, Nat.lt_of_lt_of_le hlt hb.size⟩
theorem Bs.drew {w : World} {v : Value} {bs : List Ba} (h : Bs w v bs) : Bs w.drew v bs := h
/-- A book, as a value. -/
def BkV (w : World) (v : Value) (b : Bk) : Prop := ∃ tv bv, v = .agg #[tv, bv] ∧ Ls w tv b.things ∧ Bs w bv b.bs
theorem BkV.up {w w' : World} {v : Value} {b : Bk} (h : BkV w v b) (hb : Below w.heap.size w w') : BkV w' v b := by
  obtain ⟨tv, bv, rfl, h1, h2⟩ := h
  exact ⟨tv, bv, rfl, h1.up hb, h2.up hb⟩
theorem BkV.drew {w : World} {v : Value} {b : Bk} (h : BkV w v b) : BkV w.drew v b := h
theorem BkV.parts {w : World} {v : Value} {b : Bk} (h : BkV w v b) : ∃ a1 c1 a2 c2, v = .agg #[.slice a1 b.things.length c1, .slice a2 b.bs.length c2] ∧ Ls w (.slice a1 b.things.length c1) b.things ∧ Bs w (.slice a2 b.bs.length c2) b.bs := by
  obtain ⟨tv, bv, rfl, h1, h2⟩ := h
  obtain ⟨a1, c1, rfl, -⟩ := id h1
  obtain ⟨a2, c2, rfl, -⟩ := id h2
  exact ⟨a1, c1, a2, c2, rfl, h1, h2⟩
theorem CB.c2' {w : World} {b : Nat} {x0 x1 : Value} (h : CB w b [x0, x1]) : w.cell? ⟨b, 0, none⟩ = some x0 ∧ w.cell? ⟨b, 1, none⟩ = some x1 := h.c2.1
theorem Bs.at {w : World} {a : Option Addr} {n c : Nat} {bs : List Ba} (h : Bs w (.slice a n c) bs) : bs.length ≤ maxLen ∧ (0 < bs.length → ∃ b o, a = some ⟨b, o, none⟩ ∧ BsAt w b o bs ∧ b < w.heap.size) := by
  obtain ⟨a', c', e, h1⟩ := h
  obtain ⟨rfl, -, rfl⟩ := Value.slice.inj e
  exact h1
end Go.Proofs.Ythpcadlohahblab

/- Books of one's own in memory: what the laws' copies are. -/
namespace Go.Proofs.Ythpcadlohahblab
open Go.RowKit

/-- A list of texts in a block of its own, at or behind a base. -/
def LsO (w : World) (base : Nat) (v : Value) (ss : List ByteArray) : Prop := ∃ b, v = .slice (some ⟨b, 0, none⟩) ss.length ss.length ∧ StrsAt w b 0 ss ∧ w.there b 0 ss.length ∧ base ≤ b ∧ b < w.heap.size ∧ ss.length ≤ maxLen ∧ ∀ s ∈ ss, s.size ≤ maxLen
theorem LsO.ls {w : World} {base : Nat} {v : Value} {ss : List ByteArray} (h : LsO w base v ss) : Ls w v ss := by
  obtain ⟨b, rfl, h1, -, -, h2, h3, h4⟩ := h
  exact ⟨_, _, rfl, h3, h4, fun _ => ⟨b, 0, rfl, h1, h2⟩⟩
theorem LsO.up {w w' : World} {base : Nat} {v : Value} {ss : List ByteArray} (h : LsO w base v ss) (hb : Below w.heap.size w w') : LsO w' base v ss := by
  obtain ⟨b, rfl, h1, ht, h0, h2, h3⟩ := h
  exact ⟨b, rfl, h1.up hb h2, there_up ht hb h2, h0, Nat.lt_of_lt_of_le h2 hb.size, h3⟩
theorem there_kept {w w' : World} {b o n : Nat} {r : Option Nat} (h : w.there b o n) (hg : w.grownBy w' r) (hb : b < w.heap.size) (hne : some b ≠ r) : w'.there b o n := fun j hj => by
  have hk := hg.block b hb hne
  rw [World.cell?_of_block (w := w) (a := ⟨b, o + j, none⟩) hk, World.frozen?_of_block (w := w) (a := ⟨b, o + j, none⟩) hk]; exact h j hj
theorem LsO.kept {w w' : World} {base r : Nat} {v : Value} {ss : List ByteArray} (h : LsO w base v ss) (hg : w.grownBy w' (some r)) (hr : r < base) : LsO w' base v ss := by
  obtain ⟨b, rfl, h1, ht, h0, h2, h3⟩ := h
  exact ⟨b, rfl, fun i s hs => hg.cell (h1 i s hs) (by simp; omega), there_kept ht hg h2 (by simp; omega), h0, Nat.lt_of_lt_of_le h2 hg.size, h3⟩
theorem LsO.low {w : World} {base base' : Nat} {v : Value} {ss : List ByteArray} (h : LsO w base v ss) (hb : base' ≤ base) : LsO w base' v ss := by
  obtain ⟨b, rfl, h1, ht, h0, h2⟩ := h
  exact ⟨b, rfl, h1, ht, by omega, h2⟩
/-- A batch's cells in block b, its lists behind b. -/
def BaO (w : World) (b o : Nat) (x : Ba) : Prop := ∃ hv nv, w.rangeAt b o [.string x.nm, hv, nv] ∧ LsO w (b + 1) hv x.has ∧ LsO w (b + 1) nv x.needs ∧ x.nm.size ≤ maxLen
theorem BaO.up {w w' : World} {b o : Nat} {x : Ba} (h : BaO w b o x) (hb : Below w.heap.size w w') (hlt : b < w.heap.size) : BaO w' b o x := by
  obtain ⟨hv, nv, hr, h1, h2, h3⟩ := h
  exact ⟨hv, nv, fun j v hv => (hb.cell (p := ⟨b, o + j, none⟩) hlt).trans (hr j v hv), h1.up hb, h2.up hb, h3⟩
theorem BaO.at {w : World} {b o : Nat} {x : Ba} (h : BaO w b o x) : BaAt w b o x := by
  obtain ⟨hv, nv, hr, h1, h2, h3⟩ := h
  exact ⟨hv, nv, hr, h1.ls, h2.ls, h3⟩
def BsOAt (w : World) (b : Nat) (bs : List Ba) : Prop := ∀ (i : Nat) (x : Ba), bs[i]? = some x → BaO w b (i * 3) x
theorem BsOAt.up {w w' : World} {b : Nat} {bs : List Ba} (h : BsOAt w b bs) (hb : Below w.heap.size w w') (hlt : b < w.heap.size) : BsOAt w' b bs := fun i x hx => (h i x hx).up hb hlt
theorem bsO_store {w1 : World} {b k : Nat} {bs : List Ba} {hv nv : Value} (hk : k < bs.length) (h : BsOAt w1 b (bs.take k)) (ht : w1.there b 0 (bs.length * 3)) (h1 : LsO w1 (b + 1) hv (bs[k]).has) (h2 : LsO w1 (b + 1) nv (bs[k]).needs) (h3 : (bs[k]).nm.size ≤ maxLen) :
    BsOAt (w1.setCells b (k * 3) [.string (bs[k]).nm, hv, nv]) b (bs.take (k + 1)) := by
  have hg : w1.grownBy (w1.setCells b (k * 3) [.string (bs[k]).nm, hv, nv]) (some b) := grown_copies b _ _ w1 w1 (some b) (World.grownBy.refl' w1) rfl
  intro i p hp
  by_cases hi : i < k
  · obtain ⟨hv', nv', hr, g1, g2, g3⟩ := h i p (by rw [List.getElem?_take] at hp ⊢; rw [if_pos (by omega)] at hp; rw [if_pos hi]; exact hp)
    refine ⟨hv', nv', World.rangeAt_setCells_apart hr b (k * 3) _ (.inr (.inl ?_)), g1.kept hg (by omega), g2.kept hg (by omega), g3⟩
    simp; omega
  · have hik : i = k := by
      rw [List.getElem?_take] at hp
      split at hp
      · omega
      · cases hp
    subst hik
    rw [List.getElem?_take, if_pos (by omega), List.getElem?_eq_getElem hk] at hp
    obtain rfl := Option.some.inj hp
    refine ⟨hv, nv, World.rangeAt_setCells_same _ _ _ _ (fun j hj => ?_), h1.kept hg (by omega), h2.kept hg (by omega), h3⟩
    have := ht (i * 3 + j) (by simp at hj; omega)
    simpa using this
/-- Batches in a block of their own; a book of its own. -/
def BsO (w : World) (base : Nat) (v : Value) (bs : List Ba) : Prop := ∃ b, v = .slice (some ⟨b, 0, none⟩) bs.length bs.length ∧ BsOAt w b bs ∧ w.there b 0 (bs.length * 3) ∧ base ≤ b ∧ b < w.heap.size ∧ bs.length ≤ maxLen
theorem BsO.bs {w : World} {base : Nat} {v : Value} {bs : List Ba} (h : BsO w base v bs) : Bs w v bs := by
  obtain ⟨b, rfl, h1, -, -, h2, h3⟩ := h
  exact ⟨_, _, rfl, h3, fun _ => ⟨b, 0, rfl, fun i x hx => by rw [Nat.zero_add]; exact (h1 i x hx).at, h2⟩⟩
theorem BsO.up {w w' : World} {base : Nat} {v : Value} {bs : List Ba} (h : BsO w base v bs) (hb : Below w.heap.size w w') : BsO w' base v bs := by
  obtain ⟨b, rfl, h1, ht, h0, h2, h3⟩ := h
  exact ⟨b, rfl, h1.up hb h2, there_up ht hb h2, h0, Nat.lt_of_lt_of_le h2 hb.size, h3⟩
def BkO (w : World) (base : Nat) (v : Value) (b : Bk) : Prop := ∃ tv bv mid, v = .agg #[tv, bv] ∧ LsO w base tv b.things ∧ BsO w mid bv b.bs ∧ base ≤ mid ∧ ∀ g, tv.ownBlock = some g → g < mid
theorem BkO.bk {w : World} {base : Nat} {v : Value} {b : Bk} (h : BkO w base v b) : BkV w v b := by
  obtain ⟨tv, bv, mid, rfl, h1, h2, -⟩ := h
  exact ⟨tv, bv, rfl, h1.ls, h2.bs⟩
theorem BkO.up {w w' : World} {base : Nat} {v : Value} {b : Bk} (h : BkO w base v b) (hb : Below w.heap.size w w') : BkO w' base v b := by
  obtain ⟨tv, bv, mid, rfl, h1, h2, r⟩ := h
  exact ⟨tv, bv, mid, rfl, h1.up hb, h2.up hb, r⟩
end Go.Proofs.Ythpcadlohahblab

/- Functions that end with a struct in their result's block. -/
namespace Go.Proofs.Ythpcadlohahblab
open Go.RowKit
/-- A function that ends so, with a struct of three (two; three and a second result) in its result's block, stored whole. -/
theorem end_cb3 {P : Program} {fn : Func} {q : Tmp} {T : TypeId} (h : fn.results = #[.cell q T]) {d : TypeDesc} (hu : P.underlying T = some d) (hd : d.isRow = true) (hi : (P.info? T).map (·.size) = some 3) {R : Ending → World → Prop} {tmps : Array Value} {w : World} {rk : Nat} {y0 y1 y2 x0 x1 x2 : Value}
    (k : CB w rk [y0, y1, y2]) (ht : tmps.getD q undef = .pointer (some ⟨rk, 0, none⟩)) (hR : R (.returned (.agg #[x0, x1, x2])) (((w.setCell ⟨rk, 0, none⟩ x0).setCell ⟨rk, 1, none⟩ x1).setCell ⟨rk, 2, none⟩ x2)) :
    bodyPost P fn R .ret { tmps := tmps, defers := [] } (((w.setCell ⟨rk, 0, none⟩ x0).setCell ⟨rk, 1, none⟩ x1).setCell ⟨rk, 2, none⟩ x2) :=
  bodyPost_ret (ret_cb (cs := [x0, x1, x2]) h hu hd hi ht (k.copy3 x0 x1 x2)) rfl hR
theorem end_cb2 {P : Program} {fn : Func} {q : Tmp} {T : TypeId} (h : fn.results = #[.cell q T]) {d : TypeDesc} (hu : P.underlying T = some d) (hd : d.isRow = true) (hi : (P.info? T).map (·.size) = some 2) {R : Ending → World → Prop} {tmps : Array Value} {w : World} {rk : Nat} {y0 y1 x0 x1 : Value}
    (k : CB w rk [y0, y1]) (ht : tmps.getD q undef = .pointer (some ⟨rk, 0, none⟩)) (hR : R (.returned (.agg #[x0, x1])) ((w.setCell ⟨rk, 0, none⟩ x0).setCell ⟨rk, 1, none⟩ x1)) :
    bodyPost P fn R .ret { tmps := tmps, defers := [] } ((w.setCell ⟨rk, 0, none⟩ x0).setCell ⟨rk, 1, none⟩ x1) :=
  bodyPost_ret (ret_cb (cs := [x0, x1]) h hu hd hi ht (k.copy2 x0 x1)) rfl hR
theorem end_cb3b {P : Program} {fn : Func} {q q2 : Tmp} {T : TypeId} (h : fn.results = #[.cell q T, .tmp q2]) {d : TypeDesc} (hu : P.underlying T = some d) (hd : d.isRow = true) (hi : (P.info? T).map (·.size) = some 3) {R : Ending → World → Prop} {tmps : Array Value} {w : World} {rk : Nat} {y0 y1 y2 x0 x1 x2 v : Value}
    (k : CB w rk [y0, y1, y2]) (ht : tmps.getD q undef = .pointer (some ⟨rk, 0, none⟩)) (hv : tmps.getD q2 undef = v) (hR : R (.returned (.tuple #[.agg #[x0, x1, x2], v])) (((w.setCell ⟨rk, 0, none⟩ x0).setCell ⟨rk, 1, none⟩ x1).setCell ⟨rk, 2, none⟩ x2)) :
    bodyPost P fn R .ret { tmps := tmps, defers := [] } (((w.setCell ⟨rk, 0, none⟩ x0).setCell ⟨rk, 1, none⟩ x1).setCell ⟨rk, 2, none⟩ x2) :=
  bodyPost_ret (ret_cb2 (cs := [x0, x1, x2]) h hu hd hi ht hv (k.copy3 x0 x1 x2)) rfl hR
end Go.Proofs.Ythpcadlohahblab
