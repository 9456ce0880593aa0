/- Books in memory: lists of texts, batches, a book. -/
import Derived.Test.YtkapodkidlgkjafKb
import Derived.Test.YtkapodkidlgkjafGx
namespace Go.Proofs.Ytkapodkidlgkjaf
open Go.RowKit

/-- A list of texts that a slice leads to. -/
def Ls (w : World) (v : Value) (ss : List ByteArray) : Prop :=
  ∃ a c, v = .slice a ss.length c ∧ ss.length ≤ maxLen ∧ (∀ s ∈ ss, s.size ≤ maxLen) ∧ (0 < ss.length → ∃ b o, a = some ⟨b, o, none⟩ ∧ StrsAt w b o ss ∧ b < w.heap.size)
theorem StrsAt.up {w w' : World} {g o : Nat} {ss : List ByteArray} (h : StrsAt w g o ss) (hb : Below w.heap.size w w') (hg : g < w.heap.size) : StrsAt w' g o ss :=
  fun i s hs => (hb.cell (p := ⟨g, o + i, none⟩) hg).trans (h i s hs)
theorem StrsAt.cell {w : World} {g o : Nat} {ss : List ByteArray} (h : StrsAt w g o ss) {k : Nat} (hk : k < ss.length) : w.cell? ⟨g, o + k, none⟩ = some (.string ss[k]) := h k _ (by rw [List.getElem?_eq_getElem])
theorem Ls.up {w w' : World} {v : Value} {ss : List ByteArray} (h : Ls w v ss) (hb : Below w.heap.size w w') : Ls w' v ss := by
  obtain ⟨a, c, rfl, h1, h2, h3⟩ := h
  refine ⟨a, c, rfl, h1, h2, fun hp => ?_⟩
  obtain ⟨b, o, rfl, hS, hlt⟩ := h3 hp
  exact ⟨b, o, rfl, hS.up hb hlt, Nat.lt_of_lt_of_le hlt hb.size⟩
theorem Ls.inv {w : World} {a : Option Addr} {n c : Nat} {ss : List ByteArray} (h : Ls w (.slice a n c) ss) : ss.length ≤ maxLen ∧ (∀ s ∈ ss, s.size ≤ maxLen) ∧ (0 < ss.length → ∃ b o, a = some ⟨b, o, none⟩ ∧ StrsAt w b o ss ∧ b < w.heap.size) := by
  obtain ⟨a', c', e, h1⟩ := h
  obtain ⟨rfl, -, rfl⟩ := Value.slice.inj e
  exact h1
theorem Ls.drew {w : World} {v : Value} {ss : List ByteArray} (h : Ls w v ss) : Ls w.drew v ss := h
theorem Ls.drewN {w : World} {v : Value} {ss : List ByteArray} (h : Ls w v ss) {n : Nat} : Ls (w.drewN n) v ss := h
theorem Ls.take {w : World} {a : Option Addr} {c : Nat} {ss : List ByteArray} (h : Ls w (.slice a ss.length c) ss) {k : Nat} (hk : k ≤ ss.length) (c' : Nat) : Ls w (.slice a k c') (ss.take k) := by
  obtain ⟨a', c', e, h1, h2, h3⟩ := h
  obtain ⟨rfl, -, rfl⟩ := Value.slice.inj e
  have hl : (ss.take k).length = k := by rw [List.length_take]; omega
  refine ⟨a, _, by rw [hl], by rw [hl]; omega, fun s hs => h2 s (List.mem_of_mem_take hs), fun hp => ?_⟩
  obtain ⟨b, o, rfl, hS, hlt⟩ := h3 (by omega)
  exact ⟨b, o, rfl, hS.take k, hlt⟩
theorem Ls.nil (w : World) (a : Option Addr) (c : Nat) : Ls w (.slice a 0 c) [] := ⟨a, c, rfl, by simp, fun s hs => by simp at hs, fun h => by simp at h⟩
theorem Lst.ls {w : World} {v : Value} {ss : List ByteArray} (h : Lst w v ss) (hz : ∀ s ∈ ss, s.size ≤ maxLen) : Ls w v ss := by
  rcases h with ⟨rfl, rfl⟩ | ⟨g, c, rfl, hS, hg, h1, h2⟩
  · exact Ls.nil _ _ _
  · exact ⟨_, c, rfl, by omega, hz, fun _ => ⟨g, 0, rfl, hS, hg⟩⟩
/-- A batch's three cells. -/
def BaAt (w : World) (b o : Nat) (x : Ba) : Prop := ∃ hv nv, w.rangeAt b o [.string x.nm, hv, nv] ∧ Ls w hv x.has ∧ Ls w nv x.needs ∧ x.nm.size ≤ maxLen
theorem BaAt.up {w w' : World} {b o : Nat} {x : Ba} (h : BaAt w b o x) (hb : Below w.heap.size w w') (hlt : b < w.heap.size) : BaAt w' b o x := by
  obtain ⟨hv, nv, hr, h1, h2, h3⟩ := h
  exact ⟨hv, nv, fun j v hv => (hb.cell (p := ⟨b, o + j, none⟩) hlt).trans (hr j v hv), h1.up hb, h2.up hb, h3⟩
def BsAt (w : World) (b o : Nat) (bs : List Ba) : Prop := ∀ (i : Nat) (x : Ba), bs[i]? = some x → BaAt w b (o + i * 3) x
theorem BsAt.up {w w' : World} {b o : Nat} {bs : List Ba} (h : BsAt w b o bs) (hb : Below w.heap.size w w') (hlt : b < w.heap.size) : BsAt w' b o bs := fun i x hx => (h i x hx).up hb hlt
theorem BsAt.at {w : World} {b o : Nat} {bs : List Ba} (h : BsAt w b o bs) {k : Nat} (hk : k < bs.length) : BaAt w b (o + k * 3) bs[k] := h k _ (by rw [List.getElem?_eq_getElem])
/-- The cells of a batch, its lists with their shapes. -/
theorem BaAt.cells {w : World} {b o : Nat} {x : Ba} (h : BaAt w b o x) : ∃ a1 c1 a2 c2, w.cell? ⟨b, o, none⟩ = some (.string x.nm) ∧ w.cell? ⟨b, o + 1, none⟩ = some (.slice a1 x.has.length c1) ∧ w.cell? ⟨b, o + 2, none⟩ = some (.slice a2 x.needs.length c2) ∧
    Ls w (.slice a1 x.has.length c1) x.has ∧ Ls w (.slice a2 x.needs.length c2) x.needs ∧ x.nm.size ≤ maxLen := by
  obtain ⟨hv, nv, hr, h1, h2, h3⟩ := h
  obtain ⟨a1, c1, rfl, -⟩ := id h1
  obtain ⟨a2, c2, rfl, -⟩ := id h2
  exact ⟨a1, c1, a2, c2, hr 0 _ rfl, hr 1 _ rfl, hr 2 _ rfl, h1, h2, h3⟩
/-- The batches that a slice leads to. -/
def Bs (w : World) (v : Value) (bs : List Ba) : Prop := ∃ a c, v = .slice a bs.length c ∧ bs.length ≤ maxLen ∧ (0 < bs.length → ∃ b o, a = some ⟨b, o, none⟩ ∧ BsAt w b o bs ∧ b < w.heap.size)
theorem Bs.up {w w' : World} {v : Value} {bs : List Ba} (h : Bs w v bs) (hb : Below w.heap.size w w') : Bs w' v bs := by
  obtain ⟨a, c, rfl, h1, h3⟩ := h
  refine ⟨a, c, rfl, h1, fun hp => ?_⟩
  obtain ⟨b, o, rfl, hS, hlt⟩ := h3 hp
  exact ⟨b, o, rfl, hS.up hb hlt, Nat.lt_of_lt_of_le hlt hb.size⟩
theorem Bs.drew {w : World} {v : Value} {bs : List Ba} (h : Bs w v bs) : Bs w.drew v bs := h
/-- A book, as a value. -/
def BkV (w : World) (v : Value) (b : Bk) : Prop := ∃ tv bv, v = .agg #[tv, bv] ∧ Ls w tv b.things ∧ Bs w bv b.bs
theorem BkV.up {w w' : World} {v : Value} {b : Bk} (h : BkV w v b) (hb : Below w.heap.size w w') : BkV w' v b := by
  obtain ⟨tv, bv, rfl, h1, h2⟩ := h
  exact ⟨tv, bv, rfl, h1.up hb, h2.up hb⟩
theorem BkV.drew {w : World} {v : Value} {b : Bk} (h : BkV w v b) : BkV w.drew v b := h
theorem BkV.parts {w : World} {v : Value} {b : Bk} (h : BkV w v b) : ∃ a1 c1 a2 c2, v = .agg #[.slice a1 b.things.length c1, .slice a2 b.bs.length c2] ∧ Ls w (.slice a1 b.things.length c1) b.things ∧ Bs w (.slice a2 b.bs.length c2) b.bs := by
  obtain ⟨tv, bv, rfl, h1, h2⟩ := h
  obtain ⟨a1, c1, rfl, -⟩ := id h1
  obtain ⟨a2, c2, rfl, -⟩ := id h2
  exact ⟨a1, c1, a2, c2, rfl, h1, h2⟩
theorem CB.c2' {w : World} {b : Nat} {x0 x1 : Value} (h : CB w b [x0, x1]) : w.cell? ⟨b, 0, none⟩ = some x0 ∧ w.cell? ⟨b, 1, none⟩ = some x1 := h.c2.1
theorem Bs.at {w : World} {a : Option Addr} {n c : Nat} {bs : List Ba} (h : Bs w (.slice a n c) bs) : bs.length ≤ maxLen ∧ (0 < bs.length → ∃ b o, a = some ⟨b, o, none⟩ ∧ BsAt w b o bs ∧ b < w.heap.size) := by
  obtain ⟨a', c', e, h1⟩ := h
  obtain ⟨rfl, -, rfl⟩ := Value.slice.inj e
  exact h1
end Go.Proofs.Ytkapodkidlgkjaf
