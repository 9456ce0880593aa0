/- Books of one's own in memory: what the laws' copies are. -/
import Derived.Test.YtkapodkidlgkjafKl
namespace Go.Proofs.Ytkapodkidlgkjaf
open Go.RowKit

/-- A list of texts in a block of its own, at or behind a base. -/
def LsO (w : World) (base : Nat) (v : Value) (ss : List ByteArray) : Prop := ∃ b, v = .slice (some ⟨b, 0, none⟩) ss.length ss.length ∧ StrsAt w b 0 ss ∧ w.there b 0 ss.length ∧ base ≤ b ∧ b < w.heap.size ∧ ss.length ≤ maxLen ∧ ∀ s ∈ ss, s.size ≤ maxLen
theorem LsO.ls {w : World} {base : Nat} {v : Value} {ss : List ByteArray} (h : LsO w base v ss) : Ls w v ss := by
  obtain ⟨b, rfl, h1, -, -, h2, h3, h4⟩ := h
  exact ⟨_, _, rfl, h3, h4, fun _ => ⟨b, 0, rfl, h1, h2⟩⟩
theorem LsO.up {w w' : World} {base : Nat} {v : Value} {ss : List ByteArray} (h : LsO w base v ss) (hb : Below w.heap.size w w') : LsO w' base v ss := by
  obtain ⟨b, rfl, h1, ht, h0, h2, h3⟩ := h
  exact ⟨b, rfl, h1.up hb h2, there_up ht hb h2, h0, Nat.lt_of_lt_of_le h2 hb.size, h3⟩
theorem there_kept {w w' : World} {b o n : Nat} {r : Option Nat} (h : w.there b o n) (hg : w.grownBy w' r) (hb : b < w.heap.size) (hne : some b ≠ r) : w'.there b o n := fun j hj => by
  have hk := hg.block b hb hne
  rw [World.cell?_of_block (w := w) (a := ⟨b, o + j, none⟩) hk, World.frozen?_of_block (w := w) (a := ⟨b, o + j, none⟩) hk]; exact h j hj
theorem LsO.kept {w w' : World} {base r : Nat} {v : Value} {ss : List ByteArray} (h : LsO w base v ss) (hg : w.grownBy w' (some r)) (hr : r < base) : LsO w' base v ss := by
  obtain ⟨b, rfl, h1, ht, h0, h2, h3⟩ := h
  exact ⟨b, rfl, fun i s hs => hg.cell (h1 i s hs) (by simp; omega), there_kept ht hg h2 (by simp; omega), h0, Nat.lt_of_lt_of_le h2 hg.size, h3⟩
theorem LsO.low {w : World} {base base' : Nat} {v : Value} {ss : List ByteArray} (h : LsO w base v ss) (hb : base' ≤ base) : LsO w base' v ss := by
  obtain ⟨b, rfl, h1, ht, h0, h2⟩ := h
  exact ⟨b, rfl, h1, ht, by omega, h2⟩
/-- A batch's cells in block b, its lists behind b. -/
def BaO (w : World) (b o : Nat) (x : Ba) : Prop := ∃ hv nv, w.rangeAt b o [.string x.nm, hv, nv] ∧ LsO w (b + 1) hv x.has ∧ LsO w (b + 1) nv x.needs ∧ x.nm.size ≤ maxLen
theorem BaO.up {w w' : World} {b o : Nat} {x : Ba} (h : BaO w b o x) (hb : Below w.heap.size w w') (hlt : b < w.heap.size) : BaO w' b o x := by
  obtain ⟨hv, nv, hr, h1, h2, h3⟩ := h
  exact ⟨hv, nv, fun j v hv => (hb.cell (p := ⟨b, o + j, none⟩) hlt).trans (hr j v hv), h1.up hb, h2.up hb, h3⟩
theorem BaO.at {w : World} {b o : Nat} {x : Ba} (h : BaO w b o x) : BaAt w b o x := by
  obtain ⟨hv, nv, hr, h1, h2, h3⟩ := h
  exact ⟨hv, nv, hr, h1.ls, h2.ls, h3⟩
def BsOAt (w : World) (b : Nat) (bs : List Ba) : Prop := ∀ (i : Nat) (x : Ba), bs[i]? = some x → BaO w b (i * 3) x
theorem BsOAt.up {w w' : World} {b : Nat} {bs : List Ba} (h : BsOAt w b bs) (hb : Below w.heap.size w w') (hlt : b < w.heap.size) : BsOAt w' b bs := fun i x hx => (h i x hx).up hb hlt
theorem bsO_store {w1 : World} {b k : Nat} {bs : List Ba} {hv nv : Value} (hk : k < bs.length) (h : BsOAt w1 b (bs.take k)) (ht : w1.there b 0 (bs.length * 3)) (h1 : LsO w1 (b + 1) hv (bs[k]).has) (h2 : LsO w1 (b + 1) nv (bs[k]).needs) (h3 : (bs[k]).nm.size ≤ maxLen) :
    BsOAt (w1.setCells b (k * 3) [.string (bs[k]).nm, hv, nv]) b (bs.take (k + 1)) := by
  have hg : w1.grownBy (w1.setCells b (k * 3) [.string (bs[k]).nm, hv, nv]) (some b) := grown_copies b _ _ w1 w1 (some b) (World.grownBy.refl' w1) rfl
  intro i p hp
  by_cases hi : i < k
  · obtain ⟨hv', nv', hr, g1, g2, g3⟩ := h i p (by rw [List.getElem?_take] at hp ⊢; rw [if_pos (by omega)] at hp; rw [if_pos hi]; exact hp)
    refine ⟨hv', nv', World.rangeAt_setCells_apart hr b (k * 3) _ (.inr (.inl ?_)), g1.kept hg (by omega), g2.kept hg (by omega), g3⟩
    simp; omega
  · have hik : i = k := by
      rw [List.getElem?_take] at hp
      split at hp
      · omega
      · cases hp
    subst hik
    rw [List.getElem?_take, if_pos (by omega), List.getElem?_eq_getElem hk] at hp
    obtain rfl := Option.some.inj hp
    refine ⟨hv, nv, World.rangeAt_setCells_same _ _ _ _ (fun j hj => ?_), h1.kept hg (by omega), h2.kept hg (by omega), h3⟩
    have := ht (i * 3 + j) (by simp at hj; omega)
    simpa using this
/-- Batches in a block of their own; a book of its own. -/
def BsO (w : World) (base : Nat) (v : Value) (bs : List Ba) : Prop := ∃ b, v = .slice (some ⟨b, 0, none⟩) bs.length bs.length ∧ BsOAt w b bs ∧ w.there b 0 (bs.length * 3) ∧ base ≤ b ∧ b < w.heap.size ∧ bs.length ≤ maxLen
theorem BsO.bs {w : World} {base : Nat} {v : Value} {bs : List Ba} (h : BsO w base v bs) : Bs w v bs := by
  obtain ⟨b, rfl, h1, -, -, h2, h3⟩ := h
  exact ⟨_, _, rfl, h3, fun _ => ⟨b, 0, rfl, fun i x hx => by rw [Nat.zero_add]; exact (h1 i x hx).at, h2⟩⟩
theorem BsO.up {w w' : World} {base : Nat} {v : Value} {bs : List Ba} (h : BsO w base v bs) (hb : Below w.heap.size w w') : BsO w' base v bs := by
  obtain ⟨b, rfl, h1, ht, h0, h2, h3⟩ := h
  exact ⟨b, rfl, h1.up hb h2, there_up ht hb h2, h0, Nat.lt_of_lt_of_le h2 hb.size, h3⟩
def BkO (w : World) (base : Nat) (v : Value) (b : Bk) : Prop := ∃ tv bv mid, v = .agg #[tv, bv] ∧ LsO w base tv b.things ∧ BsO w mid bv b.bs ∧ base ≤ mid ∧ ∀ g, tv.ownBlock = some g → g < mid
theorem BkO.bk {w : World} {base : Nat} {v : Value} {b : Bk} (h : BkO w base v b) : BkV w v b := by
  obtain ⟨tv, bv, mid, rfl, h1, h2, -⟩ := h
  exact ⟨tv, bv, rfl, h1.ls, h2.bs⟩
theorem BkO.up {w w' : World} {base : Nat} {v : Value} {b : Bk} (h : BkO w base v b) (hb : Below w.heap.size w w') : BkO w' base v b := by
  obtain ⟨tv, bv, mid, rfl, h1, h2, r⟩ := h
  exact ⟨tv, bv, mid, rfl, h1.up hb, h2.up hb, r⟩
end Go.Proofs.Ytkapodkidlgkjaf
