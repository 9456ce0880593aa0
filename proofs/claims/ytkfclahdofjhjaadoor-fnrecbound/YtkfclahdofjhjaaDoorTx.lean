/- Lists of texts: handed about, of one's own. -/
import Derived.Test.YtkfclahdofjhjaaDoorRg
import Derived.Test.YtkfclahdofjhjaaDoorWx
namespace Go.Proofs.YtkfclahdofjhjaaDoor
open Go.RowKit

/-- A list of texts, handed about as a slice. -/
def Txt (w : World) (v : Value) (ss : List ByteArray) : Prop := ∃ g c, v = .slice (some ⟨g, 0, none⟩) ss.length c ∧ StrsAt w g 0 ss ∧ g < w.heap.size ∧ ss.length ≤ c ∧ c ≤ maxLen
theorem Txt.up {w w' : World} {v : Value} {ss : List ByteArray} (h : Txt w v ss) (hb : Below w.heap.size w w') : Txt w' v ss := by
  obtain ⟨g, c, rfl, hS, hg, r⟩ := h
  exact ⟨g, c, rfl, fun i s hs => (hb.cell (p := ⟨g, 0 + i, none⟩) hg).trans (hS i s hs), Nat.lt_of_lt_of_le hg hb.size, r⟩
theorem Txt.own {w : World} {base e n : Nat} {v : Value} {ss : List ByteArray} (h : w.ownsRow base e 1 v n (ss.map Value.string)) (hn : ss.length = n) (hv : ∃ g c, v = .slice (some ⟨g, 0, none⟩) n c) : Txt w v ss := by
  obtain ⟨g, c, rfl⟩ := hv
  refine ⟨g, c, by rw [hn], strs_of_own h hn, (h.lt g rfl).2, ?_, ?_⟩
  · rcases h.2 with ⟨h0, _⟩ | ⟨g', cap', cur, h', _, _, hc, _⟩
    · cases h0
    · cases h'; omega
  · rcases h.2 with ⟨h0, _⟩ | ⟨g', cap', cur, h', _, _, _, hc, _⟩
    · cases h0
    · cases h'; exact hc
theorem below_own {w W W' : World} {base e size n : Nat} {v : Value} {xs : List Value} (h : Below w.heap.size w W) (hown : W.ownsRow base e size v n xs) (hg : W.grownBy W' v.ownBlock) (hk : w.heap.size ≤ base) : Below w.heap.size w W' :=
  { os := hg.os.trans h.os, tape := hg.tape.trans h.tape, output := hg.output.trans h.output, size := Nat.le_trans h.size hg.size, block := fun i hi => (hg.block i (Nat.lt_of_lt_of_le hi h.size) (own_ne hown (by omega))).trans (h.block i hi) }
theorem one_new (w : World) (s : ByteArray) (t : TypeId) : ∀ (j : Nat) (u : Value), [Value.string s][j]? = some u → (w.alloc (.cells #[.string s] t)).cell? ((⟨w.heap.size, 0, none⟩ : Addr).add j) = some u := fun j u hj => by
  match j, hj with
  | 0, hj => simp at hj; subst hj; simp [Addr.add]
theorem one_old {w : World} {b : Nat} {s : ByteArray} (h : w.cell? ⟨b, 0, none⟩ = some (.string s)) : ∀ (j : Nat) (u : Value), [Value.string s][j]? = some u → w.cell? ((⟨b, 0, none⟩ : Addr).add j) = some u := fun j u hj => by
  match j, hj with
  | 0, hj => simp at hj; subst hj; rw [Addr.add_mid]; exact h
theorem oneV (s : ByteArray) : ∀ u ∈ [Value.string s], u.oneCell' = true := fun u hu => by simp at hu; subst hu; rfl
def Lst (w : World) (v : Value) (ss : List ByteArray) : Prop := (v = .slice none 0 0 ∧ ss = []) ∨ Txt w v ss
theorem Lst.up {w w' : World} {v : Value} {ss : List ByteArray} (h : Lst w v ss) (hb : Below w.heap.size w w') : Lst w' v ss := by
  rcases h with h | h
  · exact .inl h
  · exact .inr (h.up hb)
/-- The names of a list, whatever it is. -/
theorem Lst.shape {w : World} {v : Value} {ss : List ByteArray} (h : Lst w v ss) : ∃ a c, v = .slice a ss.length c := by
  rcases h with ⟨rfl, rfl⟩ | ⟨g, c, rfl, _⟩
  · exact ⟨none, 0, rfl⟩
  · exact ⟨_, _, rfl⟩
/-- A list of its own. -/
def OwnT (w : World) (base : Nat) (u : Value) (ss : List ByteArray) : Prop := w.ownsRow base 9 1 u ss.length (ss.map Value.string)
theorem OwnT.lst {w : World} {base : Nat} {u : Value} {ss : List ByteArray} (h : OwnT w base u ss) : Lst w u ss := by
  rcases h.2 with ⟨h0, h1⟩ | ⟨g, cap, cur, hv, _⟩
  · exact .inl ⟨h0, List.length_eq_zero_iff.1 h1⟩
  · exact .inr (Txt.own h rfl ⟨g, cap, hv⟩)
theorem below_gr {w a b : World} {x : Nat} (h : Below w.heap.size w a) (hg : a.grownBy b (some x)) (hx : w.heap.size ≤ x) : Below w.heap.size w b :=
  { os := hg.os.trans h.os, tape := hg.tape.trans h.tape, output := hg.output.trans h.output, size := Nat.le_trans h.size hg.size, block := fun i hi => (hg.block i (Nat.lt_of_lt_of_le hi h.size) (by simp; omega)).trans (h.block i hi) }
theorem Lst.grown {w w' : World} {r : Option Nat} {v : Value} {ss : List ByteArray} (h : Lst w v ss) (hg : w.grownBy w' r) (hne : ∀ g, v.ownBlock = some g → some g ≠ r) : Lst w' v ss := by
  rcases h with h | ⟨g, c, rfl, hS, hlt, rest⟩
  · exact .inl h
  · exact .inr ⟨g, c, rfl, fun i s hs => hg.cell (hS i s hs) (hne g rfl), Nat.lt_of_lt_of_le hlt hg.size, rest⟩
theorem Lst.lt {w : World} {v : Value} {ss : List ByteArray} (h : Lst w v ss) : ∀ g, v.ownBlock = some g → g < w.heap.size := by
  intro g hg
  rcases h with ⟨rfl, _⟩ | ⟨g', c, rfl, _, hlt, _⟩
  · simp [Value.ownBlock] at hg
  · simp [Value.ownBlock] at hg; omega
theorem OwnT.up {w w' : World} {base : Nat} {u : Value} {ss : List ByteArray} (h : OwnT w base u ss) (hb : Below w.heap.size w w') : OwnT w' base u ss := own_up h hb
end Go.Proofs.YtkfclahdofjhjaaDoor
