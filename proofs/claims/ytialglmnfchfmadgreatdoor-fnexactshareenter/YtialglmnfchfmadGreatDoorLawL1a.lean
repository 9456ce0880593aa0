/- What the laws of chapter 13 with a list lean on. -/
import Derived.Test.YtialglmnfchfmadGreatDoorK31
import Derived.Test.YtialglmnfchfmadGreatDoorK17
namespace Go.Proofs.YtialglmnfchfmadGreatDoor
open Go.RowKit

theorem BkG.gr {w w' : World} {base r : Nat} {q : Option Nat} {v : Value} {b : Bk} (h : BkG w base q v b) (hg : w.grownBy w' (some r)) (hr : r < base) : BkG w' base q v b := by
  obtain ⟨a1, c1, a2, c2, ps, e, h1, h2, h3, h4⟩ := h
  exact ⟨a1, c1, a2, c2, ps, e, ⟨own_grown h1.1 hg hr, fun p hp => ⟨own_grown (h1.2 p hp).1 hg hr, own_grown (h1.2 p hp).2.1 hg hr, (h1.2 p hp).2.2⟩⟩, h2, h3.gr hg hr, h4⟩
theorem LsO.got {w : World} {base : Nat} {v : Value} {ss : List ByteArray} (h : LsO w base v ss) : ∃ b, v = .slice (some ⟨b, 0, none⟩) ss.length ss.length ∧ w.there b 0 ss.length ∧ base ≤ b ∧ b < w.heap.size := by
  obtain ⟨b, e, -, ht, h0, h1, -⟩ := h
  exact ⟨b, e, ht, h0, h1⟩
theorem there_blk {w w' : World} {b n : Nat} (h : w.there b 0 n) (hb : w'.heap[b]? = w.heap[b]?) : w'.there b 0 n := fun j hj => by
  have := h j hj
  rwa [World.cell?_of_block (w := w) (a := ⟨b, 0 + j, none⟩) hb, World.frozen?_of_block (w := w) (a := ⟨b, 0 + j, none⟩) hb]
theorem below_gr2 {w w' : World} {B r : Nat} (hg : w.grownBy w' (some r)) (hB : B ≤ w.heap.size) (hr : B ≤ r) : Below B w w' := ⟨hg.os, hg.tape, hg.output, hg.size, fun i hi => hg.block i (by omega) (by simp; omega)⟩
end Go.Proofs.YtialglmnfchfmadGreatDoor
