/- Drawing a phase: what is at hand. -/
import Derived.Test.YtkfclahdofjhjahDoorDq
import Derived.Deep.DeepCutAuto
namespace Go.Proofs.YtkfclahdofjhjahDoor
open Go.RowKit

theorem grown_setNew {a b : World} {r : Option Nat} {pb off : Nat} (h : a.grownBy b r) (hp : a.heap.size ≤ pb) (u : Value) : a.grownBy (b.setCell ⟨pb, off, none⟩ u) r :=
  ⟨h.os, h.tape, h.output, by simpa using h.size, fun i hi hr => (Below.heap_setCell _ _ _ _ (by simp; omega)).trans (h.block i hi hr)⟩
def Ph.sz (p : Ph) : Prop := p.nm.size ≤ maxLen ∧ p.a.size ≤ maxLen ∧ p.b.size ≤ maxLen ∧ p.t.size ≤ maxLen ∧ p.e.size ≤ maxLen ∧ -5000 ≤ p.wi ∧ p.wi ≤ 5000
theorem sz0 : (⟨#[]⟩ : ByteArray).size ≤ maxLen := by unfold maxLen; decide

theorem infoStr : (Tryd.prog.info? 9).map (fun i => (i.zero, i.size, i.bytes)) = some (some (.string ⟨#[]⟩), 1, 16) := by kernel_rfl
theorem StrsAt.alloc {w : World} {g o : Nat} {ss : List ByteArray} (h : StrsAt w g o ss) (ob : Obj) : StrsAt (w.alloc ob) g o ss := fun i s hs => by
  have := h i s hs
  rw [World.cell?_alloc_lt _ _ _ (World.block_lt_of_cell? w _ this)]; exact this
theorem news_of {w : World} {g o : Nat} {ss : List ByteArray} (h : StrsAt w g o ss) : ∀ (j : Nat) (u : Value), (ss.map Value.string)[j]? = some u → w.cell? ((⟨g, o, none⟩ : Addr).add j) = some u := fun j u hu => by
  rw [List.getElem?_map, Option.map_eq_some_iff] at hu
  obtain ⟨s, hs, rfl⟩ := hu
  rw [Addr.add_mid]; exact h j s hs
theorem oneS (ss : List ByteArray) : ∀ u ∈ ss.map Value.string, u.oneCell' = true := fun u hu => by
  obtain ⟨s, _, rfl⟩ := List.mem_map.1 hu; rfl

def stuffL : List ByteArray := [⟨#[97, 108, 101]⟩, ⟨#[109, 97, 108, 116]⟩]
def endsL : List ByteArray := [⟨#[103, 111, 111, 100]⟩, ⟨#[115, 97, 118, 101, 100]⟩, ⟨#[115, 99, 114, 97, 112, 112, 101, 100]⟩]
theorem own_ptr2 {w : World} {base e size n : Nat} {v : Value} {xs : List Value} (h : w.ownsRow base e size v n xs) (hn : 0 < n) : ∃ g cap, v = .slice (some ⟨g, 0, none⟩) n cap := by
  rcases h.2 with ⟨_, h0⟩ | ⟨g, cap, _, hv, _⟩
  · omega
  · exact ⟨g, cap, hv⟩
theorem strs_of_own {w : World} {base e g n cap : Nat} {ss : List ByteArray} (h : w.ownsRow base e 1 (.slice (some ⟨g, 0, none⟩) n cap) n (ss.map Value.string)) (hn : ss.length = n) : StrsAt w g 0 ss := fun i s hs => by
  have hi : i < ss.length := (List.getElem?_eq_some_iff.1 hs).1
  rw [Nat.zero_add, h.cellAt i (by omega), List.getElem?_map, hs]; rfl
theorem Rd.row {w w' : World} {rb len N k : Nat} {v : Value} (h : Rd w rb v len N) (hg : w.grownBy w' (some k)) (hk : rb < k) : Rd w' rb v len N := by
  have hlt := h.lt
  obtain ⟨p, hp, c0, c1, f1, ⟨a, cap, hv, hb⟩, hl⟩ := h
  have hbl := hg.block rb hlt (by simp; omega)
  refine ⟨p, hp, (World.cell?_of_block (w := w) (a := ⟨rb, 0, none⟩) hbl).trans c0, (World.cell?_of_block (w := w) (a := ⟨rb, 1, none⟩) hbl).trans c1, (World.frozen?_of_block (w := w) (a := ⟨rb, 1, none⟩) hbl).trans f1, ⟨a, cap, hv, ?_⟩, hl⟩
  rcases hb with hb | ⟨b, o, z, ha, h1, hz⟩
  · exact .inl hb
  · exact .inr ⟨b, o, z, ha, h1, fun i hi => ⟨hg.cell (hz i hi).1 (by simp; omega), (hz i hi).2⟩⟩
theorem grown_new {a b c : World} {r : Option Nat} {k : Nat} (h : a.grownBy b r) (hg : b.grownBy c (some k)) (hk : a.heap.size ≤ k) : a.grownBy c r :=
  ⟨hg.os.trans h.os, hg.tape.trans h.tape, hg.output.trans h.output, Nat.le_trans h.size hg.size, fun i hi hr => (hg.block i (Nat.lt_of_lt_of_le hi h.size) (by simp; omega)).trans (h.block i hi hr)⟩

theorem StrsAt.other {w : World} {g o pb off : Nat} {u : Value} {ss : List ByteArray} (h : StrsAt w g o ss) (hne : g ≠ pb) : StrsAt (w.setCell ⟨pb, off, none⟩ u) g o ss := fun i s hs => by
  rw [World.cell?_setCell_other _ _ _ _ (by simp <;> omega)]; exact h i s hs
theorem sz_app {later : List ByteArray} (h : SzS later) : ∀ s ∈ endsL ++ later, s.size ≤ maxLen := fun s hs => by
  rcases List.mem_append.1 hs with hs | hs
  · exact sz_lit (ss := endsL) (by decide) s hs
  · exact h s hs

end Go.Proofs.YtkfclahdofjhjahDoor
