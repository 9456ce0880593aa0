/- The laws mark a batch. -/
import Derived.Test.YtkapodkidlgkjafGreatDoorLawU2
import Derived.Test.YtkapodkidlgkjafGreatDoorMk3
namespace Go.Proofs.YtkapodkidlgkjafGreatDoor
open Go.RowKit

/-- While slots are marked. -/
def MkL (w0 w : World) (b N : Nat) : Prop := w.there b 0 (N * 2) ∧ b < w.heap.size ∧ w0.grownBy w (some b)
theorem MkL.set {w0 w : World} {b N : Nat} (h : MkL w0 w b N) (off : Nat) (u : Value) : MkL w0 (w.setCell ⟨b, off, none⟩ u) b N :=
  ⟨there_set h.1, by simpa using h.2.1, grown_setCell h.2.2 u⟩
theorem MkL.below {w0 w w' : World} {b N : Nat} (h : MkL w0 w b N) (hB : Below w.heap.size w w') : MkL w0 w' b N :=
  ⟨there_low h.1 hB h.2.1, Nat.lt_of_lt_of_le h.2.1 hB.size, grown_trans h.2.2 (grown_below hB)⟩
set_option maxRecDepth 20000 in
set_option maxHeartbeats 4000000 in
theorem markL_any (N b c : Nat) (m : Int) (w : World) (ht : w.there b 0 (N * 2)) (hb : b < w.heap.size) (hN : N ≤ 1048576) (hm : 0 ≤ m) (hm9 : m ≤ 9000000) :
    Calls Tryz.prog 33 #[.slice (some ⟨b, 0, none⟩) N c, .int .i64 m] w fun e w' => (∃ x : Int, e = .returned (.int .i64 x) ∧ 0 ≤ x) ∧ w.grownBy w' (some b) := by
  go_enter Tryz.func33, Tryz.ntmps33
  go_wp2
  go_loopw [1, 5] (fun kk i w' => ∃ k : Nat, k ≤ N ∧ i = .int .i64 k ∧ kk = .int .i64 (m + 2 * (k : Int)) ∧ w'.there b 0 (N * 2) ∧ b < w'.heap.size ∧ w.grownBy w' (some b)) (fun _ i _ => N - (intOf i).toNat)
  case atStart => exact ⟨0, by omega, rfl, by simp, ht, hb, grown_refl _ _⟩
  case round =>
    clear ht
    obtain ⟨k, hk, rfl, rfl, ht, hbw, hG⟩ := hrel
    by_cases hp : k < N
    · have hS0 : MkL w wr b N := ⟨ht, hbw, hG⟩
      clear ht hbw hG
      go_wp2_with fail
      refine (mark_any _ _ (by omega)).mono ?_
      rintro e w1 ⟨rfl, hB1⟩
      have hS1 := hS0.below hB1
      clear hB1 hS0
      obtain ⟨⟨x0, c0⟩, f0⟩ := cell_there hS1.1 (j := k * 2) (by omega)
      generalize mkB _ = s1 at *
      have hT1 := hS1.set (k * 2) (.string s1)
      go_wp2_with fail
      refine (mark_any _ _ (by omega)).mono ?_
      rintro e w2 ⟨rfl, hB2⟩
      have hS2 := hT1.below hB2
      clear hB2 hT1
      obtain ⟨⟨x1, c1⟩, f1⟩ := cell_there hS2.1 (j := k * 2 + 1) (by omega)
      generalize mkB _ = s2 at *
      have hT2 := hS2.set (k * 2 + 1) (.string s2)
      go_wp2_with fail
      go_roundw
      case rel => exact ⟨k + 1, by omega, by go_num, by go_num, hT2.1, hT2.2.1, hT2.2.2⟩
      case measure => simp [intOf]; omega
    · go_wp2_with fail
      go_ret
      exact ⟨⟨_, rfl, by omega⟩, hG⟩

/-- Nothing has turned but two blocks, and what is new. -/
def But2 (w w' : World) (b1 b2 : Nat) : Prop := ∃ m, w.grownBy m (some b1) ∧ ∃ m', m.grownBy m' (some b2) ∧ m' = w'
set_option maxRecDepth 20000 in
set_option maxHeartbeats 4000000 in
theorem markRb_any (x : Rb) (b1 b2 base : Nat) (w : World) (h : RbO w base x b1 b2) (np : x.ps.length ≤ 1048576) (ns : x.sl.length ≤ 1048576) :
    Calls Tryz.prog 13 #[.agg #[.string x.nm, .slice (some ⟨b1, 0, none⟩) x.ps.length x.ps.length, .slice (some ⟨b2, 0, none⟩) x.sl.length x.sl.length, .string x.ad, .int .i64 x.si, .int .i64 x.st], .int .i64 1] w fun e w' => (∃ y : Int, e = .returned (.int .i64 y) ∧ 0 ≤ y) ∧ ∃ m1 m2, Below w.heap.size w m1 ∧ m1.grownBy m2 (some b1) ∧ m2.grownBy w' (some b2) := by
  go_enter Tryz.func13, Tryz.ntmps13
  go_upto_region 1 with fail
  obtain ⟨W1, hW1, kP, hB1, hs1⟩ : ∃ W1, w.alloc (.cells #[.string x.nm, .slice (some ⟨b1, 0, none⟩) x.ps.length x.ps.length, .slice (some ⟨b2, 0, none⟩) x.sl.length x.sl.length, .string x.ad, .int .i64 x.si, .int .i64 x.st] 32) = W1 ∧ CB W1 w.heap.size (#[.string x.nm, .slice (some ⟨b1, 0, none⟩) x.ps.length x.ps.length, .slice (some ⟨b2, 0, none⟩) x.sl.length x.sl.length, .string x.ad, .int .i64 x.si, .int .i64 x.st]).toList ∧ Below w.heap.size w W1 ∧ W1.heap.size = w.heap.size + 1 := ⟨_, rfl, cb1 w (#[.string x.nm, .slice (some ⟨b1, 0, none⟩) x.ps.length x.ps.length, .slice (some ⟨b2, 0, none⟩) x.sl.length x.sl.length, .string x.ad, .int .i64 x.si, .int .i64 x.st]).toList _⟩
  rw [hW1]
  clear hW1
  obtain ⟨d0, d1, d2, d3, d4, d5⟩ := kP.c6
  have h1 := h.up hB1
  have hl1 := h.r.2.2
  have hl2 := h.s.2.2
  have hl12 := h.l2
  go_wp2_with fail
  refine (markP_any x.ps.length b1 _ _ h1.r.2.1 h1.r.2.2 np).mono ?_
  rintro e w2 ⟨⟨y2, rfl, hy0, hy9⟩, hg2⟩
  have hc2 : w2.cell? ⟨w.heap.size, 2, none⟩ = some (.slice (some ⟨b2, 0, none⟩) x.sl.length x.sl.length) := hg2.cell d2 (by simp; omega)
  have ht2 : w2.there b2 0 (x.sl.length * 2) := fun j hj => by
    have hbk := hg2.block b2 h1.s.2.2 (by simp; omega)
    rw [World.cell?_of_block (w := W1) (a := ⟨b2, 0 + j, none⟩) hbk, World.frozen?_of_block (w := W1) (a := ⟨b2, 0 + j, none⟩) hbk]
    exact h1.s.2.1 j hj
  have hb2 : b2 < w2.heap.size := Nat.lt_of_lt_of_le h1.s.2.2 hg2.size
  clear d0 d1 d2 d3 d4 d5
  go_wp2_with fail
  refine (markL_any x.sl.length b2 _ _ _ ht2 hb2 ns hy0 hy9).mono ?_
  rintro e w3 ⟨⟨y3, rfl, hy3⟩, hg3⟩
  clear hc2
  go_wp2_with fail
  go_ret
  exact ⟨⟨_, rfl, hy3⟩, W1, w2, hB1, hg2, hg3⟩
end Go.Proofs.YtkapodkidlgkjafGreatDoor
