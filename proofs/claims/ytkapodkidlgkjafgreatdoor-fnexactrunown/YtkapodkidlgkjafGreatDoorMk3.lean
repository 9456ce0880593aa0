/- The laws mark a recipe. -/
import Derived.Test.YtkapodkidlgkjafGreatDoorMk2
import Derived.Test.YtkapodkidlgkjafGreatDoorJ13
import Derived.Test.YtkapodkidlgkjafGreatDoorJ6
namespace Go.Proofs.YtkapodkidlgkjafGreatDoor
open Go.RowKit

theorem cell_there {w : World} {b n j : Nat} (h : w.there b 0 n) (hj : j < n) : (∃ x, w.cell? ⟨b, j, none⟩ = some x) ∧ w.frozen? ⟨b, j, none⟩ = false := by
  have := h j hj
  rw [Nat.zero_add] at this
  exact ⟨Option.isSome_iff_exists.1 this.1, this.2⟩
theorem there_low {w w' : World} {b n : Nat} (h : w.there b 0 n) (hb : Below w.heap.size w w') (hlt : b < w.heap.size) : w'.there b 0 n := there_up h hb hlt

/-- While a recipe is marked. -/
def MkS (w0 w : World) (b N : Nat) : Prop := w.there b 0 (N * 8) ∧ b < w.heap.size ∧ w0.grownBy w (some b)
theorem MkS.set {w0 w : World} {b N : Nat} (h : MkS w0 w b N) (off : Nat) (u : Value) : MkS w0 (w.setCell ⟨b, off, none⟩ u) b N :=
  ⟨there_set h.1, by simpa using h.2.1, grown_setCell h.2.2 u⟩
theorem MkS.below {w0 w w' : World} {b N : Nat} (h : MkS w0 w b N) (hB : Below w.heap.size w w') : MkS w0 w' b N :=
  ⟨there_low h.1 hB h.2.1, Nat.lt_of_lt_of_le h.2.1 hB.size, grown_trans h.2.2 (grown_below hB)⟩

set_option maxRecDepth 20000 in
set_option maxHeartbeats 4000000 in
theorem markP_any (N b c : Nat) (w : World) (ht : w.there b 0 (N * 8)) (hb : b < w.heap.size) (hN : N ≤ 1048576) :
    Calls Tryz.prog 32 #[.slice (some ⟨b, 0, none⟩) N c, .int .i64 1] w fun e w' => (∃ x : Int, e = .returned (.int .i64 x) ∧ 0 ≤ x ∧ x ≤ 9000000) ∧ w.grownBy w' (some b) := by
  go_enter Tryz.func32, Tryz.ntmps32
  go_wp2
  go_loopw [1, 5] (fun kk i w' => ∃ k : Nat, k ≤ N ∧ i = .int .i64 k ∧ kk = .int .i64 (1 + 8 * (k : Int)) ∧ w'.there b 0 (N * 8) ∧ b < w'.heap.size ∧ w.grownBy w' (some b)) (fun _ i _ => N - (intOf i).toNat)
  case atStart => exact ⟨0, by omega, rfl, by simp, ht, hb, grown_refl _ _⟩
  case round =>
    clear ht
    obtain ⟨k, hk, rfl, rfl, ht, hbw, hG⟩ := hrel
    by_cases hp : k < N
    · have hS0 : MkS w wr b N := ⟨ht, hbw, hG⟩
      clear ht hbw hG
      go_wp2_with fail
      refine (mark_any _ _ (by omega)).mono ?_
      rintro e w1 ⟨rfl, hB1⟩
      have hS1 := hS0.below hB1
      clear hB1 hS0
      obtain ⟨⟨x0, c0⟩, f0⟩ := cell_there hS1.1 (j := k * 8) (by omega)
      obtain ⟨⟨x1, c1⟩, f1⟩ := cell_there hS1.1 (j := k * 8 + 1) (by omega)
      generalize mkB _ = s1 at *
      have hT1 := ((hS1.set (k * 8) (.string s1)).set (k * 8 + 1) (.int .i64 (1 + 8 * (k : Int) + 1)))
      go_wp2_with fail
      refine (mark_any _ _ (by omega)).mono ?_
      rintro e w2 ⟨rfl, hB2⟩
      have hS2 := hT1.below hB2
      clear hB2 hT1
      obtain ⟨⟨x2, c2⟩, f2⟩ := cell_there hS2.1 (j := k * 8 + 2) (by omega)
      generalize mkB _ = s2 at *
      have hT2 := (hS2.set (k * 8 + 2) (.string s2))
      go_wp2_with fail
      refine (mark_any _ _ (by omega)).mono ?_
      rintro e w3 ⟨rfl, hB3⟩
      have hS3 := hT2.below hB3
      clear hB3 hT2
      obtain ⟨⟨x3, c3⟩, f3⟩ := cell_there hS3.1 (j := k * 8 + 3) (by omega)
      obtain ⟨⟨x4, c4⟩, f4⟩ := cell_there hS3.1 (j := k * 8 + 4) (by omega)
      obtain ⟨⟨x5, c5⟩, f5⟩ := cell_there hS3.1 (j := k * 8 + 5) (by omega)
      generalize mkB _ = s3 at *
      have hT3 := (((hS3.set (k * 8 + 3) (.string s3)).set (k * 8 + 4) (.int .i64 (1 + 8 * (k : Int) + 1 + 1 + 1 + 1))).set (k * 8 + 5) (.int .i64 (1 + 8 * (k : Int) + 1 + 1 + 1 + 1 + 1)))
      go_wp2_with fail
      refine (mark_any _ _ (by omega)).mono ?_
      rintro e w4 ⟨rfl, hB4⟩
      have hS4 := hT3.below hB4
      clear hB4 hT3
      obtain ⟨⟨x6, c6⟩, f6⟩ := cell_there hS4.1 (j := k * 8 + 6) (by omega)
      generalize mkB _ = s4 at *
      have hT4 := (hS4.set (k * 8 + 6) (.string s4))
      go_wp2_with fail
      refine (mark_any _ _ (by omega)).mono ?_
      rintro e w5 ⟨rfl, hB5⟩
      have hS5 := hT4.below hB5
      clear hB5 hT4
      obtain ⟨⟨x7, c7⟩, f7⟩ := cell_there hS5.1 (j := k * 8 + 7) (by omega)
      generalize mkB _ = s5 at *
      have hT5 := (hS5.set (k * 8 + 7) (.string s5))
      go_wp2_with fail
      go_roundw
      case rel => exact ⟨k + 1, by omega, by go_num, by go_num, hT5.1, hT5.2.1, hT5.2.2⟩
      case measure => simp [intOf]; omega
    · go_wp2_with fail
      go_ret
      exact ⟨⟨_, rfl, by omega, by omega⟩, hG⟩
end Go.Proofs.YtkapodkidlgkjafGreatDoor
