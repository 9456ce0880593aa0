/- The laws' marks over a list of texts of its own. -/
import Derived.Test.YtkapodkidlgkjafMk1
import Derived.Test.YtkapodkidlgkjafLawK0
namespace Go.Proofs.Ytkapodkidlgkjaf
open Go.RowKit

/-- What could be written can be written still. -/
def Thr (w w' : World) : Prop := ∀ b n, b < w.heap.size → w.there b 0 n → w'.there b 0 n
theorem Thr.trans {a b c : World} (h : Thr a b) (hz : a.heap.size ≤ b.heap.size) (k : Thr b c) : Thr a c := fun x n hx ht => k x n (Nat.lt_of_lt_of_le hx hz) (h x n hx ht)
theorem thr_up {w w' : World} (hb : Below w.heap.size w w') : Thr w w' := fun _ _ hx ht => there_up ht hb hx
theorem thr_set {w : World} {b j : Nat} {u : Value} : Thr w (w.setCell ⟨b, j, none⟩ u) := fun x n _ ht => by
  have := World.there_setCells ht b j [u]
  simpa [World.setCells] using this

set_option maxHeartbeats 1000000 in
theorem mkLs_any (N bb : Nat) (m : Int) (w : World) (ht : w.there bb 0 N) (hb : bb < w.heap.size) (hN : N ≤ 1048576) (hm : 1 ≤ m) (hm9 : m ≤ 4000000000000) :
    Calls Try.prog 10 #[.slice (some ⟨bb, 0, none⟩) N N, .int .i64 m] w fun e w' => e = .returned (.int .i64 (m + N)) ∧ w.grownBy w' (some bb) ∧ Thr w w' := by
  go_enter Try.func10, Try.ntmps10
  go_wp2
  go_loopw [1, 5] (fun kk i w' => ∃ k : Nat, k ≤ N ∧ i = .int .i64 k ∧ kk = .int .i64 (m + k) ∧ w.grownBy w' (some bb) ∧ Thr w w') (fun _ i _ => N - (intOf i).toNat)
  case atStart => exact ⟨0, by omega, rfl, by simp, grown_refl _ _, fun _ _ _ h => h⟩
  case round =>
    obtain ⟨k, hk, rfl, rfl, hG, hR⟩ := hrel
    by_cases hp : k < N
    · go_wp2_with fail
      refine (mark_any (m + k) wr (by omega)).mono ?_
      rintro e w1 ⟨rfl, hB1⟩
      have hz := hG.size
      have hG1 := grown_trans hG (grown_below (r := some bb) hB1)
      have hR1 := hR.trans hz (thr_up hB1)
      have hc := hR1 bb N hb ht k hp
      rw [Nat.zero_add] at hc
      obtain ⟨x0, c0⟩ := Option.isSome_iff_exists.1 hc.1
      have f0 := hc.2
      have hz1 := hG1.size
      have hR2 : Hid (Thr w (w1.setCell ⟨bb, k, none⟩ (.string (mkB (m + k))))) := hR1.trans hz1 thr_set
      have hG2 := grown_setCell (off := k) hG1 (.string (mkB (m + k)))
      clear hG hR hB1 hR1 hc hG1
      generalize mkB (m + k) = mb at *
      go_wp2_with fail
      go_roundw
      case rel => exact ⟨k + 1, by omega, by go_num, by go_num, hG2, hR2.out⟩
      case measure => simp [intOf]; omega
    · obtain rfl : k = N := by omega
      go_wp2_with fail
      go_ret
      exact ⟨rfl, hG, hR⟩
end Go.Proofs.Ytkapodkidlgkjaf
