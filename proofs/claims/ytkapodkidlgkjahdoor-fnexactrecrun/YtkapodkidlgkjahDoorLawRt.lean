/- The laws' own helpers over lists of says: alike, marked. -/
import Derived.Test.YtkapodkidlgkjahDoorLawRs
import Derived.Deep.RegionWith
namespace Go.Proofs.YtkapodkidlgkjahDoor
open Go.RowKit

theorem eqSay_any (y : Sy) (w : World) : Calls Tryd.prog 60 #[.agg #[.int .i64 (y).t, .bool (y).well], .agg #[.int .i64 (y).t, .bool (y).well]] w fun e w' => e = .returned (.bool true) ∧ Below w.heap.size w w' := by
  go_enter Tryd.func60, Tryd.ntmps60
  go_wp2
  go_ret
  exact ⟨rfl, by go_grown⟩

set_option maxHeartbeats 1000000 in
theorem eqY_any (ys : List Sy) (b b2 cA cB : Nat) (w : World) (hr : SayAt w b 0 ys) (hb : b < w.heap.size) (hr2 : SayAt w b2 0 ys) (hb2 : b2 < w.heap.size) (hn : ys.length ≤ 1048576) :
    Calls Tryd.prog 28 #[.slice (some ⟨b, 0, none⟩) ys.length cA, .slice (some ⟨b2, 0, none⟩) ys.length cB] w fun e w' => e = .returned (.bool true) ∧ Below w.heap.size w w' := by
  go_enter Tryd.func28, Tryd.ntmps28
  go_wp2
  go_loopw [5] (fun i w' => ∃ k : Nat, k ≤ ys.length ∧ i = .int .i64 k ∧ Below w.heap.size w w') (fun i _ => ys.length - (intOf i).toNat)
  case atStart => exact ⟨0, by omega, rfl, Below.refl _ _⟩
  case round =>
    obtain ⟨k, hk, rfl, hB⟩ := hrel
    by_cases hp : k < ys.length
    · obtain ⟨c0, c1⟩ := hr.cells k hp
      obtain ⟨d0, d1⟩ := hr2.cells k hp
      simp only [Nat.zero_add] at c0 c1 d0 d1
      obtain ⟨hc, hf⟩ := bcell hB
      go_wp2_with fail
      go_region_with (go_at_call 60; refine (eqSay_any ys[k] _).mono ?_; rintro e w1 ⟨rfl, hb1⟩)
      all_goals
        have hB1 := up_trans hB.drew hb1
        clear hc hf c0 c1 d0 d1
        go_wp2_with fail
        go_roundw
        case rel => exact ⟨k + 1, by omega, by go_num, hB1⟩
        case measure => simp [intOf]; omega
    · go_wp2_with fail
      go_ret
      exact ⟨rfl, hB⟩

set_option maxRecDepth 20000 in
set_option maxHeartbeats 1000000 in
theorem markY_any (N b c : Nat) (x : Int) (w : World) (hx : 0 ≤ x) (hx9 : x ≤ 9000000) (ht : w.there b 0 (N * 2)) (hb : b < w.heap.size) (hN : N ≤ 1048576) :
    Calls Tryd.prog 30 #[.slice (some ⟨b, 0, none⟩) N c, .int .i64 x] w fun e w' => (∃ x' : Int, e = .returned (.int .i64 x') ∧ 0 ≤ x') ∧ w.grownBy w' (some b) := by
  go_enter Tryd.func30, Tryd.ntmps30
  go_wp2
  go_loopw [1, 5] (fun kk i w' => ∃ k : Nat, k ≤ N ∧ i = .int .i64 k ∧ kk = .int .i64 (x + 2 * (k : Int)) ∧ w'.there b 0 (N * 2) ∧ b < w'.heap.size ∧ w.grownBy w' (some b)) (fun _ i _ => N - (intOf i).toNat)
  case atStart => exact ⟨0, by omega, rfl, by simp, ht, hb, grown_refl _ _⟩
  case round =>
    clear ht
    obtain ⟨k, hk, rfl, rfl, ht, hbw, hG⟩ := hrel
    by_cases hp : k < N
    · obtain ⟨⟨x0, c0⟩, f0⟩ := cell_there ht (j := k * 2) (by omega)
      obtain ⟨⟨x1, c1⟩, f1⟩ := cell_there ht (j := k * 2 + 1) (by omega)
      go_wp2_with fail
      go_roundw
      case rel => exact ⟨k + 1, by omega, by go_num, by go_num, there_set (there_set ht), by simpa using hbw, grown_setCell (grown_setCell hG _) _⟩
      case measure => simp [intOf]; omega
    · go_wp2_with fail
      go_ret
      exact ⟨⟨_, rfl, by omega⟩, hG⟩
end Go.Proofs.YtkapodkidlgkjahDoor
