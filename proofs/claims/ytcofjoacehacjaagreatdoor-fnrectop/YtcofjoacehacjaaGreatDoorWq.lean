/- The laws' own looks at lists of texts. -/
import Derived.Test.YtcofjoacehacjaaGreatDoorJ33
import Derived.Test.YtcofjoacehacjaaGreatDoorJ26
namespace Go.Proofs.YtcofjoacehacjaaGreatDoor
open Go.RowKit

set_option maxHeartbeats 1000000 in
theorem wrTexts_any (ss : List ByteArray) (va vb : Value) (w : World) (ha : Lst w va ss) (hb : Lst w vb ss) (hn : ss.length ≤ 1000) :
    Calls Tryz.prog 7 #[va, vb] w fun e w' => e = .returned (.bool true) ∧ Below w.heap.size w w' := by
  by_cases h0 : ss = []
  · subst h0
    obtain ⟨a1, c1, rfl⟩ := ha.shape
    obtain ⟨a2, c2, rfl⟩ := hb.shape
    simp only [List.length_nil]
    go_enter Tryz.func7, Tryz.ntmps7
    go_wp2
    go_rounds 1
    go_ret
    exact ⟨rfl, Below.refl _ _⟩
  rcases ha with ⟨_, h⟩ | ha
  · exact absurd h h0
  rcases hb with ⟨_, h⟩ | hb
  · exact absurd h h0
  obtain ⟨g1, c1, rfl, hS1, hg1, _, _⟩ := ha
  obtain ⟨g2, c2, rfl, hS2, hg2, _, _⟩ := hb
  go_enter Tryz.func7, Tryz.ntmps7
  go_wp2
  go_loopw [5] (fun i w' => ∃ k : Nat, k ≤ ss.length ∧ i = .int .i64 k ∧ Below w.heap.size w w') (fun i _ => ss.length - (intOf i).toNat)
  case atStart => exact ⟨0, by omega, rfl, Below.refl _ _⟩
  case round =>
    obtain ⟨k, hk, rfl, hB⟩ := hrel
    by_cases hp : k < ss.length
    · have c1 := (hB.cell (p := ⟨g1, 0 + k, none⟩) hg1).trans (hS1 k ss[k] (by simp))
      have c2 := (hB.cell (p := ⟨g2, 0 + k, none⟩) hg2).trans (hS2 k ss[k] (by simp))
      simp only [Nat.zero_add] at c1 c2
      go_wp2_with fail
      go_quiet (fail)
      go_wp2_with fail
      go_roundw
      case rel => exact ⟨k + 1, by omega, by go_num, below_drewN hB nq⟩
      case measure => simp [intOf]; omega
    · go_wp2_with fail
      go_ret
      exact ⟨rfl, hB⟩

theorem any_take (ss : List ByteArray) (nm : ByteArray) (k : Nat) (hk : k < ss.length) : ((ss.take (k + 1)).any fun y => y.toList == nm.toList) = (((ss.take k).any fun y => y.toList == nm.toList) || ((ss[k]).toList == nm.toList)) := by
  rw [List.take_succ_eq_append_getElem hk, List.any_append]; simp
set_option maxHeartbeats 1000000 in
theorem wrHas_any (ss : List ByteArray) (v : Value) (nm : ByteArray) (w : World) (h : Lst w v ss) (hn : ss.length ≤ 1000) :
    Calls Tryz.prog 40 #[v, .string nm] w fun e w' => e = .returned (.bool (ss.any fun y => y.toList == nm.toList)) ∧ w' = w := by
  by_cases h0 : ss = []
  · subst h0
    obtain ⟨a1, c1, rfl⟩ := h.shape
    simp only [List.length_nil]
    go_enter Tryz.func40, Tryz.ntmps40
    go_wp2
    go_rounds 1
    go_ret
    exact ⟨rfl, rfl⟩
  rcases h with ⟨_, h⟩ | h
  · exact absurd h h0
  obtain ⟨g, c, rfl, hS, hg, _, _⟩ := h
  go_enter Tryz.func40, Tryz.ntmps40
  go_wp2
  go_loop [5] (fun i => ∃ k : Nat, k ≤ ss.length ∧ i = .int .i64 k ∧ ((ss.take k).any fun y => y.toList == nm.toList) = false) (fun i => ss.length - (intOf i).toNat)
  case atStart => exact ⟨0, by omega, rfl, rfl⟩
  case round =>
    obtain ⟨k, hk, rfl, hal⟩ := hrel
    have Hal : Hid (((ss.take k).any fun y => y.toList == nm.toList) = false) := hal
    clear hal
    by_cases hp : k < ss.length
    · have c0 := hS k ss[k] (by simp)
      simp only [Nat.zero_add] at c0
      cases hq : ((ss[k]).toList == nm.toList)
      · have Hq : Hid (((ss[k]).toList == nm.toList) = false) := hq
        go_wp2
        go_round
        case rel => exact ⟨k + 1, by omega, by go_num, by rw [any_take ss nm k hp, Hal.out, Hq.out]; rfl⟩
        case measure => simp [intOf]; omega
      · have Hq : Hid ((ss.any fun y => y.toList == nm.toList) = true) := by
          show _ = _
          rw [List.any_eq_true]; exact ⟨ss[k], by simp, hq⟩
        go_wp2
        go_ret
        exact ⟨ret_bool Hq.out.symm, rfl⟩
    · have Hq : Hid ((ss.any fun y => y.toList == nm.toList) = false) := by
        show _ = _
        have := Hal.out
        rwa [List.take_of_length_le (by omega)] at this
      go_wp2
      go_ret
      exact ⟨ret_bool Hq.out.symm, rfl⟩

theorem all_take (a : List ByteArray) (f : ByteArray → Bool) (k : Nat) (hk : k < a.length) : (a.take (k + 1)).all f = ((a.take k).all f && f a[k]) := by
  rw [List.take_succ_eq_append_getElem hk, List.all_append]; simp
set_option maxHeartbeats 1000000 in
theorem wrAll_any (a b : List ByteArray) (va vb : Value) (w : World) (ha : Lst w va a) (hb : Lst w vb b) (hna : a.length ≤ 1000) (hnb : b.length ≤ 1000) (hall : allB2 a b = true) :
    Calls Tryz.prog 14 #[va, vb] w fun e w' => e = .returned (.bool true) ∧ w' = w := by
  by_cases h0 : a = []
  · subst h0
    obtain ⟨a1, c1, rfl⟩ := ha.shape
    simp only [List.length_nil]
    go_enter Tryz.func14, Tryz.ntmps14
    go_wp2
    go_rounds 1
    go_ret
    exact ⟨rfl, rfl⟩
  rcases ha with ⟨_, h⟩ | ha
  · exact absurd h h0
  obtain ⟨g, c, rfl, hS, hg, _, _⟩ := ha
  have Hall : Hid (∀ k (hk : k < a.length), (b.any fun y => y.toList == (a[k]).toList) = true) := by
    show _; intro k hk
    have := List.all_eq_true.1 hall a[k] (by simp)
    exact this
  clear hall
  go_enter Tryz.func14, Tryz.ntmps14
  go_wp2
  go_loop [5] (fun i => ∃ k : Nat, k ≤ a.length ∧ i = .int .i64 k) (fun i => a.length - (intOf i).toNat)
  case atStart => exact ⟨0, by omega, rfl⟩
  case round =>
    obtain ⟨k, hk, rfl⟩ := hrel
    by_cases hp : k < a.length
    · have c0 := hS k a[k] (by simp)
      simp only [Nat.zero_add] at c0
      have Hk := Hall.out k hp
      go_wp2_with fail
      refine (wrHas_any b vb (a[k]) w hb hnb).mono ?_
      rintro e w' ⟨he, hw⟩; obtain rfl := hw.symm; clear hw
      rw [Hk] at he
      subst he
      go_wp2_with fail
      go_round
      case rel => exact ⟨k + 1, by omega, by go_num⟩
      case measure => simp [intOf]; omega
    · go_wp2
      go_ret
      exact ⟨rfl, rfl⟩
end Go.Proofs.YtcofjoacehacjaaGreatDoor
