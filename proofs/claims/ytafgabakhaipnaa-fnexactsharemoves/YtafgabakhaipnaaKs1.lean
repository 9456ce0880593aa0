/- The specification's walks over names and lists of texts (chapter 11). -/
import Derived.Test.YtafgabakhaipnaaJ14
namespace Go.Proofs.Ytafgabakhaipnaa
open Go.RowKit

theorem in11_any (n lo hi : Int) (w : World) :
    Calls Try.prog 40 #[.int .i64 n, .int .i64 lo, .int .i64 hi] w fun e w' => e = .returned (.bool (inB n lo hi)) ∧ w' = w := by
  by_cases h1 : lo ≤ n <;> by_cases h2 : n ≤ hi
  all_goals
    go_enter Try.func40, Try.ntmps40
    go_wp2
    go_ret
    exact ⟨ret_bool (by simp [inB, h1, h2]), rfl⟩

theorem name11_any (s : ByteArray) (w : World) (hs : s.size ≤ maxLen) :
    Calls Try.prog 28 #[.string s] w fun e w' => e = .returned (.bool (nameB s)) ∧ w' = w := by
  unfold maxLen at hs
  by_cases h1 : 1 ≤ s.size ∧ s.size ≤ 8
  case neg =>
    have h2 : inB s.size 1 8 = false := (inB_no _ _ _).2 (by omega)
    go_enter Try.func28, Try.ntmps28
    go_wp2_with (go_at_call 40; refine (in11_any _ _ _ _).mono ?_; rintro e w' ⟨rfl, hw⟩; obtain rfl := hw.symm; clear hw)
    go_ret
    exact ⟨ret_bool (by simp only [nameB]; simp; omega), rfl⟩
  have hn : Hid (nameB s = allB s.data.toList) := by show nameB s = _; simp [nameB, h1]
  have h2 : inB s.size 1 8 = true := (inB_iff _ _ _).2 (by omega)
  go_enter Try.func28, Try.ntmps28
  go_wp2_with (go_at_call 40; refine (in11_any _ _ _ _).mono ?_; rintro e w' ⟨rfl, hw⟩; obtain rfl := hw.symm; clear hw)
  go_loop [3] (fun i => ∃ k : Nat, k ≤ s.size ∧ i = .int .i64 k ∧ allB (s.data.toList.take k) = true) (fun i => s.size - (intOf i).toNat)
  case atStart => exact ⟨0, by omega, rfl, rfl⟩
  case round =>
    obtain ⟨k, hk, rfl, hal⟩ := hrel
    have Hal : Hid (allB (s.data.toList.take k) = true) := hal
    clear hal
    by_cases hp : k < s.size
    · have HS : Hid (nbB (s[k]'hp).toNat = true → allB (s.data.toList.take (k + 1)) = true) := by show _ → _; intro hb; rw [allB_take s k hp, Hal.out, hb]; rfl
      have HN : Hid (nbB (s[k]'hp).toNat = false → allB s.data.toList = false) := allB_no s k hp
      go_wp2
      all_goals first
        | (go_ret; exact ⟨ret_bool (by rw [hn.out]; exact (HN.out (by rw [← Bool.not_eq_true, nbB_iff]; go_light; simp at *; omega)).symm), rfl⟩)
        | (go_round
           case rel => exact ⟨k + 1, by omega, by go_num, HS.out (by rw [nbB_iff]; go_light; simp at *; omega)⟩
           case measure => simp [intOf]; omega)
    · go_wp2
      go_ret
      exact ⟨ret_bool (by rw [hn.out, allB_yes s k hp Hal.out]), rfl⟩

theorem has11_any (ss : List ByteArray) (v : Value) (s : ByteArray) (w : World) (h : Ls w v ss) :
    Calls Try.prog 31 #[v, .string s] w fun e w' => e = .returned (.bool (memS ss s)) ∧ w' = w := by
  obtain ⟨a, c, rfl, hn, -, hpos⟩ := h
  unfold maxLen at hn
  go_enter Try.func31, Try.ntmps31
  go_wp2
  go_loop [5] (fun i => ∃ k : Nat, k ≤ ss.length ∧ i = .int .i64 k ∧ memS (ss.take k) s = false) (fun i => ss.length - (intOf i).toNat)
  case atStart => exact ⟨0, by omega, rfl, rfl⟩
  case round =>
    obtain ⟨k, hk, rfl, hal⟩ := hrel
    have Hal : Hid (memS (ss.take k) s = false) := hal
    clear hal
    by_cases hp : k < ss.length
    · obtain ⟨b, o, rfl, hS, hb⟩ := hpos (by omega)
      have c0 := hS.cell hp
      cases hq : ((ss[k]).toList == s.toList)
      · have Hq : Hid (((ss[k]).toList == s.toList) = false) := hq
        go_wp2
        go_round
        case rel => exact ⟨k + 1, by omega, by go_num, memS_take hp Hal.out Hq.out⟩
        case measure => simp [intOf]; omega
      · have Hq : Hid (((ss[k]).toList == s.toList) = true) := hq
        go_wp2
        go_ret
        exact ⟨ret_bool (memS_found hp Hq.out).symm, rfl⟩
    · go_wp2
      go_ret
      exact ⟨ret_bool (memS_all hp Hal.out).symm, rfl⟩

theorem share11_any (xs ys : List ByteArray) (u v : Value) (w : World) (h : Ls w u xs) (h2 : Ls w v ys) :
    Calls Try.prog 30 #[u, v] w fun e w' => e = .returned (.bool (shareB xs ys)) ∧ w' = w := by
  obtain ⟨a, c, rfl, hn, -, hpos⟩ := h
  obtain ⟨a2, c2, rfl, -⟩ := id h2
  unfold maxLen at hn
  go_enter Try.func30, Try.ntmps30
  go_wp2
  go_loop [5] (fun i => ∃ k : Nat, k ≤ xs.length ∧ i = .int .i64 k ∧ shareB (xs.take k) ys = false) (fun i => xs.length - (intOf i).toNat)
  case atStart => exact ⟨0, by omega, rfl, rfl⟩
  case round =>
    obtain ⟨k, hk, rfl, hal⟩ := hrel
    have Hal : Hid (shareB (xs.take k) ys = false) := hal
    clear hal
    by_cases hp : k < xs.length
    · obtain ⟨b, o, rfl, hS, hb⟩ := hpos (by omega)
      have c0 := hS.cell hp
      cases hq : memS ys xs[k]
      · have Hq : Hid (memS ys xs[k] = false) := hq
        go_wp2_with (go_at_call 31; refine (has11_any ys _ _ _ h2).mono ?_; rintro e w' ⟨rfl, hw⟩; obtain rfl := hw.symm; clear hw)
        go_round
        case rel => exact ⟨k + 1, by omega, by go_num, shareB_take hp Hal.out Hq.out⟩
        case measure => simp [intOf]; omega
      · have Hq : Hid (memS ys xs[k] = true) := hq
        go_wp2_with (go_at_call 31; refine (has11_any ys _ _ _ h2).mono ?_; rintro e w' ⟨rfl, hw⟩; obtain rfl := hw.symm; clear hw)
        go_ret
        exact ⟨ret_bool (shareB_found hp Hq.out).symm, rfl⟩
    · go_wp2
      go_ret
      exact ⟨ret_bool (shareB_all hp Hal.out).symm, rfl⟩
theorem drew_more {w w' : World} {m n : Nat} (h : w' = w.drewN m) : ∃ k, w'.drewN n = w.drewN k := ⟨_, by rw [h, World.drewN_drewN]⟩

set_option maxHeartbeats 1000000 in
theorem namesOk11_any (ss all : List ByteArray) (u v : Value) (w : World) (h : Ls w u ss) (h2 : Ls w v all) :
    Calls Try.prog 29 #[u, v] w fun e w' => e = .returned (.bool (pB (PartOk ss all))) ∧ ∃ m, w' = w.drewN m := by
  obtain ⟨a, c, rfl, hn, -, hpos⟩ := h
  obtain ⟨a2, c2, rfl, -⟩ := id h2
  unfold maxLen at hn
  go_enter Try.func29, Try.ntmps29
  go_wp2
  go_loopw [5] (fun i w' => ∃ k m : Nat, k ≤ ss.length ∧ i = .int .i64 k ∧ PartTo ss all k ∧ AscTo ss k ∧ w' = w.drewN m) (fun i _ => ss.length - (intOf i).toNat)
  case atStart => exact ⟨0, 0, by omega, rfl, PartTo.zero _ _, AscTo.zero _, rfl⟩
  case round =>
    obtain ⟨k, m, hk, rfl, hal, hasc, hw⟩ := hrel
    have Hw : Hid (wr = w.drewN m) := hw
    clear hw
    have Hal : Hid (PartTo ss all k) := hal
    have Hasc : Hid (AscTo ss k) := hasc
    clear hal hasc
    by_cases hp : k < ss.length
    · obtain ⟨b, o, rfl, hS, hb⟩ := hpos (by omega)
      have c0 : wr.cell? ⟨b, o + k, none⟩ = some (.string ss[k]) := by rw [Hw.out]; exact hS.cell hp
      cases hq : memS all ss[k]
      · have Hq : Hid (¬ PartOk ss all) := fun h => by rw [part_at h.1 hp] at hq; cases hq
        go_wp2_with fail
        go_quiet ((go_at_call 31; exact Calls.quiet_of_same (has11_any all _ _ _ (by have e := Hw.out; subst e; exact h2))))
        go_wp2
        go_ret
        exact ⟨ret_bool (pB_no Hq.out).symm, drew_more Hw.out⟩
      have Hq : Hid (PartTo ss all (k + 1)) := Hal.out.step hp hq
      cases k with
      | zero =>
        simp only [Nat.add_zero] at c0
        go_wp2_with fail
        go_quiet ((go_at_call 31; exact Calls.quiet_of_same (has11_any all _ _ _ (by have e := Hw.out; subst e; exact h2))))
        go_wp2
        go_roundw
        case rel => obtain ⟨m', hm'⟩ := drew_more (n := nq) Hw.out; exact ⟨1, m', by omega, by go_num, Hq.out, AscTo.one _, hm'⟩
        case measure => simp [intOf]; omega
      | succ k =>
        have c1 : wr.cell? ⟨b, o + k, none⟩ = some (.string ss[k]) := by rw [Hw.out]; exact hS.cell (k := k) (by omega)
        cases hl : ltS ss[k] ss[k + 1]
        · have Hl : Hid (¬ PartOk ss all) := fun h => by rw [asc_at h.2 hp] at hl; cases hl
          unfold ltS at hl
          go_wp2_with fail
          go_quiet ((go_at_call 31; exact Calls.quiet_of_same (has11_any all _ _ _ (by have e := Hw.out; subst e; exact h2))))
          go_wp2
          go_ret
          exact ⟨ret_bool (pB_no Hl.out).symm, drew_more Hw.out⟩
        · have Hl : Hid (AscTo ss (k + 2)) := Hasc.out.step hp hl
          unfold ltS at hl
          go_wp2_with fail
          go_quiet ((go_at_call 31; exact Calls.quiet_of_same (has11_any all _ _ _ (by have e := Hw.out; subst e; exact h2))))
          go_wp2
          go_roundw
          case rel => obtain ⟨m', hm'⟩ := drew_more (n := nq) Hw.out; exact ⟨k + 1 + 1, m', by omega, by go_num, Hq.out, Hl.out, hm'⟩
          case measure => simp [intOf]; omega
    · go_wp2
      go_ret
      exact ⟨ret_bool (pB_yes ⟨part_end Hal.out hp, asc_end Hasc.out hp⟩).symm, _, Hw.out⟩

set_option maxHeartbeats 1000000 in
theorem thingsOk11_any (ss : List ByteArray) (u : Value) (w : World) (h : Ls w u ss) :
    Calls Try.prog 27 #[u] w fun e w' => e = .returned (.bool (pB (ThingsOk ss))) ∧ ∃ m, w' = w.drewN m := by
  obtain ⟨a, c, rfl, hn, hz, hpos⟩ := h
  unfold maxLen at hn
  by_cases h8 : 8 < ss.length
  · go_enter Try.func27, Try.ntmps27
    go_wp2
    go_ret
    exact ⟨ret_bool (pB_no fun h => by have := h.1; omega).symm, 0, rfl⟩
  have H8 : Hid (ss.length ≤ 8) := by show _ ≤ _; omega
  go_enter Try.func27, Try.ntmps27
  go_wp2
  go_loopw [3] (fun i w' => ∃ k m : Nat, k ≤ ss.length ∧ i = .int .i64 k ∧ NamesTo ss k ∧ AscTo ss k ∧ w' = w.drewN m) (fun i _ => ss.length - (intOf i).toNat)
  case atStart => exact ⟨0, 0, by omega, rfl, NamesTo.zero _, AscTo.zero _, rfl⟩
  case round =>
    obtain ⟨k, m, hk, rfl, hal, hasc, hw⟩ := hrel
    have Hw : Hid (wr = w.drewN m) := hw
    clear hw
    have Hal : Hid (NamesTo ss k) := hal
    have Hasc : Hid (AscTo ss k) := hasc
    clear hal hasc
    by_cases hp : k < ss.length
    · obtain ⟨b, o, rfl, hS, hb⟩ := hpos (by omega)
      have c0 : wr.cell? ⟨b, o + k, none⟩ = some (.string ss[k]) := by rw [Hw.out]; exact hS.cell hp
      have z0 := hz ss[k] (by simp)
      cases hq : nameB ss[k]
      · have Hq : Hid (¬ ThingsOk ss) := fun h => by rw [names_at h.2.1 hp] at hq; cases hq
        go_wp2_with fail
        go_quiet ((go_at_call 28; exact Calls.quiet_of_same (name11_any _ _ z0)))
        go_wp2
        go_ret
        exact ⟨ret_bool (pB_no Hq.out).symm, drew_more Hw.out⟩
      have Hq : Hid (NamesTo ss (k + 1)) := Hal.out.step hp hq
      cases k with
      | zero =>
        simp only [Nat.add_zero] at c0
        go_wp2_with fail
        go_quiet ((go_at_call 28; exact Calls.quiet_of_same (name11_any _ _ z0)))
        go_wp2
        go_roundw
        case rel => obtain ⟨m', hm'⟩ := drew_more (n := nq) Hw.out; exact ⟨1, m', by omega, by go_num, Hq.out, AscTo.one _, hm'⟩
        case measure => simp [intOf]; omega
      | succ k =>
        have c1 : wr.cell? ⟨b, o + k, none⟩ = some (.string ss[k]) := by rw [Hw.out]; exact hS.cell (k := k) (by omega)
        cases hl : ltS ss[k] ss[k + 1]
        · have Hl : Hid (¬ ThingsOk ss) := fun h => by rw [asc_at h.2.2 hp] at hl; cases hl
          unfold ltS at hl
          go_wp2_with fail
          go_quiet ((go_at_call 28; exact Calls.quiet_of_same (name11_any _ _ z0)))
          go_wp2
          go_ret
          exact ⟨ret_bool (pB_no Hl.out).symm, drew_more Hw.out⟩
        · have Hl : Hid (AscTo ss (k + 2)) := Hasc.out.step hp hl
          unfold ltS at hl
          go_wp2_with fail
          go_quiet ((go_at_call 28; exact Calls.quiet_of_same (name11_any _ _ z0)))
          go_wp2
          go_roundw
          case rel => obtain ⟨m', hm'⟩ := drew_more (n := nq) Hw.out; exact ⟨k + 1 + 1, m', by omega, by go_num, Hq.out, Hl.out, hm'⟩
          case measure => simp [intOf]; omega
    · go_wp2
      go_ret
      exact ⟨ret_bool (pB_yes ⟨H8.out, names_end Hal.out hp, asc_end Hasc.out hp⟩).symm, _, Hw.out⟩
end Go.Proofs.Ytafgabakhaipnaa
