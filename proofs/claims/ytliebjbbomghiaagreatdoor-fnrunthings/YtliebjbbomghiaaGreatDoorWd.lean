/- The walks of a phase, the program's side: the whole. -/
import Derived.Test.YtliebjbbomghiaaGreatDoorJ8
namespace Go.Proofs.YtliebjbbomghiaaGreatDoor
open Go.RowKit

set_option maxHeartbeats 1000000 in
theorem workOk_fill (nm a b : ByteArray) (n wi : Int) (t e : ByteArray) (w : World) (ha : a.size ≤ maxLen) (hb : b.size ≤ maxLen) :
    Calls Tryz.prog 66 #[.agg #[.string nm, .int .i64 1, .string a, .string b, .int .i64 n, .int .i64 wi, .string t, .string e]] w fun e w' => e = .returned (.bool (argsB 1 a b n wi)) ∧ Below w.heap.size w w' := by
  have hr : Hid (argsB 1 a b n wi = (nameB a && (nameB b) && inB n 1 1000)) := by show _ = _; simp [argsB, Bool.and_assoc]
  cases hA : nameB a <;> cases hP : (nameB b)
  all_goals
    go_enter Tryz.func66, Tryz.ntmps66
    go_wp2_with (first | (go_at_call 55; refine (workFill _ _ _ _ _ _ _ _).mono ?_; rintro e w1 ⟨rfl, hb1⟩; (first | (have hB' := up_trans hB hb1; clear hB; have hB := hB'; clear hB') | (have hB := hb1)); clear hb1; (try clear hc hf); obtain ⟨hc, hf⟩ := bcell hB) | (go_at_call 65; refine (recName_any _ _ (by assumption)).mono ?_; rintro e w1 ⟨rfl, hb1⟩; (first | (have hB' := up_trans hB hb1; clear hB; have hB := hB'; clear hB') | (have hB := hb1)); clear hb1; (try clear hc hf); obtain ⟨hc, hf⟩ := bcell hB) | (go_at_call 91; refine (pairOk_fill _ _ _ _ (by assumption)).mono ?_; rintro e w1 ⟨rfl, hb1⟩; (first | (have hB' := up_trans hB hb1; clear hB; have hB := hB'; clear hB') | (have hB := hb1)); clear hb1; (try clear hc hf); obtain ⟨hc, hf⟩ := bcell hB) | (go_at_call 92; refine (amountOk_fill _ _ _ _).mono ?_; rintro e w1 ⟨rfl, hb1⟩; (first | (have hB' := up_trans hB hb1; clear hB; have hB := hB'; clear hB') | (have hB := hb1)); clear hb1; (try clear hc hf); obtain ⟨hc, hf⟩ := bcell hB))
    go_ret
    exact ⟨ret_bool (by rw [hr.out]; simp [hA, hP]), up_trans ((Below.refl _ _).alloc (Nat.le_refl _) _) hB⟩

set_option maxHeartbeats 1000000 in
theorem workOk_move (nm a b : ByteArray) (n wi : Int) (t e : ByteArray) (w : World) (ha : a.size ≤ maxLen) (hb : b.size ≤ maxLen) :
    Calls Tryz.prog 66 #[.agg #[.string nm, .int .i64 2, .string a, .string b, .int .i64 n, .int .i64 wi, .string t, .string e]] w fun e w' => e = .returned (.bool (argsB 2 a b n wi)) ∧ Below w.heap.size w w' := by
  have hr : Hid (argsB 2 a b n wi = (nameB a && (nameB b && !(a.toList == b.toList)) && inB n 1 1000)) := by show _ = _; simp [argsB, Bool.and_assoc]
  cases hA : nameB a <;> cases hP : (nameB b && !(a.toList == b.toList))
  all_goals
    go_enter Tryz.func66, Tryz.ntmps66
    go_wp2_with (first | (go_at_call 55; refine (workMove _ _ _ _ _ _ _ _).mono ?_; rintro e w1 ⟨rfl, hb1⟩; (first | (have hB' := up_trans hB hb1; clear hB; have hB := hB'; clear hB') | (have hB := hb1)); clear hb1; (try clear hc hf); obtain ⟨hc, hf⟩ := bcell hB) | (go_at_call 65; refine (recName_any _ _ (by assumption)).mono ?_; rintro e w1 ⟨rfl, hb1⟩; (first | (have hB' := up_trans hB hb1; clear hB; have hB := hB'; clear hB') | (have hB := hb1)); clear hb1; (try clear hc hf); obtain ⟨hc, hf⟩ := bcell hB) | (go_at_call 91; refine (pairOk_move _ _ _ _ (by assumption)).mono ?_; rintro e w1 ⟨rfl, hb1⟩; (first | (have hB' := up_trans hB hb1; clear hB; have hB := hB'; clear hB') | (have hB := hb1)); clear hb1; (try clear hc hf); obtain ⟨hc, hf⟩ := bcell hB) | (go_at_call 92; refine (amountOk_move _ _ _ _).mono ?_; rintro e w1 ⟨rfl, hb1⟩; (first | (have hB' := up_trans hB hb1; clear hB; have hB := hB'; clear hB') | (have hB := hb1)); clear hb1; (try clear hc hf); obtain ⟨hc, hf⟩ := bcell hB))
    go_ret
    exact ⟨ret_bool (by rw [hr.out]; simp [hA, hP]), up_trans ((Below.refl _ _).alloc (Nat.le_refl _) _) hB⟩

set_option maxHeartbeats 1000000 in
theorem workOk_hold (nm a b : ByteArray) (n wi : Int) (t e : ByteArray) (w : World) (ha : a.size ≤ maxLen) (_hb : b.size ≤ maxLen) :
    Calls Tryz.prog 66 #[.agg #[.string nm, .int .i64 3, .string a, .string b, .int .i64 n, .int .i64 wi, .string t, .string e]] w fun e w' => e = .returned (.bool (argsB 3 a b n wi)) ∧ Below w.heap.size w w' := by
  have hr : Hid (argsB 3 a b n wi = (nameB a && (b.toList.isEmpty) && inB n 1 wi)) := by show _ = _; simp [argsB, Bool.and_assoc]
  cases hA : nameB a <;> cases hP : (b.toList.isEmpty)
  all_goals
    go_enter Tryz.func66, Tryz.ntmps66
    go_wp2_with (first | (go_at_call 55; refine (workHold _ _ _ _ _ _ _ _).mono ?_; rintro e w1 ⟨rfl, hb1⟩; (first | (have hB' := up_trans hB hb1; clear hB; have hB := hB'; clear hB') | (have hB := hb1)); clear hb1; (try clear hc hf); obtain ⟨hc, hf⟩ := bcell hB) | (go_at_call 65; refine (recName_any _ _ (by assumption)).mono ?_; rintro e w1 ⟨rfl, hb1⟩; (first | (have hB' := up_trans hB hb1; clear hB; have hB := hB'; clear hB') | (have hB := hb1)); clear hb1; (try clear hc hf); obtain ⟨hc, hf⟩ := bcell hB) | (go_at_call 91; refine (pairOk_hold _ _ _ _).mono ?_; rintro e w1 ⟨rfl, hb1⟩; (first | (have hB' := up_trans hB hb1; clear hB; have hB := hB'; clear hB') | (have hB := hb1)); clear hb1; (try clear hc hf); obtain ⟨hc, hf⟩ := bcell hB) | (go_at_call 92; refine (amountOk_hold _ _ _ _).mono ?_; rintro e w1 ⟨rfl, hb1⟩; (first | (have hB' := up_trans hB hb1; clear hB; have hB := hB'; clear hB') | (have hB := hb1)); clear hb1; (try clear hc hf); obtain ⟨hc, hf⟩ := bcell hB))
    go_ret
    exact ⟨ret_bool (by rw [hr.out]; simp [hA, hP]), up_trans ((Below.refl _ _).alloc (Nat.le_refl _) _) hB⟩

set_option maxHeartbeats 1000000 in
theorem workOk_clean (nm a b : ByteArray) (n wi : Int) (t e : ByteArray) (w : World) (ha : a.size ≤ maxLen) (_hb : b.size ≤ maxLen) :
    Calls Tryz.prog 66 #[.agg #[.string nm, .int .i64 4, .string a, .string b, .int .i64 n, .int .i64 wi, .string t, .string e]] w fun e w' => e = .returned (.bool (argsB 4 a b n wi)) ∧ Below w.heap.size w w' := by
  have hr : Hid (argsB 4 a b n wi = (nameB a && (b.toList.isEmpty) && n == 0)) := by show _ = _; simp [argsB, Bool.and_assoc]
  cases hA : nameB a <;> cases hP : (b.toList.isEmpty)
  all_goals
    go_enter Tryz.func66, Tryz.ntmps66
    go_wp2_with (first | (go_at_call 55; refine (workClean _ _ _ _ _ _ _ _).mono ?_; rintro e w1 ⟨rfl, hb1⟩; (first | (have hB' := up_trans hB hb1; clear hB; have hB := hB'; clear hB') | (have hB := hb1)); clear hb1; (try clear hc hf); obtain ⟨hc, hf⟩ := bcell hB) | (go_at_call 65; refine (recName_any _ _ (by assumption)).mono ?_; rintro e w1 ⟨rfl, hb1⟩; (first | (have hB' := up_trans hB hb1; clear hB; have hB := hB'; clear hB') | (have hB := hb1)); clear hb1; (try clear hc hf); obtain ⟨hc, hf⟩ := bcell hB) | (go_at_call 91; refine (pairOk_clean _ _ _).mono ?_; rintro e w1 ⟨rfl, hb1⟩; (first | (have hB' := up_trans hB hb1; clear hB; have hB := hB'; clear hB') | (have hB := hb1)); clear hb1; (try clear hc hf); obtain ⟨hc, hf⟩ := bcell hB) | (go_at_call 92; refine (amountOk_clean _ _ _).mono ?_; rintro e w1 ⟨rfl, hb1⟩; (first | (have hB' := up_trans hB hb1; clear hB; have hB := hB'; clear hB') | (have hB := hb1)); clear hb1; (try clear hc hf); obtain ⟨hc, hf⟩ := bcell hB))
    go_ret
    exact ⟨ret_bool (by rw [hr.out]; simp [hA, hP]), up_trans ((Below.refl _ _).alloc (Nat.le_refl _) _) hB⟩

set_option maxHeartbeats 1000000 in
theorem workOk_test (nm a b : ByteArray) (n wi : Int) (t e : ByteArray) (w : World) (ha : a.size ≤ maxLen) (_hb : b.size ≤ maxLen) :
    Calls Tryz.prog 66 #[.agg #[.string nm, .int .i64 5, .string a, .string b, .int .i64 n, .int .i64 wi, .string t, .string e]] w fun e w' => e = .returned (.bool (argsB 5 a b n wi)) ∧ Below w.heap.size w w' := by
  have hr : Hid (argsB 5 a b n wi = (nameB a && (b.toList.isEmpty) && n == 0)) := by show _ = _; simp [argsB, Bool.and_assoc]
  cases hA : nameB a <;> cases hP : (b.toList.isEmpty)
  all_goals
    go_enter Tryz.func66, Tryz.ntmps66
    go_wp2_with (first | (go_at_call 55; refine (workTest _ _ _ _ _ _ _ _).mono ?_; rintro e w1 ⟨rfl, hb1⟩; (first | (have hB' := up_trans hB hb1; clear hB; have hB := hB'; clear hB') | (have hB := hb1)); clear hb1; (try clear hc hf); obtain ⟨hc, hf⟩ := bcell hB) | (go_at_call 65; refine (recName_any _ _ (by assumption)).mono ?_; rintro e w1 ⟨rfl, hb1⟩; (first | (have hB' := up_trans hB hb1; clear hB; have hB := hB'; clear hB') | (have hB := hb1)); clear hb1; (try clear hc hf); obtain ⟨hc, hf⟩ := bcell hB) | (go_at_call 91; refine (pairOk_test _ _ _).mono ?_; rintro e w1 ⟨rfl, hb1⟩; (first | (have hB' := up_trans hB hb1; clear hB; have hB := hB'; clear hB') | (have hB := hb1)); clear hb1; (try clear hc hf); obtain ⟨hc, hf⟩ := bcell hB) | (go_at_call 92; refine (amountOk_test _ _ _).mono ?_; rintro e w1 ⟨rfl, hb1⟩; (first | (have hB' := up_trans hB hb1; clear hB; have hB := hB'; clear hB') | (have hB := hb1)); clear hb1; (try clear hc hf); obtain ⟨hc, hf⟩ := bcell hB))
    go_ret
    exact ⟨ret_bool (by rw [hr.out]; simp [hA, hP]), up_trans ((Below.refl _ _).alloc (Nat.le_refl _) _) hB⟩

theorem workOk_none (nm : ByteArray) (k : Int) (a b : ByteArray) (n wi : Int) (t e : ByteArray) (w : World) (h1 : (k == 1) = false) (h2 : (k == 2) = false) (h3 : (k == 3) = false) (h4 : (k == 4) = false) (h5 : (k == 5) = false) :
    Calls Tryz.prog 66 #[.agg #[.string nm, .int .i64 k, .string a, .string b, .int .i64 n, .int .i64 wi, .string t, .string e]] w fun e w' => e = .returned (.bool (argsB k a b n wi)) ∧ Below w.heap.size w w' := by
  have hr : Hid (argsB k a b n wi = false) := by show _ = _; simp at h1 h2 h3 h4 h5; simp [argsB, h1, h2, h3, h4, h5]
  go_enter Tryz.func66, Tryz.ntmps66
  go_wp2_with (go_at_call 55; refine (workNone _ _ _ _ _ _ _ _ _ (by assumption) (by assumption) (by assumption) (by assumption) (by assumption)).mono ?_; rintro e w1 ⟨rfl, hb1⟩; (first | (have hB' := up_trans hB hb1; clear hB; have hB := hB'; clear hB') | (have hB := hb1)); clear hb1; (try clear hc hf); obtain ⟨hc, hf⟩ := bcell hB)
  go_ret
  exact ⟨ret_bool (by rw [hr.out]), up_trans ((Below.refl _ _).alloc (Nat.le_refl _) _) hB⟩

theorem workOk_any (nm : ByteArray) (k : Int) (a b : ByteArray) (n wi : Int) (t e : ByteArray) (w : World) (ha : a.size ≤ maxLen) (hb : b.size ≤ maxLen) :
    Calls Tryz.prog 66 #[.agg #[.string nm, .int .i64 k, .string a, .string b, .int .i64 n, .int .i64 wi, .string t, .string e]] w fun e w' => e = .returned (.bool (argsB k a b n wi)) ∧ Below w.heap.size w w' := by
  by_cases h1 : k = 1
  · subst h1; exact workOk_fill nm a b n wi t e w ha hb
  by_cases h2 : k = 2
  · subst h2; exact workOk_move nm a b n wi t e w ha hb
  by_cases h3 : k = 3
  · subst h3; exact workOk_hold nm a b n wi t e w ha hb
  by_cases h4 : k = 4
  · subst h4; exact workOk_clean nm a b n wi t e w ha hb
  by_cases h5 : k = 5
  · subst h5; exact workOk_test nm a b n wi t e w ha hb
  exact workOk_none nm k a b n wi t e w (by simpa using h1) (by simpa using h2) (by simpa using h3) (by simpa using h4) (by simpa using h5)

set_option maxHeartbeats 1000000 in
theorem recPhase_any (nm : ByteArray) (k : Int) (a b : ByteArray) (n wi : Int) (t e : ByteArray) (w : World) (hE : Ends w) (hnm : nm.size ≤ maxLen) (ha : a.size ≤ maxLen) (hb : b.size ≤ maxLen) (ht : t.size ≤ maxLen) (he : e.size ≤ maxLen) :
    Calls Tryz.prog 50 #[.agg #[.string nm, .int .i64 k, .string a, .string b, .int .i64 n, .int .i64 wi, .string t, .string e]] w fun e' w' => e' = .returned (.bool (phaseB nm k a b n wi t e)) ∧ Below w.heap.size w w' := by
  cases h1 : nameB nm
  · go_enter Tryz.func50, Tryz.ntmps50
    go_wp2_with (go_at_call 65; refine (recName_any _ _ (by assumption)).mono ?_; rintro e w1 ⟨rfl, hb1⟩; (first | (have hB' := up_trans hB hb1; clear hB; have hB := hB'; clear hB') | (have hB := hb1)); clear hb1; (try clear hc hf); obtain ⟨hc, hf⟩ := bcell hB)
    go_ret
    exact ⟨ret_bool (by simp [phaseB, h1]), up_trans ((Below.refl _ _).alloc (Nat.le_refl _) _) hB⟩
  have HE : Hid (Ends w) := hE
  clear hE
  cases h2 : (endN nm == 0)
  · have h2' : (endN nm != 0) = true := by simp [bne, h2]
    go_enter Tryz.func50, Tryz.ntmps50
    go_wp2_with (first | (go_at_call 65; refine (recName_any _ _ (by assumption)).mono ?_; rintro e w1 ⟨rfl, hb1⟩; (first | (have hB' := up_trans hB hb1; clear hB; have hB := hB'; clear hB') | (have hB := hb1)); clear hb1; (try clear hc hf); obtain ⟨hc, hf⟩ := bcell hB) | (go_at_call 63; refine (recEnd_any _ _ (HE.out.up (up_trans ((Below.refl _ _).alloc (Nat.le_refl _) _) hB))).mono ?_; rintro e w' ⟨rfl, hw⟩; obtain rfl := hw.symm; clear hw))
    go_ret
    exact ⟨ret_bool (by simp [phaseB, h2]), up_trans ((Below.refl _ _).alloc (Nat.le_refl _) _) hB⟩
  have h2' : (endN nm != 0) = false := by simp [bne, h2]
  have H2 : Hid ((endN nm == 0) = true) := h2
  clear h2
  by_cases h3 : 1 ≤ wi ∧ wi ≤ 1000
  case neg =>
    have h3' : Hid (inB wi 1 1000 = false) := (inB_no _ _ _).2 h3
    by_cases h4 : 1 ≤ wi
    · have h5 : 1000 < wi := by omega
      clear h3
      go_enter Tryz.func50, Tryz.ntmps50
      go_wp2_with (first | (go_at_call 65; refine (recName_any _ _ (by assumption)).mono ?_; rintro e w1 ⟨rfl, hb1⟩; (first | (have hB' := up_trans hB hb1; clear hB; have hB := hB'; clear hB') | (have hB := hb1)); clear hb1; (try clear hc hf); obtain ⟨hc, hf⟩ := bcell hB) | (go_at_call 63; refine (recEnd_any _ _ (HE.out.up (up_trans ((Below.refl _ _).alloc (Nat.le_refl _) _) hB))).mono ?_; rintro e w' ⟨rfl, hw⟩; obtain rfl := hw.symm; clear hw))
      go_ret
      exact ⟨ret_bool (by simp [phaseB, h3'.out]), up_trans ((Below.refl _ _).alloc (Nat.le_refl _) _) hB⟩
    · clear h3
      go_enter Tryz.func50, Tryz.ntmps50
      go_wp2_with (first | (go_at_call 65; refine (recName_any _ _ (by assumption)).mono ?_; rintro e w1 ⟨rfl, hb1⟩; (first | (have hB' := up_trans hB hb1; clear hB; have hB := hB'; clear hB') | (have hB := hb1)); clear hb1; (try clear hc hf); obtain ⟨hc, hf⟩ := bcell hB) | (go_at_call 63; refine (recEnd_any _ _ (HE.out.up (up_trans ((Below.refl _ _).alloc (Nat.le_refl _) _) hB))).mono ?_; rintro e w' ⟨rfl, hw⟩; obtain rfl := hw.symm; clear hw))
      go_ret
      exact ⟨ret_bool (by simp [phaseB, h3'.out]), up_trans ((Below.refl _ _).alloc (Nat.le_refl _) _) hB⟩
  have H3 : Hid (inB wi 1 1000 = true) := (inB_iff _ _ _).2 h3
  obtain ⟨h3a, h3b⟩ := h3
  cases h4 : argsB k a b n wi <;> cases h5 : nameB t
  all_goals
    go_enter Tryz.func50, Tryz.ntmps50
    go_wp2_with (first | (go_at_call 65; refine (recName_any _ _ (by assumption)).mono ?_; rintro e w1 ⟨rfl, hb1⟩; (first | (have hB' := up_trans hB hb1; clear hB; have hB := hB'; clear hB') | (have hB := hb1)); clear hb1; (try clear hc hf); obtain ⟨hc, hf⟩ := bcell hB) | (go_at_call 63; refine (recEnd_any _ _ (HE.out.up (up_trans ((Below.refl _ _).alloc (Nat.le_refl _) _) hB))).mono ?_; rintro e w' ⟨rfl, hw⟩; obtain rfl := hw.symm; clear hw) | (go_at_call 66; refine (workOk_any _ _ _ _ _ _ _ _ _ (by assumption) (by assumption)).mono ?_; rintro e w1 ⟨rfl, hb1⟩; (first | (have hB' := up_trans hB hb1; clear hB; have hB := hB'; clear hB') | (have hB := hb1)); clear hb1; (try clear hc hf); obtain ⟨hc, hf⟩ := bcell hB))
    go_ret
    exact ⟨ret_bool (by simp [phaseB, h1, H2.out, H3.out, h4, h5]), up_trans ((Below.refl _ _).alloc (Nat.le_refl _) _) hB⟩
end Go.Proofs.YtliebjbbomghiaaGreatDoor
