/- The walks over recipes: ok or not, by the specification. -/
import Derived.Test.YtliebjbbomghiaaGreatDoorWb
import Derived.Test.YtliebjbbomghiaaGreatDoorJ12
import Derived.Test.YtliebjbbomghiaaGreatDoorJ3
namespace Go.Proofs.YtliebjbbomghiaaGreatDoor
open Go.RowKit

set_option maxHeartbeats 4000000 in
theorem specOk_any (ps : List Ph) (b o c : Nat) (w : World) (hr : RecAt w b o ps) (hb : b < w.heap.size) (hs : Sized ps) (hn : ps.length ≤ 1048576) :
    Calls Tryz.prog 28 #[.slice (some ⟨b, o, none⟩) ps.length c] w fun e w' => e = .returned (.bool (recB ps)) ∧ Below w.heap.size w w' := by
  by_cases hl : 1 ≤ ps.length ∧ ps.length ≤ 12
  case neg =>
    have h2 : inB ps.length 1 12 = false := (inB_no _ _ _).2 (by omega)
    go_enter Tryz.func28, Tryz.ntmps28
    go_wp2_with (go_at_call 31; refine (in_any _ _ _ _).mono ?_; rintro e w' ⟨rfl, hw⟩; obtain rfl := hw.symm; clear hw)
    go_ret
    exact ⟨ret_bool (recB_len ps hl).symm, Below.refl _ _⟩
  have h2 : inB ps.length 1 12 = true := (inB_iff _ _ _).2 (by omega)
  have Hl : Hid (1 ≤ ps.length ∧ ps.length ≤ 12) := hl
  clear hl
  go_enter Tryz.func28, Tryz.ntmps28
  go_wp2_with (go_at_call 31; refine (in_any _ _ _ _).mono ?_; rintro e w' ⟨rfl, hw⟩; obtain rfl := hw.symm; clear hw)
  go_loopw [3] (fun i w' => ∃ k : Nat, k ≤ ps.length ∧ i = .int .i64 k ∧ allS ps k ∧ Below w.heap.size w w') (fun i _ => ps.length - (intOf i).toNat)
  case atStart => exact ⟨0, by omega, rfl, allS_zero ps, Below.refl _ _⟩
  case round =>
    obtain ⟨k, hk, rfl, hal, hB⟩ := hrel
    have Hal : Hid (allS ps k) := hal
    clear hal
    by_cases hp : k < ps.length
    · obtain ⟨c0, c1, c2, c3, c4, c5, c6, c7⟩ := hr.cells k hp
      obtain ⟨z0, z1, z2, z3, z4⟩ := hs ps[k] (by simp)
      obtain ⟨hc, hf⟩ := bcell hB
      have Hno : Hid (stepS ps k ps[k] = false → recB ps = false) := recB_noS ps k hp
      have Hyes : Hid (stepS ps k ps[k] = true → allS ps (k + 1)) := allS_succ Hal.out hp
      cases h1 : phaseB (ps[k]).nm (ps[k]).k (ps[k]).a (ps[k]).b (ps[k]).n (ps[k]).wi (ps[k]).t (ps[k]).e
      · go_wp2_with (first | (go_at_call 31; refine (in_any _ _ _ _).mono ?_; rintro e w' ⟨rfl, hw⟩; obtain rfl := hw.symm; clear hw) | (go_at_call 53; refine (specPhase_any _ _ _ _ _ _ _ _ _ z0 z1 z2 z3 z4).mono ?_; rintro e w1 ⟨rfl, hb1⟩; (first | (have hB' := up_trans hB hb1; clear hB; have hB := hB'; clear hB') | (have hB := hb1)); clear hb1; (try clear hc hf); obtain ⟨hc, hf⟩ := bcell hB) | (go_at_call 30; refine (at_any _ _ _ _ _ _ (hr.up hB hb) hn).mono ?_; rintro e w' ⟨rfl, hw⟩; obtain rfl := hw.symm; clear hw) | (go_at_call 54; refine (specEnd_any _ _).mono ?_; rintro e w' ⟨rfl, hw⟩; obtain rfl := hw.symm; clear hw))
        go_ret
        exact ⟨ret_bool (Hno.out (by simp [stepS, Ph.okB, h1])).symm, hB⟩
      have H1 : Hid ((ps[k]).okB = true) := h1
      cases h3 : (atI ps (ps[k]).nm != (k : Int))
      case true =>
        have H3 : Hid ((atI ps (ps[k]).nm == (k : Int)) = false) := by show _ = _; simpa [bne] using h3
        go_wp2_with (first | (go_at_call 31; refine (in_any _ _ _ _).mono ?_; rintro e w' ⟨rfl, hw⟩; obtain rfl := hw.symm; clear hw) | (go_at_call 53; refine (specPhase_any _ _ _ _ _ _ _ _ _ z0 z1 z2 z3 z4).mono ?_; rintro e w1 ⟨rfl, hb1⟩; (first | (have hB' := up_trans hB hb1; clear hB; have hB := hB'; clear hB') | (have hB := hb1)); clear hb1; (try clear hc hf); obtain ⟨hc, hf⟩ := bcell hB) | (go_at_call 30; refine (at_any _ _ _ _ _ _ (hr.up hB hb) hn).mono ?_; rintro e w' ⟨rfl, hw⟩; obtain rfl := hw.symm; clear hw) | (go_at_call 54; refine (specEnd_any _ _).mono ?_; rintro e w' ⟨rfl, hw⟩; obtain rfl := hw.symm; clear hw))
        go_ret
        exact ⟨ret_bool (Hno.out (by simp [stepS, H3.out])).symm, hB⟩
      have H3 : Hid ((atI ps (ps[k]).nm == (k : Int)) = true) := by show _ = _; simpa [bne] using h3
      by_cases h4 : (endN (ps[k]).t == 0) = true ∧ atI ps (ps[k]).t ≤ (k : Int)
      case pos =>
        have H4 : Hid (stepS ps k ps[k] = false) := by show _ = _; simp [stepS, h4]
        obtain ⟨h4a, h4b⟩ := h4
        go_wp2_with (first | (go_at_call 31; refine (in_any _ _ _ _).mono ?_; rintro e w' ⟨rfl, hw⟩; obtain rfl := hw.symm; clear hw) | (go_at_call 53; refine (specPhase_any _ _ _ _ _ _ _ _ _ z0 z1 z2 z3 z4).mono ?_; rintro e w1 ⟨rfl, hb1⟩; (first | (have hB' := up_trans hB hb1; clear hB; have hB := hB'; clear hB') | (have hB := hb1)); clear hb1; (try clear hc hf); obtain ⟨hc, hf⟩ := bcell hB) | (go_at_call 30; refine (at_any _ _ _ _ _ _ (hr.up hB hb) hn).mono ?_; rintro e w' ⟨rfl, hw⟩; obtain rfl := hw.symm; clear hw) | (go_at_call 54; refine (specEnd_any _ _).mono ?_; rintro e w' ⟨rfl, hw⟩; obtain rfl := hw.symm; clear hw))
        go_ret
        exact ⟨ret_bool (Hno.out H4.out).symm, hB⟩
      have H4 : Hid ((!(endN (ps[k]).t == 0 && decide (atI ps (ps[k]).t ≤ (k : Int)))) = true) := nand_of h4
      by_cases h5 : (endN (ps[k]).e == 0) = true ∧ atI ps (ps[k]).e ≤ (k : Int)
      case pos =>
        have H5 : Hid (stepS ps k ps[k] = false) := by show _ = _; simp [stepS, h5]
        obtain ⟨h5a, h5b⟩ := h5
        cases h4a : (endN (ps[k]).t == 0)
        · clear h4
          go_wp2_with (first | (go_at_call 31; refine (in_any _ _ _ _).mono ?_; rintro e w' ⟨rfl, hw⟩; obtain rfl := hw.symm; clear hw) | (go_at_call 53; refine (specPhase_any _ _ _ _ _ _ _ _ _ z0 z1 z2 z3 z4).mono ?_; rintro e w1 ⟨rfl, hb1⟩; (first | (have hB' := up_trans hB hb1; clear hB; have hB := hB'; clear hB') | (have hB := hb1)); clear hb1; (try clear hc hf); obtain ⟨hc, hf⟩ := bcell hB) | (go_at_call 30; refine (at_any _ _ _ _ _ _ (hr.up hB hb) hn).mono ?_; rintro e w' ⟨rfl, hw⟩; obtain rfl := hw.symm; clear hw) | (go_at_call 54; refine (specEnd_any _ _).mono ?_; rintro e w' ⟨rfl, hw⟩; obtain rfl := hw.symm; clear hw))
          go_ret
          exact ⟨ret_bool (Hno.out H5.out).symm, hB⟩
        · have h4b : (k : Int) < atI ps (ps[k]).t := by
            rw [h4a] at h4; simpa using h4
          clear h4
          go_wp2_with (first | (go_at_call 31; refine (in_any _ _ _ _).mono ?_; rintro e w' ⟨rfl, hw⟩; obtain rfl := hw.symm; clear hw) | (go_at_call 53; refine (specPhase_any _ _ _ _ _ _ _ _ _ z0 z1 z2 z3 z4).mono ?_; rintro e w1 ⟨rfl, hb1⟩; (first | (have hB' := up_trans hB hb1; clear hB; have hB := hB'; clear hB') | (have hB := hb1)); clear hb1; (try clear hc hf); obtain ⟨hc, hf⟩ := bcell hB) | (go_at_call 30; refine (at_any _ _ _ _ _ _ (hr.up hB hb) hn).mono ?_; rintro e w' ⟨rfl, hw⟩; obtain rfl := hw.symm; clear hw) | (go_at_call 54; refine (specEnd_any _ _).mono ?_; rintro e w' ⟨rfl, hw⟩; obtain rfl := hw.symm; clear hw))
          go_ret
          exact ⟨ret_bool (Hno.out H5.out).symm, hB⟩
      have H5 : Hid (stepS ps k ps[k] = true) := by
        show _ = _
        have e5 : (!(endN (ps[k]).e == 0 && decide (atI ps (ps[k]).e ≤ (k : Int)))) = true := nand_of h5
        simp only [stepS, H1.out, H3.out, H4.out, e5, Bool.and_self]
      cases h4a : (endN (ps[k]).t == 0) <;> cases h5a : (endN (ps[k]).e == 0)
      · clear h4 h5
        go_wp2_with (first | (go_at_call 31; refine (in_any _ _ _ _).mono ?_; rintro e w' ⟨rfl, hw⟩; obtain rfl := hw.symm; clear hw) | (go_at_call 53; refine (specPhase_any _ _ _ _ _ _ _ _ _ z0 z1 z2 z3 z4).mono ?_; rintro e w1 ⟨rfl, hb1⟩; (first | (have hB' := up_trans hB hb1; clear hB; have hB := hB'; clear hB') | (have hB := hb1)); clear hb1; (try clear hc hf); obtain ⟨hc, hf⟩ := bcell hB) | (go_at_call 30; refine (at_any _ _ _ _ _ _ (hr.up hB hb) hn).mono ?_; rintro e w' ⟨rfl, hw⟩; obtain rfl := hw.symm; clear hw) | (go_at_call 54; refine (specEnd_any _ _).mono ?_; rintro e w' ⟨rfl, hw⟩; obtain rfl := hw.symm; clear hw))
        go_roundw
        case rel => exact ⟨k + 1, by omega, by go_num, Hyes.out H5.out, hB⟩
        case measure => simp [intOf]; omega
      · have h5b : (k : Int) < atI ps (ps[k]).e := by
          rw [h5a] at h5; simpa using h5
        clear h4 h5
        go_wp2_with (first | (go_at_call 31; refine (in_any _ _ _ _).mono ?_; rintro e w' ⟨rfl, hw⟩; obtain rfl := hw.symm; clear hw) | (go_at_call 53; refine (specPhase_any _ _ _ _ _ _ _ _ _ z0 z1 z2 z3 z4).mono ?_; rintro e w1 ⟨rfl, hb1⟩; (first | (have hB' := up_trans hB hb1; clear hB; have hB := hB'; clear hB') | (have hB := hb1)); clear hb1; (try clear hc hf); obtain ⟨hc, hf⟩ := bcell hB) | (go_at_call 30; refine (at_any _ _ _ _ _ _ (hr.up hB hb) hn).mono ?_; rintro e w' ⟨rfl, hw⟩; obtain rfl := hw.symm; clear hw) | (go_at_call 54; refine (specEnd_any _ _).mono ?_; rintro e w' ⟨rfl, hw⟩; obtain rfl := hw.symm; clear hw))
        go_roundw
        case rel => exact ⟨k + 1, by omega, by go_num, Hyes.out H5.out, hB⟩
        case measure => simp [intOf]; omega
      · have h4b : (k : Int) < atI ps (ps[k]).t := by
          rw [h4a] at h4; simpa using h4
        clear h4 h5
        go_wp2_with (first | (go_at_call 31; refine (in_any _ _ _ _).mono ?_; rintro e w' ⟨rfl, hw⟩; obtain rfl := hw.symm; clear hw) | (go_at_call 53; refine (specPhase_any _ _ _ _ _ _ _ _ _ z0 z1 z2 z3 z4).mono ?_; rintro e w1 ⟨rfl, hb1⟩; (first | (have hB' := up_trans hB hb1; clear hB; have hB := hB'; clear hB') | (have hB := hb1)); clear hb1; (try clear hc hf); obtain ⟨hc, hf⟩ := bcell hB) | (go_at_call 30; refine (at_any _ _ _ _ _ _ (hr.up hB hb) hn).mono ?_; rintro e w' ⟨rfl, hw⟩; obtain rfl := hw.symm; clear hw) | (go_at_call 54; refine (specEnd_any _ _).mono ?_; rintro e w' ⟨rfl, hw⟩; obtain rfl := hw.symm; clear hw))
        go_roundw
        case rel => exact ⟨k + 1, by omega, by go_num, Hyes.out H5.out, hB⟩
        case measure => simp [intOf]; omega
      · have h4b : (k : Int) < atI ps (ps[k]).t := by
          rw [h4a] at h4; simpa using h4
        have h5b : (k : Int) < atI ps (ps[k]).e := by
          rw [h5a] at h5; simpa using h5
        clear h4 h5
        go_wp2_with (first | (go_at_call 31; refine (in_any _ _ _ _).mono ?_; rintro e w' ⟨rfl, hw⟩; obtain rfl := hw.symm; clear hw) | (go_at_call 53; refine (specPhase_any _ _ _ _ _ _ _ _ _ z0 z1 z2 z3 z4).mono ?_; rintro e w1 ⟨rfl, hb1⟩; (first | (have hB' := up_trans hB hb1; clear hB; have hB := hB'; clear hB') | (have hB := hb1)); clear hb1; (try clear hc hf); obtain ⟨hc, hf⟩ := bcell hB) | (go_at_call 30; refine (at_any _ _ _ _ _ _ (hr.up hB hb) hn).mono ?_; rintro e w' ⟨rfl, hw⟩; obtain rfl := hw.symm; clear hw) | (go_at_call 54; refine (specEnd_any _ _).mono ?_; rintro e w' ⟨rfl, hw⟩; obtain rfl := hw.symm; clear hw))
        go_roundw
        case rel => exact ⟨k + 1, by omega, by go_num, Hyes.out H5.out, hB⟩
        case measure => simp [intOf]; omega
    · go_wp2
      go_ret
      exact ⟨ret_bool (recB_yesS ps k Hl.out hk hp Hal.out).symm, hB⟩
end Go.Proofs.YtliebjbbomghiaaGreatDoor
