/- The walks over recipes: ok or not, by the program. -/
import Derived.Test.YtcofjoacehacjaaGreatDoorWd
import Derived.Test.YtcofjoacehacjaaGreatDoorJ18
import Derived.Test.YtcofjoacehacjaaGreatDoorJ12
namespace Go.Proofs.YtcofjoacehacjaaGreatDoor
open Go.RowKit

set_option maxHeartbeats 4000000 in
theorem recOk_big (ps : List Ph) (b o c : Nat) (w : World) (hE : Ends w) (hr : RecAt w b o ps) (hb : b < w.heap.size) (hs : Sized ps) (hcap : ps.length ≤ c) (hc9 : c ≤ 9223372036854775807) :
    Calls Tryz.prog 20 #[.slice (some ⟨b, o, none⟩) ps.length c] w fun e w' => e = .returned (.bool (recB ps)) ∧ Below w.heap.size w w' := by
  by_cases hl : 1 ≤ ps.length
  case neg =>
    go_enter Tryz.func20, Tryz.ntmps20
    go_wp2
    go_ret
    exact ⟨ret_bool (recB_len ps (by omega)).symm, Below.refl _ _⟩
  by_cases hl2 : ps.length ≤ 12
  case neg =>
    go_enter Tryz.func20, Tryz.ntmps20
    go_wp2
    go_ret
    exact ⟨ret_bool (recB_len ps (by omega)).symm, Below.refl _ _⟩
  have HE : Hid (Ends w) := hE
  clear hE
  go_enter Tryz.func20, Tryz.ntmps20
  go_wp2_with fail
  go_loopw [16] (fun i w' => ∃ k : Nat, k ≤ ps.length ∧ i = .int .i64 k ∧ allI ps k ∧ Below w.heap.size w w') (fun i _ => ps.length - (intOf i).toNat)
  case atStart => exact ⟨0, by omega, rfl, allI_zero ps, Below.refl _ _⟩
  case round =>
    obtain ⟨k, hk, rfl, hal, hB⟩ := hrel
    have Hal : Hid (allI ps k) := hal
    clear hal
    by_cases hp : k < ps.length
    · obtain ⟨c0, c1, c2, c3, c4, c5, c6, c7⟩ := hr.cells k hp
      obtain ⟨z0, z1, z2, z3, z4⟩ := hs ps[k] (by simp)
      obtain ⟨hc, hf⟩ := bcell hB
      have Hno : Hid (stepI ps k ps[k] = false → recB ps = false) := recB_noI ps k hp
      have Hyes : Hid (stepI ps k ps[k] = true → allI ps (k + 1)) := allI_succ Hal.out hp
      have hB0 := hB
      clear hB
      by_cases hck : c = k + 1
      · have hr' : RecAt w b o (ps.drop (k + 1)) := by
          rw [List.drop_of_length_le (by omega)]; intro i p hp; simp at hp
        clear hr hs
        subst hck
        cases h1 : phaseB (ps[k]).nm (ps[k]).k (ps[k]).a (ps[k]).b (ps[k]).n (ps[k]).wi (ps[k]).t (ps[k]).e
        · go_wp2_with (first | (go_at_call 47; refine (recPhase_any _ _ _ _ _ _ _ _ _ (HE.out.up (hB0.alloc hB0.size _)) z0 z1 z2 z3 z4).mono ?_; rintro e w1 ⟨rfl, hb1⟩; (first | (have hB' := up_trans hB hb1; clear hB; have hB := hB'; clear hB') | (have hB := hb1)); clear hb1; (try clear hc hf); obtain ⟨hc, hf⟩ := bcell hB) | (go_at_call 48; refine (has_at (ps.drop (k + 1)) _ _ _ _ _ _ (by rw [List.length_drop] <;> omega) (hr'.up (up_trans (hB0.alloc hB0.size _) hB) hb) (Nat.lt_of_lt_of_le hb (up_trans (hB0.alloc hB0.size _) hB).size) (by rw [List.length_drop]; omega)).mono ?_; rintro e w1 ⟨rfl, hb1⟩; (first | (have hB' := up_trans hB hb1; clear hB; have hB := hB'; clear hB') | (have hB := hb1)); clear hb1; (try clear hc hf); obtain ⟨hc, hf⟩ := bcell hB) | (go_at_call 49; refine (goes_at (ps.drop (k + 1)) _ _ _ _ _ _ (by rw [List.length_drop] <;> omega) (HE.out.up (up_trans (hB0.alloc hB0.size _) hB)) (hr'.up (up_trans (hB0.alloc hB0.size _) hB) hb) (Nat.lt_of_lt_of_le hb (up_trans (hB0.alloc hB0.size _) hB).size) (by rw [List.length_drop]; omega)).mono ?_; rintro e w1 ⟨rfl, hb1⟩; (first | (have hB' := up_trans hB hb1; clear hB; have hB := hB'; clear hB') | (have hB := hb1)); clear hb1; (try clear hc hf); obtain ⟨hc, hf⟩ := bcell hB))
          go_ret
          exact ⟨ret_bool (Hno.out (by simp [stepI, Ph.okB, h1])).symm, up_trans (hB0.alloc hB0.size _) hB⟩
        cases h2 : hasB (ps.drop (k + 1)) (ps[k]).nm
        case true =>
          go_wp2_with (first | (go_at_call 47; refine (recPhase_any _ _ _ _ _ _ _ _ _ (HE.out.up (hB0.alloc hB0.size _)) z0 z1 z2 z3 z4).mono ?_; rintro e w1 ⟨rfl, hb1⟩; (first | (have hB' := up_trans hB hb1; clear hB; have hB := hB'; clear hB') | (have hB := hb1)); clear hb1; (try clear hc hf); obtain ⟨hc, hf⟩ := bcell hB) | (go_at_call 48; refine (has_at (ps.drop (k + 1)) _ _ _ _ _ _ (by rw [List.length_drop] <;> omega) (hr'.up (up_trans (hB0.alloc hB0.size _) hB) hb) (Nat.lt_of_lt_of_le hb (up_trans (hB0.alloc hB0.size _) hB).size) (by rw [List.length_drop]; omega)).mono ?_; rintro e w1 ⟨rfl, hb1⟩; (first | (have hB' := up_trans hB hb1; clear hB; have hB := hB'; clear hB') | (have hB := hb1)); clear hb1; (try clear hc hf); obtain ⟨hc, hf⟩ := bcell hB) | (go_at_call 49; refine (goes_at (ps.drop (k + 1)) _ _ _ _ _ _ (by rw [List.length_drop] <;> omega) (HE.out.up (up_trans (hB0.alloc hB0.size _) hB)) (hr'.up (up_trans (hB0.alloc hB0.size _) hB) hb) (Nat.lt_of_lt_of_le hb (up_trans (hB0.alloc hB0.size _) hB).size) (by rw [List.length_drop]; omega)).mono ?_; rintro e w1 ⟨rfl, hb1⟩; (first | (have hB' := up_trans hB hb1; clear hB; have hB := hB'; clear hB') | (have hB := hb1)); clear hb1; (try clear hc hf); obtain ⟨hc, hf⟩ := bcell hB))
          go_ret
          exact ⟨ret_bool (Hno.out (by simp [stepI, h2])).symm, up_trans (hB0.alloc hB0.size _) hB⟩
        cases h3 : goesB (ps.drop (k + 1)) (ps[k]).t
        · go_wp2_with (first | (go_at_call 47; refine (recPhase_any _ _ _ _ _ _ _ _ _ (HE.out.up (hB0.alloc hB0.size _)) z0 z1 z2 z3 z4).mono ?_; rintro e w1 ⟨rfl, hb1⟩; (first | (have hB' := up_trans hB hb1; clear hB; have hB := hB'; clear hB') | (have hB := hb1)); clear hb1; (try clear hc hf); obtain ⟨hc, hf⟩ := bcell hB) | (go_at_call 48; refine (has_at (ps.drop (k + 1)) _ _ _ _ _ _ (by rw [List.length_drop] <;> omega) (hr'.up (up_trans (hB0.alloc hB0.size _) hB) hb) (Nat.lt_of_lt_of_le hb (up_trans (hB0.alloc hB0.size _) hB).size) (by rw [List.length_drop]; omega)).mono ?_; rintro e w1 ⟨rfl, hb1⟩; (first | (have hB' := up_trans hB hb1; clear hB; have hB := hB'; clear hB') | (have hB := hb1)); clear hb1; (try clear hc hf); obtain ⟨hc, hf⟩ := bcell hB) | (go_at_call 49; refine (goes_at (ps.drop (k + 1)) _ _ _ _ _ _ (by rw [List.length_drop] <;> omega) (HE.out.up (up_trans (hB0.alloc hB0.size _) hB)) (hr'.up (up_trans (hB0.alloc hB0.size _) hB) hb) (Nat.lt_of_lt_of_le hb (up_trans (hB0.alloc hB0.size _) hB).size) (by rw [List.length_drop]; omega)).mono ?_; rintro e w1 ⟨rfl, hb1⟩; (first | (have hB' := up_trans hB hb1; clear hB; have hB := hB'; clear hB') | (have hB := hb1)); clear hb1; (try clear hc hf); obtain ⟨hc, hf⟩ := bcell hB))
          go_ret
          exact ⟨ret_bool (Hno.out (by simp [stepI, h3])).symm, up_trans (hB0.alloc hB0.size _) hB⟩
        cases h4 : goesB (ps.drop (k + 1)) (ps[k]).e
        · go_wp2_with (first | (go_at_call 47; refine (recPhase_any _ _ _ _ _ _ _ _ _ (HE.out.up (hB0.alloc hB0.size _)) z0 z1 z2 z3 z4).mono ?_; rintro e w1 ⟨rfl, hb1⟩; (first | (have hB' := up_trans hB hb1; clear hB; have hB := hB'; clear hB') | (have hB := hb1)); clear hb1; (try clear hc hf); obtain ⟨hc, hf⟩ := bcell hB) | (go_at_call 48; refine (has_at (ps.drop (k + 1)) _ _ _ _ _ _ (by rw [List.length_drop] <;> omega) (hr'.up (up_trans (hB0.alloc hB0.size _) hB) hb) (Nat.lt_of_lt_of_le hb (up_trans (hB0.alloc hB0.size _) hB).size) (by rw [List.length_drop]; omega)).mono ?_; rintro e w1 ⟨rfl, hb1⟩; (first | (have hB' := up_trans hB hb1; clear hB; have hB := hB'; clear hB') | (have hB := hb1)); clear hb1; (try clear hc hf); obtain ⟨hc, hf⟩ := bcell hB) | (go_at_call 49; refine (goes_at (ps.drop (k + 1)) _ _ _ _ _ _ (by rw [List.length_drop] <;> omega) (HE.out.up (up_trans (hB0.alloc hB0.size _) hB)) (hr'.up (up_trans (hB0.alloc hB0.size _) hB) hb) (Nat.lt_of_lt_of_le hb (up_trans (hB0.alloc hB0.size _) hB).size) (by rw [List.length_drop]; omega)).mono ?_; rintro e w1 ⟨rfl, hb1⟩; (first | (have hB' := up_trans hB hb1; clear hB; have hB := hB'; clear hB') | (have hB := hb1)); clear hb1; (try clear hc hf); obtain ⟨hc, hf⟩ := bcell hB))
          go_ret
          exact ⟨ret_bool (Hno.out (by simp [stepI, h4])).symm, up_trans (hB0.alloc hB0.size _) hB⟩
        have H5 : Hid (stepI ps k ps[k] = true) := by show _ = _; simp [stepI, Ph.okB, h1, h2, h3, h4]
        go_wp2_with (first | (go_at_call 47; refine (recPhase_any _ _ _ _ _ _ _ _ _ (HE.out.up (hB0.alloc hB0.size _)) z0 z1 z2 z3 z4).mono ?_; rintro e w1 ⟨rfl, hb1⟩; (first | (have hB' := up_trans hB hb1; clear hB; have hB := hB'; clear hB') | (have hB := hb1)); clear hb1; (try clear hc hf); obtain ⟨hc, hf⟩ := bcell hB) | (go_at_call 48; refine (has_at (ps.drop (k + 1)) _ _ _ _ _ _ (by rw [List.length_drop] <;> omega) (hr'.up (up_trans (hB0.alloc hB0.size _) hB) hb) (Nat.lt_of_lt_of_le hb (up_trans (hB0.alloc hB0.size _) hB).size) (by rw [List.length_drop]; omega)).mono ?_; rintro e w1 ⟨rfl, hb1⟩; (first | (have hB' := up_trans hB hb1; clear hB; have hB := hB'; clear hB') | (have hB := hb1)); clear hb1; (try clear hc hf); obtain ⟨hc, hf⟩ := bcell hB) | (go_at_call 49; refine (goes_at (ps.drop (k + 1)) _ _ _ _ _ _ (by rw [List.length_drop] <;> omega) (HE.out.up (up_trans (hB0.alloc hB0.size _) hB)) (hr'.up (up_trans (hB0.alloc hB0.size _) hB) hb) (Nat.lt_of_lt_of_le hb (up_trans (hB0.alloc hB0.size _) hB).size) (by rw [List.length_drop]; omega)).mono ?_; rintro e w1 ⟨rfl, hb1⟩; (first | (have hB' := up_trans hB hb1; clear hB; have hB := hB'; clear hB') | (have hB := hb1)); clear hb1; (try clear hc hf); obtain ⟨hc, hf⟩ := bcell hB))
        go_roundw
        case rel => exact ⟨k + 1, by omega, by go_num, Hyes.out H5.out, up_trans (hB0.alloc hB0.size _) hB⟩
        case measure => simp [intOf]; omega
      · have hr' : RecAt w b (o + (k + 1) * 8) (ps.drop (k + 1)) := hr.drop (k + 1)
        clear hr hs
        cases h1 : phaseB (ps[k]).nm (ps[k]).k (ps[k]).a (ps[k]).b (ps[k]).n (ps[k]).wi (ps[k]).t (ps[k]).e
        · go_wp2_with (first | (go_at_call 47; refine (recPhase_any _ _ _ _ _ _ _ _ _ (HE.out.up (hB0.alloc hB0.size _)) z0 z1 z2 z3 z4).mono ?_; rintro e w1 ⟨rfl, hb1⟩; (first | (have hB' := up_trans hB hb1; clear hB; have hB := hB'; clear hB') | (have hB := hb1)); clear hb1; (try clear hc hf); obtain ⟨hc, hf⟩ := bcell hB) | (go_at_call 48; refine (has_at (ps.drop (k + 1)) _ _ _ _ _ _ (by rw [List.length_drop] <;> omega) (hr'.up (up_trans (hB0.alloc hB0.size _) hB) hb) (Nat.lt_of_lt_of_le hb (up_trans (hB0.alloc hB0.size _) hB).size) (by rw [List.length_drop]; omega)).mono ?_; rintro e w1 ⟨rfl, hb1⟩; (first | (have hB' := up_trans hB hb1; clear hB; have hB := hB'; clear hB') | (have hB := hb1)); clear hb1; (try clear hc hf); obtain ⟨hc, hf⟩ := bcell hB) | (go_at_call 49; refine (goes_at (ps.drop (k + 1)) _ _ _ _ _ _ (by rw [List.length_drop] <;> omega) (HE.out.up (up_trans (hB0.alloc hB0.size _) hB)) (hr'.up (up_trans (hB0.alloc hB0.size _) hB) hb) (Nat.lt_of_lt_of_le hb (up_trans (hB0.alloc hB0.size _) hB).size) (by rw [List.length_drop]; omega)).mono ?_; rintro e w1 ⟨rfl, hb1⟩; (first | (have hB' := up_trans hB hb1; clear hB; have hB := hB'; clear hB') | (have hB := hb1)); clear hb1; (try clear hc hf); obtain ⟨hc, hf⟩ := bcell hB))
          go_ret
          exact ⟨ret_bool (Hno.out (by simp [stepI, Ph.okB, h1])).symm, up_trans (hB0.alloc hB0.size _) hB⟩
        cases h2 : hasB (ps.drop (k + 1)) (ps[k]).nm
        case true =>
          go_wp2_with (first | (go_at_call 47; refine (recPhase_any _ _ _ _ _ _ _ _ _ (HE.out.up (hB0.alloc hB0.size _)) z0 z1 z2 z3 z4).mono ?_; rintro e w1 ⟨rfl, hb1⟩; (first | (have hB' := up_trans hB hb1; clear hB; have hB := hB'; clear hB') | (have hB := hb1)); clear hb1; (try clear hc hf); obtain ⟨hc, hf⟩ := bcell hB) | (go_at_call 48; refine (has_at (ps.drop (k + 1)) _ _ _ _ _ _ (by rw [List.length_drop] <;> omega) (hr'.up (up_trans (hB0.alloc hB0.size _) hB) hb) (Nat.lt_of_lt_of_le hb (up_trans (hB0.alloc hB0.size _) hB).size) (by rw [List.length_drop]; omega)).mono ?_; rintro e w1 ⟨rfl, hb1⟩; (first | (have hB' := up_trans hB hb1; clear hB; have hB := hB'; clear hB') | (have hB := hb1)); clear hb1; (try clear hc hf); obtain ⟨hc, hf⟩ := bcell hB) | (go_at_call 49; refine (goes_at (ps.drop (k + 1)) _ _ _ _ _ _ (by rw [List.length_drop] <;> omega) (HE.out.up (up_trans (hB0.alloc hB0.size _) hB)) (hr'.up (up_trans (hB0.alloc hB0.size _) hB) hb) (Nat.lt_of_lt_of_le hb (up_trans (hB0.alloc hB0.size _) hB).size) (by rw [List.length_drop]; omega)).mono ?_; rintro e w1 ⟨rfl, hb1⟩; (first | (have hB' := up_trans hB hb1; clear hB; have hB := hB'; clear hB') | (have hB := hb1)); clear hb1; (try clear hc hf); obtain ⟨hc, hf⟩ := bcell hB))
          go_ret
          exact ⟨ret_bool (Hno.out (by simp [stepI, h2])).symm, up_trans (hB0.alloc hB0.size _) hB⟩
        cases h3 : goesB (ps.drop (k + 1)) (ps[k]).t
        · go_wp2_with (first | (go_at_call 47; refine (recPhase_any _ _ _ _ _ _ _ _ _ (HE.out.up (hB0.alloc hB0.size _)) z0 z1 z2 z3 z4).mono ?_; rintro e w1 ⟨rfl, hb1⟩; (first | (have hB' := up_trans hB hb1; clear hB; have hB := hB'; clear hB') | (have hB := hb1)); clear hb1; (try clear hc hf); obtain ⟨hc, hf⟩ := bcell hB) | (go_at_call 48; refine (has_at (ps.drop (k + 1)) _ _ _ _ _ _ (by rw [List.length_drop] <;> omega) (hr'.up (up_trans (hB0.alloc hB0.size _) hB) hb) (Nat.lt_of_lt_of_le hb (up_trans (hB0.alloc hB0.size _) hB).size) (by rw [List.length_drop]; omega)).mono ?_; rintro e w1 ⟨rfl, hb1⟩; (first | (have hB' := up_trans hB hb1; clear hB; have hB := hB'; clear hB') | (have hB := hb1)); clear hb1; (try clear hc hf); obtain ⟨hc, hf⟩ := bcell hB) | (go_at_call 49; refine (goes_at (ps.drop (k + 1)) _ _ _ _ _ _ (by rw [List.length_drop] <;> omega) (HE.out.up (up_trans (hB0.alloc hB0.size _) hB)) (hr'.up (up_trans (hB0.alloc hB0.size _) hB) hb) (Nat.lt_of_lt_of_le hb (up_trans (hB0.alloc hB0.size _) hB).size) (by rw [List.length_drop]; omega)).mono ?_; rintro e w1 ⟨rfl, hb1⟩; (first | (have hB' := up_trans hB hb1; clear hB; have hB := hB'; clear hB') | (have hB := hb1)); clear hb1; (try clear hc hf); obtain ⟨hc, hf⟩ := bcell hB))
          go_ret
          exact ⟨ret_bool (Hno.out (by simp [stepI, h3])).symm, up_trans (hB0.alloc hB0.size _) hB⟩
        cases h4 : goesB (ps.drop (k + 1)) (ps[k]).e
        · go_wp2_with (first | (go_at_call 47; refine (recPhase_any _ _ _ _ _ _ _ _ _ (HE.out.up (hB0.alloc hB0.size _)) z0 z1 z2 z3 z4).mono ?_; rintro e w1 ⟨rfl, hb1⟩; (first | (have hB' := up_trans hB hb1; clear hB; have hB := hB'; clear hB') | (have hB := hb1)); clear hb1; (try clear hc hf); obtain ⟨hc, hf⟩ := bcell hB) | (go_at_call 48; refine (has_at (ps.drop (k + 1)) _ _ _ _ _ _ (by rw [List.length_drop] <;> omega) (hr'.up (up_trans (hB0.alloc hB0.size _) hB) hb) (Nat.lt_of_lt_of_le hb (up_trans (hB0.alloc hB0.size _) hB).size) (by rw [List.length_drop]; omega)).mono ?_; rintro e w1 ⟨rfl, hb1⟩; (first | (have hB' := up_trans hB hb1; clear hB; have hB := hB'; clear hB') | (have hB := hb1)); clear hb1; (try clear hc hf); obtain ⟨hc, hf⟩ := bcell hB) | (go_at_call 49; refine (goes_at (ps.drop (k + 1)) _ _ _ _ _ _ (by rw [List.length_drop] <;> omega) (HE.out.up (up_trans (hB0.alloc hB0.size _) hB)) (hr'.up (up_trans (hB0.alloc hB0.size _) hB) hb) (Nat.lt_of_lt_of_le hb (up_trans (hB0.alloc hB0.size _) hB).size) (by rw [List.length_drop]; omega)).mono ?_; rintro e w1 ⟨rfl, hb1⟩; (first | (have hB' := up_trans hB hb1; clear hB; have hB := hB'; clear hB') | (have hB := hb1)); clear hb1; (try clear hc hf); obtain ⟨hc, hf⟩ := bcell hB))
          go_ret
          exact ⟨ret_bool (Hno.out (by simp [stepI, h4])).symm, up_trans (hB0.alloc hB0.size _) hB⟩
        have H5 : Hid (stepI ps k ps[k] = true) := by show _ = _; simp [stepI, Ph.okB, h1, h2, h3, h4]
        go_wp2_with (first | (go_at_call 47; refine (recPhase_any _ _ _ _ _ _ _ _ _ (HE.out.up (hB0.alloc hB0.size _)) z0 z1 z2 z3 z4).mono ?_; rintro e w1 ⟨rfl, hb1⟩; (first | (have hB' := up_trans hB hb1; clear hB; have hB := hB'; clear hB') | (have hB := hb1)); clear hb1; (try clear hc hf); obtain ⟨hc, hf⟩ := bcell hB) | (go_at_call 48; refine (has_at (ps.drop (k + 1)) _ _ _ _ _ _ (by rw [List.length_drop] <;> omega) (hr'.up (up_trans (hB0.alloc hB0.size _) hB) hb) (Nat.lt_of_lt_of_le hb (up_trans (hB0.alloc hB0.size _) hB).size) (by rw [List.length_drop]; omega)).mono ?_; rintro e w1 ⟨rfl, hb1⟩; (first | (have hB' := up_trans hB hb1; clear hB; have hB := hB'; clear hB') | (have hB := hb1)); clear hb1; (try clear hc hf); obtain ⟨hc, hf⟩ := bcell hB) | (go_at_call 49; refine (goes_at (ps.drop (k + 1)) _ _ _ _ _ _ (by rw [List.length_drop] <;> omega) (HE.out.up (up_trans (hB0.alloc hB0.size _) hB)) (hr'.up (up_trans (hB0.alloc hB0.size _) hB) hb) (Nat.lt_of_lt_of_le hb (up_trans (hB0.alloc hB0.size _) hB).size) (by rw [List.length_drop]; omega)).mono ?_; rintro e w1 ⟨rfl, hb1⟩; (first | (have hB' := up_trans hB hb1; clear hB; have hB := hB'; clear hB') | (have hB := hb1)); clear hb1; (try clear hc hf); obtain ⟨hc, hf⟩ := bcell hB))
        go_roundw
        case rel => exact ⟨k + 1, by omega, by go_num, Hyes.out H5.out, up_trans (hB0.alloc hB0.size _) hB⟩
        case measure => simp [intOf]; omega
    · go_wp2
      go_ret
      exact ⟨ret_bool (recB_yesI ps k ⟨hl, hl2⟩ hk hp Hal.out).symm, hB⟩
theorem recOk_any (ps : List Ph) (b o c : Nat) (w : World) (hE : Ends w) (hr : RecAt w b o ps) (hb : b < w.heap.size) (hs : Sized ps) (hcap : ps.length ≤ c) (hc9 : c ≤ 1048576) :
    Calls Tryz.prog 20 #[.slice (some ⟨b, o, none⟩) ps.length c] w fun e w' => e = .returned (.bool (recB ps)) ∧ Below w.heap.size w w' :=
  recOk_big ps b o c w hE hr hb hs hcap (by omega)
end Go.Proofs.YtcofjoacehacjaaGreatDoor
