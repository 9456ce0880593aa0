/- The walks over recipes: looking for a name. -/
import Derived.Test.YtliebjbbomghiaaGreatDoorJ0
import Derived.Test.YtliebjbbomghiaaGreatDoorJ3
import Derived.Test.YtliebjbbomghiaaGreatDoorJ10
import Derived.Deep.Cut
import Derived.Test.YtliebjbbomghiaaGreatDoorWd
import Derived.Test.YtliebjbbomghiaaGreatDoorJ5
import Derived.Deep.RegionWith
import Derived.Test.YtliebjbbomghiaaGreatDoorJ1
namespace Go.Proofs.YtliebjbbomghiaaGreatDoor
open Go.RowKit

theorem at_any (ps : List Ph) (b o c : Nat) (nm : ByteArray) (w : World) (hr : RecAt w b o ps) (hn : ps.length ≤ 1048576) :
    Calls Tryz.prog 30 #[.slice (some ⟨b, o, none⟩) ps.length c, .string nm] w fun e w' => e = .returned (.int .i64 (atI ps nm)) ∧ w' = w := by
  go_enter Tryz.func30, Tryz.ntmps30
  go_wp2
  go_loop [5] (fun i => ∃ k : Nat, k ≤ ps.length ∧ i = .int .i64 k ∧ hasB (ps.take k) nm = false) (fun i => ps.length - (intOf i).toNat)
  case atStart => exact ⟨0, by omega, rfl, rfl⟩
  case round =>
    obtain ⟨k, hk, rfl, hal⟩ := hrel
    have Hal : Hid (hasB (ps.take k) nm = false) := hal
    clear hal
    by_cases hp : k < ps.length
    · obtain ⟨c0, -⟩ := hr.cells k hp
      cases hq : ((ps[k]).nm.toList == nm.toList)
      · have Hq : Hid (((ps[k]).nm.toList == nm.toList) = false) := hq
        go_wp2
        go_round
        case rel => exact ⟨k + 1, by omega, by go_num, by rw [hasB_take ps nm k hp, Hal.out, Hq.out]; rfl⟩
        case measure => simp [intOf]; omega
      · have Hq : Hid (((ps[k]).nm.toList == nm.toList) = true) := hq
        go_wp2
        go_ret
        exact ⟨ret_int (atI_found ps nm k hp Hal.out Hq.out).symm, rfl⟩
    · go_wp2
      go_ret
      exact ⟨ret_int (atI_none ps nm (hasB_all ps nm k hp Hal.out)).symm, rfl⟩

def Ph.none : Ph := ⟨⟨#[]⟩, 0, ⟨#[]⟩, ⟨#[]⟩, 0, 0, ⟨#[]⟩, ⟨#[]⟩⟩
set_option maxHeartbeats 1000000 in
/-- The first phase of a name, and whether there is one. -/
theorem phaseOf_any (ps : List Ph) (b o c : Nat) (nm : ByteArray) (w : World) (hr : RecAt w b o ps) (hb : b < w.heap.size) (hn : ps.length ≤ 1048576) :
    Calls Tryz.prog 24 #[.slice (some ⟨b, o, none⟩) ps.length c, .string nm] w fun e w' =>
      (∃ p : Ph, e = .returned (.tuple #[.agg #[.string (p).nm, .int .i64 (p).k, .string (p).a, .string (p).b, .int .i64 (p).n, .int .i64 (p).wi, .string (p).t, .string (p).e], .bool (hasB ps nm)]) ∧ ∀ (k : Nat) (hk : k < ps.length), atI ps nm = (k : Int) → p = ps[k]) ∧ Below w.heap.size w w' := by
  go_enter Tryz.func24, Tryz.ntmps24
  go_wp2
  go_loopw [10] (fun i w' => ∃ k : Nat, k ≤ ps.length ∧ i = .int .i64 k ∧ hasB (ps.take k) nm = false ∧ Below w.heap.size w w' ∧ CB w' w.heap.size Ph.none.cells) (fun i _ => ps.length - (intOf i).toNat)
  case atStart => exact ⟨0, by omega, rfl, rfl, (Below.refl _ _).alloc (Nat.le_refl _) _, cb_alloc w Ph.none.cells 34⟩
  case round =>
    obtain ⟨k, hk, rfl, hal, hB, hC⟩ := hrel
    have Hal : Hid (hasB (ps.take k) nm = false) := hal
    clear hal
    by_cases hp : k < ps.length
    · obtain ⟨c0, c1, c2, c3, c4, c5, c6, c7⟩ := (hr.up hB hb).cells k hp
      have hlt := hC.2.2
      have hne : ¬ w.heap.size = wr.heap.size := by omega
      have hen : ¬ wr.heap.size = w.heap.size := by omega
      cases hq : ((ps[k]).nm.toList == nm.toList)
      · have Hq : Hid (((ps[k]).nm.toList == nm.toList) = false) := hq
        go_wp2
        go_roundw
        case rel => exact ⟨k + 1, by omega, by go_num, by rw [hasB_take ps nm k hp, Hal.out, Hq.out]; rfl, hB.alloc hB.size _, hC.up ((Below.refl wr.heap.size _).alloc (Nat.le_refl _) _) hlt⟩
        case measure => simp [intOf]; omega
      · have Hq : Hid (((ps[k]).nm.toList == nm.toList) = true) := hq
        go_upto_region 5 with fail
        have hC2 : CB (wr.alloc (.cells #[.string (ps[k]).nm, .int .i64 (ps[k]).k, .string (ps[k]).a, .string (ps[k]).b, .int .i64 (ps[k]).n, .int .i64 (ps[k]).wi, .string (ps[k]).t, .string (ps[k]).e] 34)) w.heap.size Ph.none.cells := hC.up ((Below.refl wr.heap.size _).alloc (Nat.le_refl _) _) hlt
        have hP2 : CB (wr.alloc (.cells #[.string (ps[k]).nm, .int .i64 (ps[k]).k, .string (ps[k]).a, .string (ps[k]).b, .int .i64 (ps[k]).n, .int .i64 (ps[k]).wi, .string (ps[k]).t, .string (ps[k]).e] 34)) wr.heap.size (ps[k]).cells := cb_alloc wr (ps[k]).cells _
        have hB2 := hB.alloc hB.size (.cells #[.string (ps[k]).nm, .int .i64 (ps[k]).k, .string (ps[k]).a, .string (ps[k]).b, .int .i64 (ps[k]).n, .int .i64 (ps[k]).wi, .string (ps[k]).t, .string (ps[k]).e] 34)
        clear c0 c1 c2 c3 c4 c5 c6 c7
        generalize wr.alloc (.cells #[.string (ps[k]).nm, .int .i64 (ps[k]).k, .string (ps[k]).a, .string (ps[k]).b, .int .i64 (ps[k]).n, .int .i64 (ps[k]).wi, .string (ps[k]).t, .string (ps[k]).e] 34) = W2 at *
        obtain ⟨⟨c0, c1, c2, c3, c4, c5, c6, c7⟩, -⟩ := hP2.c8
        obtain ⟨⟨d0, d1, d2, d3, d4, d5, d6, d7⟩, f0, f1, f2, f3, f4, f5, f6, f7⟩ := hC2.c8
        go_wp2_with fail
        refine bodyPost_ret (ret_cb2 (v := .bool true) (rk := w.heap.size) (cs := (ps[k]).cells) Tryz.results24 Tryz.underlying34 rfl sizeP ?ht ?hv ?hZ) rfl ?_
        case ht => rfl
        case hv => rfl
        case hZ => exact hC2.copy8 _ _ _ _ _ _ _ _
        refine ⟨⟨ps[k], ?_, ?_⟩, below_set8 hB2 (Nat.le_refl _) _ _ _ _ _ _ _ _⟩
        · rw [hasB_yes ps nm k hp Hq.out]; rfl
        · intro j hj ha
          have := atI_found ps nm k hp Hal.out Hq.out
          obtain rfl : j = k := by omega
          rfl
    · obtain ⟨⟨d0, d1, d2, d3, d4, d5, d6, d7⟩, f0, f1, f2, f3, f4, f5, f6, f7⟩ := hC.c8
      go_wp2_with fail
      refine bodyPost_ret (ret_cb2 (v := .bool false) (rk := w.heap.size) (cs := Ph.none.cells) Tryz.results24 Tryz.underlying34 rfl sizeP ?ht ?hv ?hZ) rfl ?_
      case ht => rfl
      case hv => rfl
      case hZ => exact hC.copy8 _ _ _ _ _ _ _ _
      refine ⟨⟨Ph.none, ?_, ?_⟩, below_set8 hB (Nat.le_refl _) _ _ _ _ _ _ _ _⟩
      · rw [hasB_all ps nm k hp Hal.out]; rfl
      · intro j hj ha
        have := atI_none ps nm (hasB_all ps nm k hp Hal.out)
        omega

theorem has_any (ps : List Ph) (b o c : Nat) (nm : ByteArray) (w : World) (hr : RecAt w b o ps) (hb : b < w.heap.size) (hn : ps.length ≤ 1048576) :
    Calls Tryz.prog 51 #[.slice (some ⟨b, o, none⟩) ps.length c, .string nm] w fun e w' => e = .returned (.bool (hasB ps nm)) ∧ Below w.heap.size w w' := by
  go_enter Tryz.func51, Tryz.ntmps51
  go_wp2_with fail
  refine (phaseOf_any ps b o c nm _ hr hb hn).mono ?_
  rintro e w1 ⟨⟨p, rfl, -⟩, hB1⟩
  go_wp2_with fail
  go_ret
  exact ⟨rfl, hB1.alloc hB1.size _⟩

theorem goes_any (ps : List Ph) (b o c : Nat) (nm : ByteArray) (w : World) (hE : Ends w) (hr : RecAt w b o ps) (hb : b < w.heap.size) (hn : ps.length ≤ 1048576) :
    Calls Tryz.prog 52 #[.slice (some ⟨b, o, none⟩) ps.length c, .string nm] w fun e w' => e = .returned (.bool (goesB ps nm)) ∧ Below w.heap.size w w' := by
  have HE : Hid (Ends w) := hE
  clear hE
  cases h : (endN nm != 0)
  · go_enter Tryz.func52, Tryz.ntmps52
    go_wp2_with (first | (go_at_call 63; refine (recEnd_any _ _ HE.out).mono ?_; rintro e w' ⟨rfl, hw⟩; obtain rfl := hw.symm; clear hw) | (go_at_call 51; refine (has_any _ _ _ _ _ _ hr hb hn).mono ?_; rintro e w1 ⟨rfl, hb1⟩; (first | (have hB' := up_trans hB hb1; clear hB; have hB := hB'; clear hB') | (have hB := hb1)); clear hb1; (try clear hc hf); obtain ⟨hc, hf⟩ := bcell hB))
    go_ret
    exact ⟨ret_bool (by simp [goesB, h]), hB⟩
  · go_enter Tryz.func52, Tryz.ntmps52
    go_wp2_with (first | (go_at_call 63; refine (recEnd_any _ _ HE.out).mono ?_; rintro e w' ⟨rfl, hw⟩; obtain rfl := hw.symm; clear hw) | (go_at_call 51; refine (has_any _ _ _ _ _ _ hr hb hn).mono ?_; rintro e w1 ⟨rfl, hb1⟩; (first | (have hB' := up_trans hB hb1; clear hB; have hB := hB'; clear hB') | (have hB := hb1)); clear hb1; (try clear hc hf); obtain ⟨hc, hf⟩ := bcell hB))
    go_ret
    exact ⟨ret_bool (by simp [goesB, h]), Below.refl _ _⟩

theorem has_at (ps : List Ph) (n b o c : Nat) (nm : ByteArray) (w : World) (hl : ps.length = n) (hr : RecAt w b o ps) (hb : b < w.heap.size) (hn : ps.length ≤ 1048576) :
    Calls Tryz.prog 51 #[.slice (some ⟨b, o, none⟩) n c, .string nm] w fun e w' => e = .returned (.bool (hasB ps nm)) ∧ Below w.heap.size w w' := by
  subst hl; exact has_any ps b o c nm w hr hb hn
theorem goes_at (ps : List Ph) (n b o c : Nat) (nm : ByteArray) (w : World) (hl : ps.length = n) (hE : Ends w) (hr : RecAt w b o ps) (hb : b < w.heap.size) (hn : ps.length ≤ 1048576) :
    Calls Tryz.prog 52 #[.slice (some ⟨b, o, none⟩) n c, .string nm] w fun e w' => e = .returned (.bool (goesB ps nm)) ∧ Below w.heap.size w w' := by
  subst hl; exact goes_any ps b o c nm w hE hr hb hn
end Go.Proofs.YtliebjbbomghiaaGreatDoor

/- The walks over recipes: ok or not, by the program. -/
namespace Go.Proofs.YtliebjbbomghiaaGreatDoor
open Go.RowKit

set_option maxHeartbeats 4000000 in
theorem recOk_big (ps : List Ph) (b o c : Nat) (w : World) (hE : Ends w) (hr : RecAt w b o ps) (hb : b < w.heap.size) (hs : Sized ps) (hcap : ps.length ≤ c) (hc9 : c ≤ 9223372036854775807) :
    Calls Tryz.prog 23 #[.slice (some ⟨b, o, none⟩) ps.length c] w fun e w' => e = .returned (.bool (recB ps)) ∧ Below w.heap.size w w' := by
  by_cases hl : 1 ≤ ps.length
  case neg =>
    go_enter Tryz.func23, Tryz.ntmps23
    go_wp2
    go_ret
    exact ⟨ret_bool (recB_len ps (by omega)).symm, Below.refl _ _⟩
  by_cases hl2 : ps.length ≤ 12
  case neg =>
    go_enter Tryz.func23, Tryz.ntmps23
    go_wp2
    go_ret
    exact ⟨ret_bool (recB_len ps (by omega)).symm, Below.refl _ _⟩
  have HE : Hid (Ends w) := hE
  clear hE
  go_enter Tryz.func23, Tryz.ntmps23
  go_wp2_with fail
  go_loopw [16] (fun i w' => ∃ k : Nat, k ≤ ps.length ∧ i = .int .i64 k ∧ allI ps k ∧ Below w.heap.size w w') (fun i _ => ps.length - (intOf i).toNat)
  case atStart => exact ⟨0, by omega, rfl, allI_zero ps, Below.refl _ _⟩
  case round =>
    obtain ⟨k, hk, rfl, hal, hB⟩ := hrel
    have Hal : Hid (allI ps k) := hal
    clear hal
    by_cases hp : k < ps.length
    · obtain ⟨c0, c1, c2, c3, c4, c5, c6, c7⟩ := hr.cells k hp
      obtain ⟨z0, z1, z2, z3, z4⟩ := hs ps[k] (by simp)
      obtain ⟨hc, hf⟩ := bcell hB
      have Hno : Hid (stepI ps k ps[k] = false → recB ps = false) := recB_noI ps k hp
      have Hyes : Hid (stepI ps k ps[k] = true → allI ps (k + 1)) := allI_succ Hal.out hp
      have hB0 := hB
      clear hB
      by_cases hck : c = k + 1
      · have hr' : RecAt w b o (ps.drop (k + 1)) := by
          rw [List.drop_of_length_le (by omega)]; intro i p hp; simp at hp
        clear hr hs
        subst hck
        cases h1 : phaseB (ps[k]).nm (ps[k]).k (ps[k]).a (ps[k]).b (ps[k]).n (ps[k]).wi (ps[k]).t (ps[k]).e
        · go_wp2_with (first | (go_at_call 50; refine (recPhase_any _ _ _ _ _ _ _ _ _ (HE.out.up (hB0.alloc hB0.size _)) z0 z1 z2 z3 z4).mono ?_; rintro e w1 ⟨rfl, hb1⟩; (first | (have hB' := up_trans hB hb1; clear hB; have hB := hB'; clear hB') | (have hB := hb1)); clear hb1; (try clear hc hf); obtain ⟨hc, hf⟩ := bcell hB) | (go_at_call 51; refine (has_at (ps.drop (k + 1)) _ _ _ _ _ _ (by rw [List.length_drop] <;> omega) (hr'.up (up_trans (hB0.alloc hB0.size _) hB) hb) (Nat.lt_of_lt_of_le hb (up_trans (hB0.alloc hB0.size _) hB).size) (by rw [List.length_drop]; omega)).mono ?_; rintro e w1 ⟨rfl, hb1⟩; (first | (have hB' := up_trans hB hb1; clear hB; have hB := hB'; clear hB') | (have hB := hb1)); clear hb1; (try clear hc hf); obtain ⟨hc, hf⟩ := bcell hB) | (go_at_call 52; refine (goes_at (ps.drop (k + 1)) _ _ _ _ _ _ (by rw [List.length_drop] <;> omega) (HE.out.up (up_trans (hB0.alloc hB0.size _) hB)) (hr'.up (up_trans (hB0.alloc hB0.size _) hB) hb) (Nat.lt_of_lt_of_le hb (up_trans (hB0.alloc hB0.size _) hB).size) (by rw [List.length_drop]; omega)).mono ?_; rintro e w1 ⟨rfl, hb1⟩; (first | (have hB' := up_trans hB hb1; clear hB; have hB := hB'; clear hB') | (have hB := hb1)); clear hb1; (try clear hc hf); obtain ⟨hc, hf⟩ := bcell hB))
          go_ret
          exact ⟨ret_bool (Hno.out (by simp [stepI, Ph.okB, h1])).symm, up_trans (hB0.alloc hB0.size _) hB⟩
        cases h2 : hasB (ps.drop (k + 1)) (ps[k]).nm
        case true =>
          go_wp2_with (first | (go_at_call 50; refine (recPhase_any _ _ _ _ _ _ _ _ _ (HE.out.up (hB0.alloc hB0.size _)) z0 z1 z2 z3 z4).mono ?_; rintro e w1 ⟨rfl, hb1⟩; (first | (have hB' := up_trans hB hb1; clear hB; have hB := hB'; clear hB') | (have hB := hb1)); clear hb1; (try clear hc hf); obtain ⟨hc, hf⟩ := bcell hB) | (go_at_call 51; refine (has_at (ps.drop (k + 1)) _ _ _ _ _ _ (by rw [List.length_drop] <;> omega) (hr'.up (up_trans (hB0.alloc hB0.size _) hB) hb) (Nat.lt_of_lt_of_le hb (up_trans (hB0.alloc hB0.size _) hB).size) (by rw [List.length_drop]; omega)).mono ?_; rintro e w1 ⟨rfl, hb1⟩; (first | (have hB' := up_trans hB hb1; clear hB; have hB := hB'; clear hB') | (have hB := hb1)); clear hb1; (try clear hc hf); obtain ⟨hc, hf⟩ := bcell hB) | (go_at_call 52; refine (goes_at (ps.drop (k + 1)) _ _ _ _ _ _ (by rw [List.length_drop] <;> omega) (HE.out.up (up_trans (hB0.alloc hB0.size _) hB)) (hr'.up (up_trans (hB0.alloc hB0.size _) hB) hb) (Nat.lt_of_lt_of_le hb (up_trans (hB0.alloc hB0.size _) hB).size) (by rw [List.length_drop]; omega)).mono ?_; rintro e w1 ⟨rfl, hb1⟩; (first | (have hB' := up_trans hB hb1; clear hB; have hB := hB'; clear hB') | (have hB := hb1)); clear hb1; (try clear hc hf); obtain ⟨hc, hf⟩ := bcell hB))
          go_ret
          exact ⟨ret_bool (Hno.out (by simp [stepI, h2])).symm, up_trans (hB0.alloc hB0.size _) hB⟩
        cases h3 : goesB (ps.drop (k + 1)) (ps[k]).t
        · go_wp2_with (first | (go_at_call 50; refine (recPhase_any _ _ _ _ _ _ _ _ _ (HE.out.up (hB0.alloc hB0.size _)) z0 z1 z2 z3 z4).mono ?_; rintro e w1 ⟨rfl, hb1⟩; (first | (have hB' := up_trans hB hb1; clear hB; have hB := hB'; clear hB') | (have hB := hb1)); clear hb1; (try clear hc hf); obtain ⟨hc, hf⟩ := bcell hB) | (go_at_call 51; refine (has_at (ps.drop (k + 1)) _ _ _ _ _ _ (by rw [List.length_drop] <;> omega) (hr'.up (up_trans (hB0.alloc hB0.size _) hB) hb) (Nat.lt_of_lt_of_le hb (up_trans (hB0.alloc hB0.size _) hB).size) (by rw [List.length_drop]; omega)).mono ?_; rintro e w1 ⟨rfl, hb1⟩; (first | (have hB' := up_trans hB hb1; clear hB; have hB := hB'; clear hB') | (have hB := hb1)); clear hb1; (try clear hc hf); obtain ⟨hc, hf⟩ := bcell hB) | (go_at_call 52; refine (goes_at (ps.drop (k + 1)) _ _ _ _ _ _ (by rw [List.length_drop] <;> omega) (HE.out.up (up_trans (hB0.alloc hB0.size _) hB)) (hr'.up (up_trans (hB0.alloc hB0.size _) hB) hb) (Nat.lt_of_lt_of_le hb (up_trans (hB0.alloc hB0.size _) hB).size) (by rw [List.length_drop]; omega)).mono ?_; rintro e w1 ⟨rfl, hb1⟩; (first | (have hB' := up_trans hB hb1; clear hB; have hB := hB'; clear hB') | (have hB := hb1)); clear hb1; (try clear hc hf); obtain ⟨hc, hf⟩ := bcell hB))
          go_ret
          exact ⟨ret_bool (Hno.out (by simp [stepI, h3])).symm, up_trans (hB0.alloc hB0.size _) hB⟩
        cases h4 : goesB (ps.drop (k + 1)) (ps[k]).e
        · go_wp2_with (first | (go_at_call 50; refine (recPhase_any _ _ _ _ _ _ _ _ _ (HE.out.up (hB0.alloc hB0.size _)) z0 z1 z2 z3 z4).mono ?_; rintro e w1 ⟨rfl, hb1⟩; (first | (have hB' := up_trans hB hb1; clear hB; have hB := hB'; clear hB') | (have hB := hb1)); clear hb1; (try clear hc hf); obtain ⟨hc, hf⟩ := bcell hB) | (go_at_call 51; refine (has_at (ps.drop (k + 1)) _ _ _ _ _ _ (by rw [List.length_drop] <;> omega) (hr'.up (up_trans (hB0.alloc hB0.size _) hB) hb) (Nat.lt_of_lt_of_le hb (up_trans (hB0.alloc hB0.size _) hB).size) (by rw [List.length_drop]; omega)).mono ?_; rintro e w1 ⟨rfl, hb1⟩; (first | (have hB' := up_trans hB hb1; clear hB; have hB := hB'; clear hB') | (have hB := hb1)); clear hb1; (try clear hc hf); obtain ⟨hc, hf⟩ := bcell hB) | (go_at_call 52; refine (goes_at (ps.drop (k + 1)) _ _ _ _ _ _ (by rw [List.length_drop] <;> omega) (HE.out.up (up_trans (hB0.alloc hB0.size _) hB)) (hr'.up (up_trans (hB0.alloc hB0.size _) hB) hb) (Nat.lt_of_lt_of_le hb (up_trans (hB0.alloc hB0.size _) hB).size) (by rw [List.length_drop]; omega)).mono ?_; rintro e w1 ⟨rfl, hb1⟩; (first | (have hB' := up_trans hB hb1; clear hB; have hB := hB'; clear hB') | (have hB := hb1)); clear hb1; (try clear hc hf); obtain ⟨hc, hf⟩ := bcell hB))
          go_ret
          exact ⟨ret_bool (Hno.out (by simp [stepI, h4])).symm, up_trans (hB0.alloc hB0.size _) hB⟩
        have H5 : Hid (stepI ps k ps[k] = true) := by show _ = _; simp [stepI, Ph.okB, h1, h2, h3, h4]
        go_wp2_with (first | (go_at_call 50; refine (recPhase_any _ _ _ _ _ _ _ _ _ (HE.out.up (hB0.alloc hB0.size _)) z0 z1 z2 z3 z4).mono ?_; rintro e w1 ⟨rfl, hb1⟩; (first | (have hB' := up_trans hB hb1; clear hB; have hB := hB'; clear hB') | (have hB := hb1)); clear hb1; (try clear hc hf); obtain ⟨hc, hf⟩ := bcell hB) | (go_at_call 51; refine (has_at (ps.drop (k + 1)) _ _ _ _ _ _ (by rw [List.length_drop] <;> omega) (hr'.up (up_trans (hB0.alloc hB0.size _) hB) hb) (Nat.lt_of_lt_of_le hb (up_trans (hB0.alloc hB0.size _) hB).size) (by rw [List.length_drop]; omega)).mono ?_; rintro e w1 ⟨rfl, hb1⟩; (first | (have hB' := up_trans hB hb1; clear hB; have hB := hB'; clear hB') | (have hB := hb1)); clear hb1; (try clear hc hf); obtain ⟨hc, hf⟩ := bcell hB) | (go_at_call 52; refine (goes_at (ps.drop (k + 1)) _ _ _ _ _ _ (by rw [List.length_drop] <;> omega) (HE.out.up (up_trans (hB0.alloc hB0.size _) hB)) (hr'.up (up_trans (hB0.alloc hB0.size _) hB) hb) (Nat.lt_of_lt_of_le hb (up_trans (hB0.alloc hB0.size _) hB).size) (by rw [List.length_drop]; omega)).mono ?_; rintro e w1 ⟨rfl, hb1⟩; (first | (have hB' := up_trans hB hb1; clear hB; have hB := hB'; clear hB') | (have hB := hb1)); clear hb1; (try clear hc hf); obtain ⟨hc, hf⟩ := bcell hB))
        go_roundw
        case rel => exact ⟨k + 1, by omega, by go_num, Hyes.out H5.out, up_trans (hB0.alloc hB0.size _) hB⟩
        case measure => simp [intOf]; omega
      · have hr' : RecAt w b (o + (k + 1) * 8) (ps.drop (k + 1)) := hr.drop (k + 1)
        clear hr hs
        cases h1 : phaseB (ps[k]).nm (ps[k]).k (ps[k]).a (ps[k]).b (ps[k]).n (ps[k]).wi (ps[k]).t (ps[k]).e
        · go_wp2_with (first | (go_at_call 50; refine (recPhase_any _ _ _ _ _ _ _ _ _ (HE.out.up (hB0.alloc hB0.size _)) z0 z1 z2 z3 z4).mono ?_; rintro e w1 ⟨rfl, hb1⟩; (first | (have hB' := up_trans hB hb1; clear hB; have hB := hB'; clear hB') | (have hB := hb1)); clear hb1; (try clear hc hf); obtain ⟨hc, hf⟩ := bcell hB) | (go_at_call 51; refine (has_at (ps.drop (k + 1)) _ _ _ _ _ _ (by rw [List.length_drop] <;> omega) (hr'.up (up_trans (hB0.alloc hB0.size _) hB) hb) (Nat.lt_of_lt_of_le hb (up_trans (hB0.alloc hB0.size _) hB).size) (by rw [List.length_drop]; omega)).mono ?_; rintro e w1 ⟨rfl, hb1⟩; (first | (have hB' := up_trans hB hb1; clear hB; have hB := hB'; clear hB') | (have hB := hb1)); clear hb1; (try clear hc hf); obtain ⟨hc, hf⟩ := bcell hB) | (go_at_call 52; refine (goes_at (ps.drop (k + 1)) _ _ _ _ _ _ (by rw [List.length_drop] <;> omega) (HE.out.up (up_trans (hB0.alloc hB0.size _) hB)) (hr'.up (up_trans (hB0.alloc hB0.size _) hB) hb) (Nat.lt_of_lt_of_le hb (up_trans (hB0.alloc hB0.size _) hB).size) (by rw [List.length_drop]; omega)).mono ?_; rintro e w1 ⟨rfl, hb1⟩; (first | (have hB' := up_trans hB hb1; clear hB; have hB := hB'; clear hB') | (have hB := hb1)); clear hb1; (try clear hc hf); obtain ⟨hc, hf⟩ := bcell hB))
          go_ret
          exact ⟨ret_bool (Hno.out (by simp [stepI, Ph.okB, h1])).symm, up_trans (hB0.alloc hB0.size _) hB⟩
        cases h2 : hasB (ps.drop (k + 1)) (ps[k]).nm
        case true =>
          go_wp2_with (first | (go_at_call 50; refine (recPhase_any _ _ _ _ _ _ _ _ _ (HE.out.up (hB0.alloc hB0.size _)) z0 z1 z2 z3 z4).mono ?_; rintro e w1 ⟨rfl, hb1⟩; (first | (have hB' := up_trans hB hb1; clear hB; have hB := hB'; clear hB') | (have hB := hb1)); clear hb1; (try clear hc hf); obtain ⟨hc, hf⟩ := bcell hB) | (go_at_call 51; refine (has_at (ps.drop (k + 1)) _ _ _ _ _ _ (by rw [List.length_drop] <;> omega) (hr'.up (up_trans (hB0.alloc hB0.size _) hB) hb) (Nat.lt_of_lt_of_le hb (up_trans (hB0.alloc hB0.size _) hB).size) (by rw [List.length_drop]; omega)).mono ?_; rintro e w1 ⟨rfl, hb1⟩; (first | (have hB' := up_trans hB hb1; clear hB; have hB := hB'; clear hB') | (have hB := hb1)); clear hb1; (try clear hc hf); obtain ⟨hc, hf⟩ := bcell hB) | (go_at_call 52; refine (goes_at (ps.drop (k + 1)) _ _ _ _ _ _ (by rw [List.length_drop] <;> omega) (HE.out.up (up_trans (hB0.alloc hB0.size _) hB)) (hr'.up (up_trans (hB0.alloc hB0.size _) hB) hb) (Nat.lt_of_lt_of_le hb (up_trans (hB0.alloc hB0.size _) hB).size) (by rw [List.length_drop]; omega)).mono ?_; rintro e w1 ⟨rfl, hb1⟩; (first | (have hB' := up_trans hB hb1; clear hB; have hB := hB'; clear hB') | (have hB := hb1)); clear hb1; (try clear hc hf); obtain ⟨hc, hf⟩ := bcell hB))
          go_ret
          exact ⟨ret_bool (Hno.out (by simp [stepI, h2])).symm, up_trans (hB0.alloc hB0.size _) hB⟩
        cases h3 : goesB (ps.drop (k + 1)) (ps[k]).t
        · go_wp2_with (first | (go_at_call 50; refine (recPhase_any _ _ _ _ _ _ _ _ _ (HE.out.up (hB0.alloc hB0.size _)) z0 z1 z2 z3 z4).mono ?_; rintro e w1 ⟨rfl, hb1⟩; (first | (have hB' := up_trans hB hb1; clear hB; have hB := hB'; clear hB') | (have hB := hb1)); clear hb1; (try clear hc hf); obtain ⟨hc, hf⟩ := bcell hB) | (go_at_call 51; refine (has_at (ps.drop (k + 1)) _ _ _ _ _ _ (by rw [List.length_drop] <;> omega) (hr'.up (up_trans (hB0.alloc hB0.size _) hB) hb) (Nat.lt_of_lt_of_le hb (up_trans (hB0.alloc hB0.size _) hB).size) (by rw [List.length_drop]; omega)).mono ?_; rintro e w1 ⟨rfl, hb1⟩; (first | (have hB' := up_trans hB hb1; clear hB; have hB := hB'; clear hB') | (have hB := hb1)); clear hb1; (try clear hc hf); obtain ⟨hc, hf⟩ := bcell hB) | (go_at_call 52; refine (goes_at (ps.drop (k + 1)) _ _ _ _ _ _ (by rw [List.length_drop] <;> omega) (HE.out.up (up_trans (hB0.alloc hB0.size _) hB)) (hr'.up (up_trans (hB0.alloc hB0.size _) hB) hb) (Nat.lt_of_lt_of_le hb (up_trans (hB0.alloc hB0.size _) hB).size) (by rw [List.length_drop]; omega)).mono ?_; rintro e w1 ⟨rfl, hb1⟩; (first | (have hB' := up_trans hB hb1; clear hB; have hB := hB'; clear hB') | (have hB := hb1)); clear hb1; (try clear hc hf); obtain ⟨hc, hf⟩ := bcell hB))
          go_ret
          exact ⟨ret_bool (Hno.out (by simp [stepI, h3])).symm, up_trans (hB0.alloc hB0.size _) hB⟩
        cases h4 : goesB (ps.drop (k + 1)) (ps[k]).e
        · go_wp2_with (first | (go_at_call 50; refine (recPhase_any _ _ _ _ _ _ _ _ _ (HE.out.up (hB0.alloc hB0.size _)) z0 z1 z2 z3 z4).mono ?_; rintro e w1 ⟨rfl, hb1⟩; (first | (have hB' := up_trans hB hb1; clear hB; have hB := hB'; clear hB') | (have hB := hb1)); clear hb1; (try clear hc hf); obtain ⟨hc, hf⟩ := bcell hB) | (go_at_call 51; refine (has_at (ps.drop (k + 1)) _ _ _ _ _ _ (by rw [List.length_drop] <;> omega) (hr'.up (up_trans (hB0.alloc hB0.size _) hB) hb) (Nat.lt_of_lt_of_le hb (up_trans (hB0.alloc hB0.size _) hB).size) (by rw [List.length_drop]; omega)).mono ?_; rintro e w1 ⟨rfl, hb1⟩; (first | (have hB' := up_trans hB hb1; clear hB; have hB := hB'; clear hB') | (have hB := hb1)); clear hb1; (try clear hc hf); obtain ⟨hc, hf⟩ := bcell hB) | (go_at_call 52; refine (goes_at (ps.drop (k + 1)) _ _ _ _ _ _ (by rw [List.length_drop] <;> omega) (HE.out.up (up_trans (hB0.alloc hB0.size _) hB)) (hr'.up (up_trans (hB0.alloc hB0.size _) hB) hb) (Nat.lt_of_lt_of_le hb (up_trans (hB0.alloc hB0.size _) hB).size) (by rw [List.length_drop]; omega)).mono ?_; rintro e w1 ⟨rfl, hb1⟩; (first | (have hB' := up_trans hB hb1; clear hB; have hB := hB'; clear hB') | (have hB := hb1)); clear hb1; (try clear hc hf); obtain ⟨hc, hf⟩ := bcell hB))
          go_ret
          exact ⟨ret_bool (Hno.out (by simp [stepI, h4])).symm, up_trans (hB0.alloc hB0.size _) hB⟩
        have H5 : Hid (stepI ps k ps[k] = true) := by show _ = _; simp [stepI, Ph.okB, h1, h2, h3, h4]
        go_wp2_with (first | (go_at_call 50; refine (recPhase_any _ _ _ _ _ _ _ _ _ (HE.out.up (hB0.alloc hB0.size _)) z0 z1 z2 z3 z4).mono ?_; rintro e w1 ⟨rfl, hb1⟩; (first | (have hB' := up_trans hB hb1; clear hB; have hB := hB'; clear hB') | (have hB := hb1)); clear hb1; (try clear hc hf); obtain ⟨hc, hf⟩ := bcell hB) | (go_at_call 51; refine (has_at (ps.drop (k + 1)) _ _ _ _ _ _ (by rw [List.length_drop] <;> omega) (hr'.up (up_trans (hB0.alloc hB0.size _) hB) hb) (Nat.lt_of_lt_of_le hb (up_trans (hB0.alloc hB0.size _) hB).size) (by rw [List.length_drop]; omega)).mono ?_; rintro e w1 ⟨rfl, hb1⟩; (first | (have hB' := up_trans hB hb1; clear hB; have hB := hB'; clear hB') | (have hB := hb1)); clear hb1; (try clear hc hf); obtain ⟨hc, hf⟩ := bcell hB) | (go_at_call 52; refine (goes_at (ps.drop (k + 1)) _ _ _ _ _ _ (by rw [List.length_drop] <;> omega) (HE.out.up (up_trans (hB0.alloc hB0.size _) hB)) (hr'.up (up_trans (hB0.alloc hB0.size _) hB) hb) (Nat.lt_of_lt_of_le hb (up_trans (hB0.alloc hB0.size _) hB).size) (by rw [List.length_drop]; omega)).mono ?_; rintro e w1 ⟨rfl, hb1⟩; (first | (have hB' := up_trans hB hb1; clear hB; have hB := hB'; clear hB') | (have hB := hb1)); clear hb1; (try clear hc hf); obtain ⟨hc, hf⟩ := bcell hB))
        go_roundw
        case rel => exact ⟨k + 1, by omega, by go_num, Hyes.out H5.out, up_trans (hB0.alloc hB0.size _) hB⟩
        case measure => simp [intOf]; omega
    · go_wp2
      go_ret
      exact ⟨ret_bool (recB_yesI ps k ⟨hl, hl2⟩ hk hp Hal.out).symm, hB⟩
theorem recOk_any (ps : List Ph) (b o c : Nat) (w : World) (hE : Ends w) (hr : RecAt w b o ps) (hb : b < w.heap.size) (hs : Sized ps) (hcap : ps.length ≤ c) (hc9 : c ≤ 1048576) :
    Calls Tryz.prog 23 #[.slice (some ⟨b, o, none⟩) ps.length c] w fun e w' => e = .returned (.bool (recB ps)) ∧ Below w.heap.size w w' :=
  recOk_big ps b o c w hE hr hb hs hcap (by omega)
end Go.Proofs.YtliebjbbomghiaaGreatDoor

/- The program's RecSlots; both sides tell one list. -/
namespace Go.Proofs.YtliebjbbomghiaaGreatDoor
open Go.RowKit

theorem names_keys (ss : List ByteArray) : namesOf (keys ss) = ss := by
  rw [namesOf, keys, List.map_map]
  have : ((fun l : Key => (⟨l.toArray⟩ : ByteArray)) ∘ fun s : ByteArray => s.toList) = id := by
    funext s
    show (⟨s.toList.toArray⟩ : ByteArray) = s
    rw [Go.ByteArray.toList_eq]
  rw [this, List.map_id]
def slK (ps : List Ph) (nm : ByteArray) : List Key := if recB ps = true then slI ps nm else []
theorem slots_same (ps : List Ph) (nm : ByteArray) : namesOf (slK ps nm) = slotsV ps nm := by
  unfold slK slotsV
  split
  · rw [← slots_keys, names_keys]
  · rfl
theorem ownT_of {w : World} {base : Nat} {u : Value} {ks : List Key} (h : OwnV w base (u, ks)) : OwnT w base u (namesOf ks) := by
  have : (namesOf ks).length = ks.length := by simp [namesOf]
  unfold OwnT; rw [this]; exact h

theorem recSlots_big (ps : List Ph) (b o c : Nat) (nm : ByteArray) (w : World) (hE : Ends w) (hr : RecAt w b o ps) (hb : b < w.heap.size) (hs : Sized ps) (hcap : ps.length ≤ c) (hc9 : c ≤ 9223372036854775807) :
    Calls Tryz.prog 19 #[.slice (some ⟨b, o, none⟩) ps.length c, .string nm] w fun e w' => (∃ u, e = .returned u ∧ OwnT w' w.heap.size u (slotsV ps nm)) ∧ Below w.heap.size w w' := by
  cases hok : recB ps
  · have HV : Hid (slotsV ps nm = []) := by show _ = _; simp [slotsV, hok]
    go_enter Tryz.func19, Tryz.ntmps19
    go_wp2_with fail
    refine (recOk_big ps b o c _ hE hr hb hs hcap hc9).mono ?_
    rintro e w1 ⟨he, hB1⟩
    rw [hok] at he
    subst he
    go_wp2_with fail
    go_ret
    exact ⟨⟨_, rfl, by rw [HV.out]; exact World.ownsRow_nil _ _ _ _⟩, hB1⟩
  · have hd := dist_drop hok 0
    rw [List.drop_zero] at hd
    have h12 : ps.length ≤ 12 := ((recB_iff ps).1 hok).2.1
    have HV : Hid (∀ rs : List (ByteArray × VK), plainR rs = fill feK fpK [] ps → namesOf (look rs nm nilR).2 = slotsV ps nm) := by
      show _; intro rs hpl
      rw [← look_plain, hpl, fill_look _ _ _ _ hd, ← slots_same]
      unfold slK; rw [if_pos hok]; rfl
    clear hd
    go_enter Tryz.func19, Tryz.ntmps19
    go_wp2_with fail
    refine (recOk_big ps b o c _ hE hr hb hs hcap hc9).mono ?_
    rintro e w1 ⟨he, hB1⟩
    rw [hok] at he
    subst he
    go_wp2_with fail
    refine (fillS_any ps b o c _ (hE.up hB1) (hr.up hB1 hb) (Nat.lt_of_lt_of_le hb hB1.size) hok).mono ?_
    rintro e w2 ⟨⟨g, cap, rs, rfl, hpl, hT⟩, hB2⟩
    have hlen : rs.length ≤ 1048576 := by
      have := congrArg List.length hpl
      rw [fill_len] at this
      simp only [plainR, List.length_map] at this
      omega
    have hB12 := up_trans hB1 hB2
    have hnn := HV.out rs hpl
    have Hnn : Hid (namesOf (look rs nm nilR).2 = slotsV ps nm) := hnn
    clear hnn hpl hB2
    go_wp2_with fail
    refine (ofS_any rs w1.heap.size g cap nm _ hT hlen).mono ?_
    rintro e w3 ⟨rfl, hB3⟩
    have hO : OwnT w3 w1.heap.size (look rs nm nilR).1 (namesOf (look rs nm nilR).2) := ownT_of (u := (look rs nm nilR).1) (ks := (look rs nm nilR).2) ((hT.up hB3).look nm)
    have hB13 := up_trans hB12 hB3
    rw [Hnn.out] at hO
    clear hT hB12 hB3
    go_wp2_with fail
    go_ret
    exact ⟨⟨_, rfl, own_low hO hB1.size⟩, hB13⟩
end Go.Proofs.YtliebjbbomghiaaGreatDoor

/- The program's walk of a name (chapter 11). -/
namespace Go.Proofs.YtliebjbbomghiaaGreatDoor
open Go.RowKit

theorem shName_any (s : ByteArray) (w : World) (hs : s.size ≤ maxLen) :
    Calls Tryz.prog 22 #[.string s] w fun e w' => e = .returned (.bool (nameB s)) ∧ Below w.heap.size w w' := by
  unfold maxLen at hs
  by_cases h1 : 1 ≤ s.size
  case neg =>
    go_enter Tryz.func22, Tryz.ntmps22
    go_wp2
    go_ret
    exact ⟨ret_bool (by simp [nameB, h1]), Below.refl _ _⟩
  by_cases h2 : s.size ≤ 8
  case neg =>
    go_enter Tryz.func22, Tryz.ntmps22
    go_wp2
    go_ret
    exact ⟨ret_bool (by simp [nameB, h2]), Below.refl _ _⟩
  have hn : Hid (nameB s = allB s.data.toList) := by show nameB s = _; simp [nameB, h1, h2]
  go_enter Tryz.func22, Tryz.ntmps22
  go_wp2_with fail
  go_loopw [4] (fun _ w' => ∃ pos : Nat, w' = w.iter s pos ∧ pos ≤ s.size ∧ allB (s.data.toList.take pos) = true) (fun _ w' => s.size - w'.iterPos w.heap.size)
  case atStart => exact ⟨0, rfl, by omega, rfl⟩
  case round =>
    obtain ⟨pos, rfl, hle, hal⟩ := hrel
    have Hal : Hid (allB (s.data.toList.take pos) = true) := hal
    clear hal
    by_cases hp : pos < s.size
    · have hnx : ∀ ty, (Instr.next (.pointer (some ⟨w.heap.size, 0, none⟩)) true ty).run Tryz.prog (w.iter s pos) = _ := fun ty => run_next_any w s pos ty hp
      by_cases ha : (s[pos]'hp).toNat < 128
      · rw [decode_ascii s pos hp ha] at hnx
        by_cases hb : nbB (s[pos]'hp).toNat = true
        · have Hb : Hid (nbB (s[pos]'hp).toNat = true) := hb
          go_wp2_with (go_at_call 49; refine (rune_any _ _).mono ?_; rintro e w' ⟨rfl, rfl⟩)
          go_roundw
          case rel => exact ⟨pos + 1, rfl, by omega, by rw [allB_take s pos hp, Hal.out, Hb.out]; rfl⟩
          case measure => simp; omega
        · have hb' : nbB (s[pos]'hp).toNat = false := by simpa using hb
          have Hb : Hid (nbB (s[pos]'hp).toNat = false) := hb'
          clear hb
          go_wp2_with (go_at_call 49; refine (rune_any _ _).mono ?_; rintro e w' ⟨rfl, rfl⟩)
          go_ret
          exact ⟨ret_bool (by rw [hn.out, allB_no s pos hp Hb.out]), up_iter _ _ _⟩
      · have hi := decode_high s pos hp (by omega)
        have hb' : nbB (Utf8.decode s pos).1 = false := nbB_high _ hi.1
        have Hb : Hid (nbB (s[pos]'hp).toNat = false) := nbB_high _ (by omega)
        clear hi
        go_wp2_with (go_at_call 49; refine (rune_any _ _).mono ?_; rintro e w' ⟨rfl, rfl⟩)
        go_ret
        exact ⟨ret_bool (by rw [hn.out, allB_no s pos hp Hb.out]), up_iter _ _ _⟩
    · have hnx : ∀ ty, (Instr.next (.pointer (some ⟨w.heap.size, 0, none⟩)) true ty).run Tryz.prog (w.iter s pos) = _ := fun ty => run_next_end w s pos ty hp
      go_wp2
      go_ret
      exact ⟨ret_bool (by rw [hn.out, allB_yes s pos hp Hal.out]), up_iter _ _ _⟩
end Go.Proofs.YtliebjbbomghiaaGreatDoor

/- Structs of six cells in blocks of their own. -/
namespace Go.Proofs.YtliebjbbomghiaaGreatDoor
open Go.RowKit

theorem CB.c6 {w : World} {b : Nat} {x0 x1 x2 x3 x4 x5 : Value} (h : CB w b [x0, x1, x2, x3, x4, x5]) :
    w.cell? ⟨b, 0, none⟩ = some x0 ∧ w.cell? ⟨b, 1, none⟩ = some x1 ∧ w.cell? ⟨b, 2, none⟩ = some x2 ∧ w.cell? ⟨b, 3, none⟩ = some x3 ∧ w.cell? ⟨b, 4, none⟩ = some x4 ∧ w.cell? ⟨b, 5, none⟩ = some x5 :=
  ⟨h.1 0 _ rfl, h.1 1 _ rfl, h.1 2 _ rfl, h.1 3 _ rfl, h.1 4 _ rfl, h.1 5 _ rfl⟩

theorem CB.copy6 {w : World} {b : Nat} {y0 y1 y2 y3 y4 y5 : Value} (h : CB w b [y0, y1, y2, y3, y4, y5]) (x0 x1 x2 x3 x4 x5 : Value) :
    CB ((((((w.setCell ⟨b, 0, none⟩ x0).setCell ⟨b, 1, none⟩ x1).setCell ⟨b, 2, none⟩ x2).setCell ⟨b, 3, none⟩ x3).setCell ⟨b, 4, none⟩ x4).setCell ⟨b, 5, none⟩ x5) b [x0, x1, x2, x3, x4, x5] := h.copy [x0, x1, x2, x3, x4, x5] rfl
theorem CB.f6 {w : World} {b : Nat} {x0 x1 x2 x3 x4 x5 : Value} (h : CB w b [x0, x1, x2, x3, x4, x5]) :
    w.frozen? ⟨b, 0, none⟩ = false ∧ w.frozen? ⟨b, 1, none⟩ = false ∧ w.frozen? ⟨b, 2, none⟩ = false ∧ w.frozen? ⟨b, 3, none⟩ = false ∧ w.frozen? ⟨b, 4, none⟩ = false ∧ w.frozen? ⟨b, 5, none⟩ = false :=
  ⟨(h.2.1 0 (by simp)).2, (h.2.1 1 (by simp)).2, (h.2.1 2 (by simp)).2, (h.2.1 3 (by simp)).2, (h.2.1 4 (by simp)).2, (h.2.1 5 (by simp)).2⟩
theorem end_cb6 {P : Program} {fn : Func} {q : Tmp} {T : TypeId} (h : fn.results = #[.cell q T]) {d : TypeDesc} (hu : P.underlying T = some d) (hd : d.isRow = true) (hi : (P.info? T).map (·.size) = some 6) {R : Ending → World → Prop} {tmps : Array Value} {w : World} {rk : Nat} {y0 y1 y2 y3 y4 y5 x0 x1 x2 x3 x4 x5 : Value}
    (k : CB w rk [y0, y1, y2, y3, y4, y5]) (ht : tmps.getD q undef = .pointer (some ⟨rk, 0, none⟩)) (hR : R (.returned (.agg #[x0, x1, x2, x3, x4, x5])) ((((((w.setCell ⟨rk, 0, none⟩ x0).setCell ⟨rk, 1, none⟩ x1).setCell ⟨rk, 2, none⟩ x2).setCell ⟨rk, 3, none⟩ x3).setCell ⟨rk, 4, none⟩ x4).setCell ⟨rk, 5, none⟩ x5)) :
    bodyPost P fn R .ret { tmps := tmps, defers := [] } ((((((w.setCell ⟨rk, 0, none⟩ x0).setCell ⟨rk, 1, none⟩ x1).setCell ⟨rk, 2, none⟩ x2).setCell ⟨rk, 3, none⟩ x3).setCell ⟨rk, 4, none⟩ x4).setCell ⟨rk, 5, none⟩ x5) :=
  bodyPost_ret (ret_cb (cs := [x0, x1, x2, x3, x4, x5]) h hu hd hi ht (k.copy6 x0 x1 x2 x3 x4 x5)) rfl hR
theorem end_cb6b {P : Program} {fn : Func} {q q2 : Tmp} {T : TypeId} (h : fn.results = #[.cell q T, .tmp q2]) {d : TypeDesc} (hu : P.underlying T = some d) (hd : d.isRow = true) (hi : (P.info? T).map (·.size) = some 6) {R : Ending → World → Prop} {tmps : Array Value} {w : World} {rk : Nat} {y0 y1 y2 y3 y4 y5 x0 x1 x2 x3 x4 x5 v : Value}
    (k : CB w rk [y0, y1, y2, y3, y4, y5]) (ht : tmps.getD q undef = .pointer (some ⟨rk, 0, none⟩)) (hv : tmps.getD q2 undef = v) (hR : R (.returned (.tuple #[.agg #[x0, x1, x2, x3, x4, x5], v])) ((((((w.setCell ⟨rk, 0, none⟩ x0).setCell ⟨rk, 1, none⟩ x1).setCell ⟨rk, 2, none⟩ x2).setCell ⟨rk, 3, none⟩ x3).setCell ⟨rk, 4, none⟩ x4).setCell ⟨rk, 5, none⟩ x5)) :
    bodyPost P fn R .ret { tmps := tmps, defers := [] } ((((((w.setCell ⟨rk, 0, none⟩ x0).setCell ⟨rk, 1, none⟩ x1).setCell ⟨rk, 2, none⟩ x2).setCell ⟨rk, 3, none⟩ x3).setCell ⟨rk, 4, none⟩ x4).setCell ⟨rk, 5, none⟩ x5) :=
  bodyPost_ret (ret_cb2 (cs := [x0, x1, x2, x3, x4, x5]) h hu hd hi ht hv (k.copy6 x0 x1 x2 x3 x4 x5)) rfl hR
theorem below_set6 {B : Nat} {a w : World} {b : Nat} (h : Below B a w) (hb : B ≤ b) (x0 x1 x2 x3 x4 x5 : Value) : Below B a ((((((w.setCell ⟨b, 0, none⟩ x0).setCell ⟨b, 1, none⟩ x1).setCell ⟨b, 2, none⟩ x2).setCell ⟨b, 3, none⟩ x3).setCell ⟨b, 4, none⟩ x4).setCell ⟨b, 5, none⟩ x5) :=
  (((((h.setCell (p := ⟨b, 0, none⟩) hb x0).setCell (p := ⟨b, 1, none⟩) hb x1).setCell (p := ⟨b, 2, none⟩) hb x2).setCell (p := ⟨b, 3, none⟩) hb x3).setCell (p := ⟨b, 4, none⟩) hb x4).setCell (p := ⟨b, 5, none⟩) hb x5
theorem own_set6 {w : World} {base b : Nat} {u x0 x1 x2 x3 x4 x5 : Value} {ss : List ByteArray} (h : OwnT w base u ss) (hb : b < base) : OwnT ((((((w.setCell ⟨b, 0, none⟩ x0).setCell ⟨b, 1, none⟩ x1).setCell ⟨b, 2, none⟩ x2).setCell ⟨b, 3, none⟩ x3).setCell ⟨b, 4, none⟩ x4).setCell ⟨b, 5, none⟩ x5) base u ss :=
  own_grown h (grown_setCell (rb := b) (grown_setCell (rb := b) (grown_setCell (rb := b) (grown_setCell (rb := b) (grown_setCell (rb := b) (grown_setCell (rb := b) (grown_refl w _) _) _) _) _) _) _) hb
end Go.Proofs.YtliebjbbomghiaaGreatDoor
