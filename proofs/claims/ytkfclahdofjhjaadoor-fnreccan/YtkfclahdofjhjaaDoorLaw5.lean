/- The law of promise 5: its walk. -/
import Derived.Test.YtkfclahdofjhjaaDoorDv
import Derived.Test.YtkfclahdofjhjaaDoorRe
import Derived.Deep.RegionWith
namespace Go.Proofs.YtkfclahdofjhjaaDoor
open Go.RowKit

/-- What a drawn recipe is to a call. -/
theorem Drawn.rec {w : World} {B : Nat} {u : Value} {qs : List Ph} (h : Drawn w B u qs) : ∃ g c, u = .slice (some ⟨g, 0, none⟩) qs.length c ∧ RecAt w g 0 qs ∧ g < w.heap.size ∧ qs.length ≤ c ∧ c ≤ 9223372036854775807 ∧ Sized qs ∧ qs.length ≤ 13 := by
  obtain ⟨g, cap, rfl, hown, h13, hz⟩ := h
  refine ⟨g, cap, rfl, recAt_own hown, (hown.lt g rfl).2, ?_, ?_, fun p hp => ?_, h13⟩
  · rcases hown.2 with ⟨h0, _⟩ | ⟨g', cap', cur, h', _, _, hc, _⟩
    · cases h0
    · cases h'; exact hc
  · rcases hown.2 with ⟨h0, _⟩ | ⟨g', cap', cur, h', _, _, _, hc, _⟩
    · cases h0
    · cases h'; unfold maxLen at hc; exact hc
  · obtain ⟨z0, z1, z2, z3, z4, _⟩ := hz p hp
    exact ⟨z0, z1, z2, z3, z4⟩
theorem evL_frp {tn : ByteArray} (hto : endN tn ≠ 0) : ∀ (l : List Ph) (nm : ByteArray), Dist l → evL (feB (endN tn)) (frp tn) false l nm = evL (feB (endN tn)) fpB false l nm
  | [], nm, _ => rfl
  | p :: rest, nm, hd => by
    obtain ⟨h1, _, h3⟩ := hd
    have hne : (p.nm.toList == tn.toList) = false := by
      rw [← Bool.not_eq_true]; intro h
      exact hto ((endN_congr h).symm.trans h1)
    rw [evL, evL, evL_frp hto rest _ h3, evL_frp hto rest _ h3, evL_frp hto rest _ h3, frp, fpB, hne, Bool.false_or]
theorem reach_end {ps : List Ph} (hok : recB ps = true) {tn : ByteArray} (hto : endN tn ≠ 0) (nm : ByteArray) : reachV ps tn nm = evL (feB (endN tn)) fpB false ps nm := by
  have hd := dist_drop hok 0
  rw [List.drop_zero] at hd
  exact evL_frp hto ps nm hd
/-- Some end may come. -/
theorem some_end {ps : List Ph} (hok : recB ps = true) : ∀ (f : Nat) (nm : ByteArray), (endN nm ≠ 0 ∨ hasB ps nm = true) → (atI ps nm < 0 ∨ (ps.length : Int) < atI ps nm + f) → ∃ i : Int, 1 ≤ i ∧ i ≤ 3 ∧ evL (feB i) fpB false ps nm = true := by
  intro f
  induction f with
  | zero =>
    intro nm hn hf
    have hlt := atI_lt ps nm
    have h0 : atI ps nm < 0 := by omega
    have he : endN nm ≠ 0 := by
      rcases hn with h | h
      · exact h
      · rcases atI_cases ps nm with ⟨h1, _⟩ | ⟨j, q, hq, _, ha, _⟩
        · rw [h1] at h; cases h
        · omega
    have := endN_03 nm
    exact ⟨endN nm, by omega, by omega, by rw [evL_out ps _ _ _ nm h0, if_neg he, feB]; simp⟩
  | succ f ih =>
    intro nm hn hf
    rcases atI_cases ps nm with ⟨h1, h0⟩ | ⟨j, q, hq, _, ha, _⟩
    · have he : endN nm ≠ 0 := by
        rcases hn with h | h
        · exact h
        · rw [h1] at h; cases h
      have := endN_03 nm
      exact ⟨endN nm, by omega, by omega, by rw [evL_out ps _ _ _ nm (by omega), if_neg he, feB]; simp⟩
    · obtain ⟨hj, rfl⟩ := List.getElem?_eq_some_iff.1 hq
      obtain ⟨g1, _⟩ := goes_of hok hj
      have hl := atI_later hok hj _ g1
      have hg : endN (ps[j]).t ≠ 0 ∨ hasB ps (ps[j]).t = true := by
        simp only [goesB, Bool.or_eq_true, bne_iff_ne] at g1
        rcases g1 with h | h
        · exact .inl h
        · refine .inr ?_
          obtain ⟨l, r, _, hr, he⟩ := (hasB_drop _ _ _).1 h
          exact (hasB_iff _ _).2 ⟨l, r, hr, he⟩
      obtain ⟨i, h1, h3, he⟩ := ih (ps[j]).t hg (by omega)
      exact ⟨i, h1, h3, by rw [evL_step hok _ _ _ nm hj ha, fpB, he]; rfl⟩
theorem first_end {ps : List Ph} (hok : recB ps = true) (h : 0 < ps.length) : canV ps (ps[0]).nm 1 = true ∨ canV ps (ps[0]).nm 2 = true ∨ canV ps (ps[0]).nm 3 = true := by
  obtain ⟨i, h1, h3, he⟩ := some_end hok 20 (ps[0]).nm (.inr ((hasB_iff _ _).2 ⟨0, ps[0], by simp, by simp⟩)) (by
    have h12 : ps.length ≤ 12 := ((recB_iff ps).1 hok).2.1
    omega)
  have hc : canV ps (ps[0]).nm i = true := by
    simp only [canV, hok, he, Bool.true_and, Bool.and_true, inB_iff]; omega
  rcases (by omega : i = 1 ∨ i = 2 ∨ i = 3) with rfl | rfl | rfl
  · exact .inl hc
  · exact .inr (.inl hc)
  · exact .inr (.inr hc)
def smV (c1 c2 c3 : Bool) : Nat → Bool
  | 0 => false
  | 1 => false
  | 2 => c1
  | 3 => c1 || c2
  | _ => c1 || c2 || c3
def fdV (en : Int) (r1 r2 r3 : Bool) : Nat → Bool
  | 0 => false
  | 1 => false
  | 2 => en == 1 && r1
  | 3 => (en == 1 && r1) || (en == 2 && r2)
  | _ => (en == 1 && r1) || (en == 2 && r2) || (en == 3 && r3)

set_option maxRecDepth 100000 in
set_option maxHeartbeats 4000000 in
theorem lawCan5_any (a : Option Addr) (n cap : Nat) (w : World) (hE : Ends w) (h : BytesAt w w.heap.size (.slice a n cap) n) (hcap : n ≤ cap) (hbig : cap ≤ maxLen) :
    Calls Tryd.prog 5 #[.slice a n cap] w fun e' w' => e' = .returned (.bool true) ∧ Below w.heap.size w w' := by
  by_cases hn : 1048576 < n
  · go_enter Tryd.func5, Tryd.ntmps5
    go_wp2_with fail
    go_ret
    exact ⟨rfl, Below.refl _ _⟩
  go_enter Tryd.func5, Tryd.ntmps5
  go_wp2_with fail
  refine (drawCan_any a n cap _ h hcap hbig).mono ?_
  rintro e w1 ⟨⟨u, ps, nm, en, rfl, hD, hnm, hen0, hen5⟩, hB1⟩
  obtain ⟨g, c, rfl, hr1, hg1, hlc, hc9, hs, h13⟩ := hD.rec
  clear hD h
  go_wp2_with fail
  refine (recCan_big ps g 0 c nm en _ (hE.up hB1) hr1 hg1 hs hlc hc9).mono ?_
  rintro e w2 ⟨rfl, hB2⟩
  have hr2 := hr1.up hB2 hg1
  have hg2 := Nat.lt_of_lt_of_le hg1 hB2.size
  have hB12 := up_trans hB1 hB2
  clear hr1 hB2
  go_wp2_with fail
  refine (specCan_any ps g 0 c nm en _ hr2 hg2 hs (by omega)).mono ?_
  rintro e w3 ⟨rfl, hB3⟩
  have hr3 := hr2.up hB3 hg2
  have hg3 := Nat.lt_of_lt_of_le hg2 hB3.size
  have hB13 := up_trans hB12 hB3
  clear hr2 hB3 hB12
  generalize hcv : canV ps nm en = cv at *
  have hbb : (cv != cv) = false := by simp
  go_wp2_with (first | (go_at_call 22; refine (recEnd_any _ _ (hE.up hB13)).mono ?_; rintro e w' ⟨rfl, hw⟩; obtain rfl := hw.symm; clear hw) | (go_at_call 23; refine (specEnd_any _ _).mono ?_; rintro e w' ⟨rfl, hw⟩; obtain rfl := hw.symm; clear hw))
  refine (specOk_any ps g 0 c _ hr3 hg3 hs (by omega)).mono ?_
  rintro e w4 ⟨rfl, hB4⟩
  have hr4 := hr3.up hB4 hg3
  have hg4 := Nat.lt_of_lt_of_le hg3 hB4.size
  have hB14 := up_trans hB13 hB4
  clear hr3 hB4 hB13
  cases hok : recB ps
  · have hc0 : cv = false := by rw [← hcv]; simp [canV, hok]
    subst hc0
    go_wp2_with fail
    go_ret
    exact ⟨rfl, hB14⟩
  have h1 : 0 < ps.length := ((recB_iff ps).1 hok).1
  have h12 : ps.length ≤ 12 := ((recB_iff ps).1 hok).2.1
  have Hsome : Hid (canV ps (ps[0]).nm 1 = true ∨ canV ps (ps[0]).nm 2 = true ∨ canV ps (ps[0]).nm 3 = true) := first_end hok h1
  have eG : endN ⟨#[103, 111, 111, 100]⟩ = 1 := endN_good
  have eS : endN ⟨#[115, 97, 118, 101, 100]⟩ = 2 := endN_saved
  have eC : endN ⟨#[115, 99, 114, 97, 112, 112, 101, 100]⟩ = 3 := endN_scrapped
  have Hcv : Hid (cv = fdV en (reachV ps ⟨#[103, 111, 111, 100]⟩ nm) (reachV ps ⟨#[115, 97, 118, 101, 100]⟩ nm) (reachV ps ⟨#[115, 99, 114, 97, 112, 112, 101, 100]⟩ nm) 4) := by
    show _ = _
    rw [reach_end hok (by rw [eG]; omega), reach_end hok (by rw [eS]; omega), reach_end hok (by rw [eC]; omega), eG, eS, eC, ← hcv]
    simp only [canV, hok, Bool.true_and, fdV]
    rcases (by omega : en = 0 ∨ en = 1 ∨ en = 2 ∨ en = 3 ∨ en = 4) with rfl | rfl | rfl | rfl | rfl <;> simp [inB]
  have HG : Hid (∀ w, RecAt w g 0 ps → Calls Tryd.prog 14 #[.slice (some ⟨g, 0, none⟩) ps.length c, .string nm, .string ⟨#[103, 111, 111, 100]⟩] w fun e w' => e = .returned (.bool (reachV ps ⟨#[103, 111, 111, 100]⟩ nm)) ∧ w' = w) :=
    fun w hr => reach_any ps g 0 c _ hok (.inl (by rw [eG]; omega)) 20 nm w hr (by omega)
  have HS : Hid (∀ w, RecAt w g 0 ps → Calls Tryd.prog 14 #[.slice (some ⟨g, 0, none⟩) ps.length c, .string nm, .string ⟨#[115, 97, 118, 101, 100]⟩] w fun e w' => e = .returned (.bool (reachV ps ⟨#[115, 97, 118, 101, 100]⟩ nm)) ∧ w' = w) :=
    fun w hr => reach_any ps g 0 c _ hok (.inl (by rw [eS]; omega)) 20 nm w hr (by omega)
  have HC : Hid (∀ w, RecAt w g 0 ps → Calls Tryd.prog 14 #[.slice (some ⟨g, 0, none⟩) ps.length c, .string nm, .string ⟨#[115, 99, 114, 97, 112, 112, 101, 100]⟩] w fun e w' => e = .returned (.bool (reachV ps ⟨#[115, 99, 114, 97, 112, 112, 101, 100]⟩ nm)) ∧ w' = w) :=
    fun w hr => reach_any ps g 0 c _ hok (.inl (by rw [eC]; omega)) 20 nm w hr (by omega)
  clear eG eS eC hcv hbb
  generalize hR1 : reachV ps ⟨#[103, 111, 111, 100]⟩ nm = r1 at *
  generalize hR2 : reachV ps ⟨#[115, 97, 118, 101, 100]⟩ nm = r2 at *
  generalize hR3 : reachV ps ⟨#[115, 99, 114, 97, 112, 112, 101, 100]⟩ nm = r3 at *
  clear hR1 hR2 hR3
  have K1 : Hid (∀ w, Ends w → RecAt w g 0 ps → g < w.heap.size → Calls Tryd.prog 20 #[.slice (some ⟨g, 0, none⟩) ps.length c, .string (ps[0]).nm, .int .i64 1] w fun e w' => e = .returned (.bool (canV ps (ps[0]).nm 1)) ∧ Below w.heap.size w w') := fun w hE hr hg => recCan_big ps g 0 c _ _ w hE hr hg hs hlc hc9
  have K2 : Hid (∀ w, Ends w → RecAt w g 0 ps → g < w.heap.size → Calls Tryd.prog 20 #[.slice (some ⟨g, 0, none⟩) ps.length c, .string (ps[0]).nm, .int .i64 2] w fun e w' => e = .returned (.bool (canV ps (ps[0]).nm 2)) ∧ Below w.heap.size w w') := fun w hE hr hg => recCan_big ps g 0 c _ _ w hE hr hg hs hlc hc9
  have K3 : Hid (∀ w, Ends w → RecAt w g 0 ps → g < w.heap.size → Calls Tryd.prog 20 #[.slice (some ⟨g, 0, none⟩) ps.length c, .string (ps[0]).nm, .int .i64 3] w fun e w' => e = .returned (.bool (canV ps (ps[0]).nm 3)) ∧ Below w.heap.size w w') := fun w hE hr hg => recCan_big ps g 0 c _ _ w hE hr hg hs hlc hc9
  generalize hC1 : canV ps (ps[0]).nm 1 = c1 at *
  generalize hC2 : canV ps (ps[0]).nm 2 = c2 at *
  generalize hC3 : canV ps (ps[0]).nm 3 = c3 at *
  clear hC1 hC2 hC3
  have HE : Hid (∀ w', Below w.heap.size w w' → Ends w') := fun w' hB => hE.up hB
  clear hE hs hB1
  go_wp2_with fail
  go_loopw [7, 8, 9] (fun s f i w' => ∃ k : Nat, 1 ≤ k ∧ k ≤ 4 ∧ i = .int .i64 k ∧ s = .bool (smV c1 c2 c3 k) ∧ f = .bool (fdV en r1 r2 r3 k) ∧ RecAt w' g 0 ps ∧ g < w'.heap.size ∧ Below w.heap.size w w') (fun _ _ i _ => 4 - (intOf i).toNat)
  case atStart => exact ⟨1, by omega, by omega, rfl, rfl, rfl, hr4, hg4, hB14⟩
  case round =>
    clear hr4 hg4 hB14
    obtain ⟨k, hk1, hk4, rfl, rfl, rfl, hr, hg, hB⟩ := hrel
    obtain ⟨q0, -⟩ := hr.cells 0 h1
    simp only [Nat.zero_mul, Nat.add_zero] at q0
    rcases (by omega : k = 1 ∨ k = 2 ∨ k = 3 ∨ k = 4) with rfl | rfl | rfl | rfl
    · simp only [smV, fdV]
      go_wp2_with fail
      refine (K1.out _ (HE.out _ hB) hr hg).mono ?_
      rintro e w5 ⟨rfl, hb5⟩
      have hr5 := hr.up hb5 hg
      have hg5 := Nat.lt_of_lt_of_le hg hb5.size
      have hB5 := up_trans hB hb5
      clear hr hg hB hb5 q0
      by_cases he : en = 1
      · subst he
        cases r1 <;> cases r2 <;> cases r3
        all_goals
          go_wp2_with (first | (go_at_call_of 14 (Value.string ⟨#[103, 111, 111, 100]⟩); refine (HG.out _ hr5).mono ?_; rintro e w' ⟨rfl, hw⟩; obtain rfl := hw.symm; clear hw) | (go_at_call_of 14 (Value.string ⟨#[115, 97, 118, 101, 100]⟩); refine (HS.out _ hr5).mono ?_; rintro e w' ⟨rfl, hw⟩; obtain rfl := hw.symm; clear hw) | (go_at_call_of 14 (Value.string ⟨#[115, 99, 114, 97, 112, 112, 101, 100]⟩); refine (HC.out _ hr5).mono ?_; rintro e w' ⟨rfl, hw⟩; obtain rfl := hw.symm; clear hw))
          go_roundw
          case rel => exact ⟨2, by omega, by omega, rfl, rfl, rfl, hr5, hg5, hB5⟩
          case measure => simp [intOf]
      · have he1 : ((1 : Int) == en) = false := by simp; omega
        have he2 : (en == 1) = false := by simpa using he
        go_wp2_with (first | (go_at_call_of 14 (Value.string ⟨#[103, 111, 111, 100]⟩); refine (HG.out _ hr5).mono ?_; rintro e w' ⟨rfl, hw⟩; obtain rfl := hw.symm; clear hw) | (go_at_call_of 14 (Value.string ⟨#[115, 97, 118, 101, 100]⟩); refine (HS.out _ hr5).mono ?_; rintro e w' ⟨rfl, hw⟩; obtain rfl := hw.symm; clear hw) | (go_at_call_of 14 (Value.string ⟨#[115, 99, 114, 97, 112, 112, 101, 100]⟩); refine (HC.out _ hr5).mono ?_; rintro e w' ⟨rfl, hw⟩; obtain rfl := hw.symm; clear hw))
        go_roundw
        case rel => exact ⟨2, by omega, by omega, rfl, rfl, by simp [he2], hr5, hg5, hB5⟩
        case measure => simp [intOf]
    · rcases (by omega : en = 0 ∨ en = 1 ∨ en = 2 ∨ en = 3 ∨ en = 4) with rfl | rfl | rfl | rfl | rfl
      · simp only [smV, fdV, Int.reduceBEq, Bool.false_and, Bool.or_false]
        cases c1
        all_goals first
          | (go_wp2_with fail
             refine (K2.out _ (HE.out _ hB) hr hg).mono ?_
             rintro e w5 ⟨rfl, hb5⟩
             have hr5 := hr.up hb5 hg
             have hg5 := Nat.lt_of_lt_of_le hg hb5.size
             have hB5 := up_trans hB hb5
             clear hr hg hB hb5 q0
             go_wp2_with (first | (go_at_call_of 14 (Value.string ⟨#[103, 111, 111, 100]⟩); refine (HG.out _ hr5).mono ?_; rintro e w' ⟨rfl, hw⟩; obtain rfl := hw.symm; clear hw) | (go_at_call_of 14 (Value.string ⟨#[115, 97, 118, 101, 100]⟩); refine (HS.out _ hr5).mono ?_; rintro e w' ⟨rfl, hw⟩; obtain rfl := hw.symm; clear hw) | (go_at_call_of 14 (Value.string ⟨#[115, 99, 114, 97, 112, 112, 101, 100]⟩); refine (HC.out _ hr5).mono ?_; rintro e w' ⟨rfl, hw⟩; obtain rfl := hw.symm; clear hw))
             go_roundw
             case rel => exact ⟨3, by omega, by omega, rfl, rfl, rfl, hr5, hg5, hB5⟩
             case measure => simp [intOf])
          | (have hr5 := hr
             go_wp2_with (first | (go_at_call_of 14 (Value.string ⟨#[103, 111, 111, 100]⟩); refine (HG.out _ hr5).mono ?_; rintro e w' ⟨rfl, hw⟩; obtain rfl := hw.symm; clear hw) | (go_at_call_of 14 (Value.string ⟨#[115, 97, 118, 101, 100]⟩); refine (HS.out _ hr5).mono ?_; rintro e w' ⟨rfl, hw⟩; obtain rfl := hw.symm; clear hw) | (go_at_call_of 14 (Value.string ⟨#[115, 99, 114, 97, 112, 112, 101, 100]⟩); refine (HC.out _ hr5).mono ?_; rintro e w' ⟨rfl, hw⟩; obtain rfl := hw.symm; clear hw))
             go_roundw
             case rel => exact ⟨3, by omega, by omega, rfl, rfl, rfl, hr5, hg, hB⟩
             case measure => simp [intOf])
      · simp only [smV, fdV, beq_self_eq_true, Bool.true_and, Int.reduceBEq, Bool.false_and, Bool.or_false]
        cases c1 <;> cases r1
        all_goals first
          | (go_wp2_with fail
             refine (K2.out _ (HE.out _ hB) hr hg).mono ?_
             rintro e w5 ⟨rfl, hb5⟩
             have hr5 := hr.up hb5 hg
             have hg5 := Nat.lt_of_lt_of_le hg hb5.size
             have hB5 := up_trans hB hb5
             clear hr hg hB hb5 q0
             go_wp2_with (first | (go_at_call_of 14 (Value.string ⟨#[103, 111, 111, 100]⟩); refine (HG.out _ hr5).mono ?_; rintro e w' ⟨rfl, hw⟩; obtain rfl := hw.symm; clear hw) | (go_at_call_of 14 (Value.string ⟨#[115, 97, 118, 101, 100]⟩); refine (HS.out _ hr5).mono ?_; rintro e w' ⟨rfl, hw⟩; obtain rfl := hw.symm; clear hw) | (go_at_call_of 14 (Value.string ⟨#[115, 99, 114, 97, 112, 112, 101, 100]⟩); refine (HC.out _ hr5).mono ?_; rintro e w' ⟨rfl, hw⟩; obtain rfl := hw.symm; clear hw))
             go_roundw
             case rel => exact ⟨3, by omega, by omega, rfl, rfl, rfl, hr5, hg5, hB5⟩
             case measure => simp [intOf])
          | (have hr5 := hr
             go_wp2_with (first | (go_at_call_of 14 (Value.string ⟨#[103, 111, 111, 100]⟩); refine (HG.out _ hr5).mono ?_; rintro e w' ⟨rfl, hw⟩; obtain rfl := hw.symm; clear hw) | (go_at_call_of 14 (Value.string ⟨#[115, 97, 118, 101, 100]⟩); refine (HS.out _ hr5).mono ?_; rintro e w' ⟨rfl, hw⟩; obtain rfl := hw.symm; clear hw) | (go_at_call_of 14 (Value.string ⟨#[115, 99, 114, 97, 112, 112, 101, 100]⟩); refine (HC.out _ hr5).mono ?_; rintro e w' ⟨rfl, hw⟩; obtain rfl := hw.symm; clear hw))
             go_roundw
             case rel => exact ⟨3, by omega, by omega, rfl, rfl, rfl, hr5, hg, hB⟩
             case measure => simp [intOf])
      · simp only [smV, fdV, beq_self_eq_true, Bool.true_and, Int.reduceBEq, Bool.false_and, Bool.false_or, Bool.or_false]
        cases c1 <;> cases r1 <;> cases r2 <;> cases r3
        all_goals first
          | (go_wp2_with fail
             refine (K2.out _ (HE.out _ hB) hr hg).mono ?_
             rintro e w5 ⟨rfl, hb5⟩
             have hr5 := hr.up hb5 hg
             have hg5 := Nat.lt_of_lt_of_le hg hb5.size
             have hB5 := up_trans hB hb5
             clear hr hg hB hb5 q0
             go_wp2_with (first | (go_at_call_of 14 (Value.string ⟨#[103, 111, 111, 100]⟩); refine (HG.out _ hr5).mono ?_; rintro e w' ⟨rfl, hw⟩; obtain rfl := hw.symm; clear hw) | (go_at_call_of 14 (Value.string ⟨#[115, 97, 118, 101, 100]⟩); refine (HS.out _ hr5).mono ?_; rintro e w' ⟨rfl, hw⟩; obtain rfl := hw.symm; clear hw) | (go_at_call_of 14 (Value.string ⟨#[115, 99, 114, 97, 112, 112, 101, 100]⟩); refine (HC.out _ hr5).mono ?_; rintro e w' ⟨rfl, hw⟩; obtain rfl := hw.symm; clear hw))
             go_roundw
             case rel => exact ⟨3, by omega, by omega, rfl, rfl, rfl, hr5, hg5, hB5⟩
             case measure => simp [intOf])
          | (have hr5 := hr
             go_wp2_with (first | (go_at_call_of 14 (Value.string ⟨#[103, 111, 111, 100]⟩); refine (HG.out _ hr5).mono ?_; rintro e w' ⟨rfl, hw⟩; obtain rfl := hw.symm; clear hw) | (go_at_call_of 14 (Value.string ⟨#[115, 97, 118, 101, 100]⟩); refine (HS.out _ hr5).mono ?_; rintro e w' ⟨rfl, hw⟩; obtain rfl := hw.symm; clear hw) | (go_at_call_of 14 (Value.string ⟨#[115, 99, 114, 97, 112, 112, 101, 100]⟩); refine (HC.out _ hr5).mono ?_; rintro e w' ⟨rfl, hw⟩; obtain rfl := hw.symm; clear hw))
             go_roundw
             case rel => exact ⟨3, by omega, by omega, rfl, rfl, rfl, hr5, hg, hB⟩
             case measure => simp [intOf])
      · simp only [smV, fdV, beq_self_eq_true, Bool.true_and, Int.reduceBEq, Bool.false_and, Bool.false_or, Bool.or_false]
        cases c1
        all_goals first
          | (go_wp2_with fail
             refine (K2.out _ (HE.out _ hB) hr hg).mono ?_
             rintro e w5 ⟨rfl, hb5⟩
             have hr5 := hr.up hb5 hg
             have hg5 := Nat.lt_of_lt_of_le hg hb5.size
             have hB5 := up_trans hB hb5
             clear hr hg hB hb5 q0
             go_wp2_with (first | (go_at_call_of 14 (Value.string ⟨#[103, 111, 111, 100]⟩); refine (HG.out _ hr5).mono ?_; rintro e w' ⟨rfl, hw⟩; obtain rfl := hw.symm; clear hw) | (go_at_call_of 14 (Value.string ⟨#[115, 97, 118, 101, 100]⟩); refine (HS.out _ hr5).mono ?_; rintro e w' ⟨rfl, hw⟩; obtain rfl := hw.symm; clear hw) | (go_at_call_of 14 (Value.string ⟨#[115, 99, 114, 97, 112, 112, 101, 100]⟩); refine (HC.out _ hr5).mono ?_; rintro e w' ⟨rfl, hw⟩; obtain rfl := hw.symm; clear hw))
             go_roundw
             case rel => exact ⟨3, by omega, by omega, rfl, rfl, rfl, hr5, hg5, hB5⟩
             case measure => simp [intOf])
          | (have hr5 := hr
             go_wp2_with (first | (go_at_call_of 14 (Value.string ⟨#[103, 111, 111, 100]⟩); refine (HG.out _ hr5).mono ?_; rintro e w' ⟨rfl, hw⟩; obtain rfl := hw.symm; clear hw) | (go_at_call_of 14 (Value.string ⟨#[115, 97, 118, 101, 100]⟩); refine (HS.out _ hr5).mono ?_; rintro e w' ⟨rfl, hw⟩; obtain rfl := hw.symm; clear hw) | (go_at_call_of 14 (Value.string ⟨#[115, 99, 114, 97, 112, 112, 101, 100]⟩); refine (HC.out _ hr5).mono ?_; rintro e w' ⟨rfl, hw⟩; obtain rfl := hw.symm; clear hw))
             go_roundw
             case rel => exact ⟨3, by omega, by omega, rfl, rfl, rfl, hr5, hg, hB⟩
             case measure => simp [intOf])
      · simp only [smV, fdV, Int.reduceBEq, Bool.false_and, Bool.or_false]
        cases c1
        all_goals first
          | (go_wp2_with fail
             refine (K2.out _ (HE.out _ hB) hr hg).mono ?_
             rintro e w5 ⟨rfl, hb5⟩
             have hr5 := hr.up hb5 hg
             have hg5 := Nat.lt_of_lt_of_le hg hb5.size
             have hB5 := up_trans hB hb5
             clear hr hg hB hb5 q0
             go_wp2_with (first | (go_at_call_of 14 (Value.string ⟨#[103, 111, 111, 100]⟩); refine (HG.out _ hr5).mono ?_; rintro e w' ⟨rfl, hw⟩; obtain rfl := hw.symm; clear hw) | (go_at_call_of 14 (Value.string ⟨#[115, 97, 118, 101, 100]⟩); refine (HS.out _ hr5).mono ?_; rintro e w' ⟨rfl, hw⟩; obtain rfl := hw.symm; clear hw) | (go_at_call_of 14 (Value.string ⟨#[115, 99, 114, 97, 112, 112, 101, 100]⟩); refine (HC.out _ hr5).mono ?_; rintro e w' ⟨rfl, hw⟩; obtain rfl := hw.symm; clear hw))
             go_roundw
             case rel => exact ⟨3, by omega, by omega, rfl, rfl, rfl, hr5, hg5, hB5⟩
             case measure => simp [intOf])
          | (have hr5 := hr
             go_wp2_with (first | (go_at_call_of 14 (Value.string ⟨#[103, 111, 111, 100]⟩); refine (HG.out _ hr5).mono ?_; rintro e w' ⟨rfl, hw⟩; obtain rfl := hw.symm; clear hw) | (go_at_call_of 14 (Value.string ⟨#[115, 97, 118, 101, 100]⟩); refine (HS.out _ hr5).mono ?_; rintro e w' ⟨rfl, hw⟩; obtain rfl := hw.symm; clear hw) | (go_at_call_of 14 (Value.string ⟨#[115, 99, 114, 97, 112, 112, 101, 100]⟩); refine (HC.out _ hr5).mono ?_; rintro e w' ⟨rfl, hw⟩; obtain rfl := hw.symm; clear hw))
             go_roundw
             case rel => exact ⟨3, by omega, by omega, rfl, rfl, rfl, hr5, hg, hB⟩
             case measure => simp [intOf])
    · rcases (by omega : en = 0 ∨ en = 1 ∨ en = 2 ∨ en = 3 ∨ en = 4) with rfl | rfl | rfl | rfl | rfl
      · simp only [smV, fdV, Int.reduceBEq, Bool.false_and, Bool.or_false]
        cases c1 <;> cases c2
        all_goals first
          | (go_wp2_with fail
             refine (K3.out _ (HE.out _ hB) hr hg).mono ?_
             rintro e w5 ⟨rfl, hb5⟩
             have hr5 := hr.up hb5 hg
             have hg5 := Nat.lt_of_lt_of_le hg hb5.size
             have hB5 := up_trans hB hb5
             clear hr hg hB hb5 q0
             go_wp2_with (first | (go_at_call_of 14 (Value.string ⟨#[103, 111, 111, 100]⟩); refine (HG.out _ hr5).mono ?_; rintro e w' ⟨rfl, hw⟩; obtain rfl := hw.symm; clear hw) | (go_at_call_of 14 (Value.string ⟨#[115, 97, 118, 101, 100]⟩); refine (HS.out _ hr5).mono ?_; rintro e w' ⟨rfl, hw⟩; obtain rfl := hw.symm; clear hw) | (go_at_call_of 14 (Value.string ⟨#[115, 99, 114, 97, 112, 112, 101, 100]⟩); refine (HC.out _ hr5).mono ?_; rintro e w' ⟨rfl, hw⟩; obtain rfl := hw.symm; clear hw))
             go_roundw
             case rel => exact ⟨4, by omega, by omega, rfl, rfl, rfl, hr5, hg5, hB5⟩
             case measure => simp [intOf])
          | (have hr5 := hr
             go_wp2_with (first | (go_at_call_of 14 (Value.string ⟨#[103, 111, 111, 100]⟩); refine (HG.out _ hr5).mono ?_; rintro e w' ⟨rfl, hw⟩; obtain rfl := hw.symm; clear hw) | (go_at_call_of 14 (Value.string ⟨#[115, 97, 118, 101, 100]⟩); refine (HS.out _ hr5).mono ?_; rintro e w' ⟨rfl, hw⟩; obtain rfl := hw.symm; clear hw) | (go_at_call_of 14 (Value.string ⟨#[115, 99, 114, 97, 112, 112, 101, 100]⟩); refine (HC.out _ hr5).mono ?_; rintro e w' ⟨rfl, hw⟩; obtain rfl := hw.symm; clear hw))
             go_roundw
             case rel => exact ⟨4, by omega, by omega, rfl, rfl, rfl, hr5, hg, hB⟩
             case measure => simp [intOf])
      · simp only [smV, fdV, beq_self_eq_true, Bool.true_and, Int.reduceBEq, Bool.false_and, Bool.or_false]
        cases c1 <;> cases c2 <;> cases r1
        all_goals first
          | (go_wp2_with fail
             refine (K3.out _ (HE.out _ hB) hr hg).mono ?_
             rintro e w5 ⟨rfl, hb5⟩
             have hr5 := hr.up hb5 hg
             have hg5 := Nat.lt_of_lt_of_le hg hb5.size
             have hB5 := up_trans hB hb5
             clear hr hg hB hb5 q0
             go_wp2_with (first | (go_at_call_of 14 (Value.string ⟨#[103, 111, 111, 100]⟩); refine (HG.out _ hr5).mono ?_; rintro e w' ⟨rfl, hw⟩; obtain rfl := hw.symm; clear hw) | (go_at_call_of 14 (Value.string ⟨#[115, 97, 118, 101, 100]⟩); refine (HS.out _ hr5).mono ?_; rintro e w' ⟨rfl, hw⟩; obtain rfl := hw.symm; clear hw) | (go_at_call_of 14 (Value.string ⟨#[115, 99, 114, 97, 112, 112, 101, 100]⟩); refine (HC.out _ hr5).mono ?_; rintro e w' ⟨rfl, hw⟩; obtain rfl := hw.symm; clear hw))
             go_roundw
             case rel => exact ⟨4, by omega, by omega, rfl, rfl, rfl, hr5, hg5, hB5⟩
             case measure => simp [intOf])
          | (have hr5 := hr
             go_wp2_with (first | (go_at_call_of 14 (Value.string ⟨#[103, 111, 111, 100]⟩); refine (HG.out _ hr5).mono ?_; rintro e w' ⟨rfl, hw⟩; obtain rfl := hw.symm; clear hw) | (go_at_call_of 14 (Value.string ⟨#[115, 97, 118, 101, 100]⟩); refine (HS.out _ hr5).mono ?_; rintro e w' ⟨rfl, hw⟩; obtain rfl := hw.symm; clear hw) | (go_at_call_of 14 (Value.string ⟨#[115, 99, 114, 97, 112, 112, 101, 100]⟩); refine (HC.out _ hr5).mono ?_; rintro e w' ⟨rfl, hw⟩; obtain rfl := hw.symm; clear hw))
             go_roundw
             case rel => exact ⟨4, by omega, by omega, rfl, rfl, rfl, hr5, hg, hB⟩
             case measure => simp [intOf])
      · simp only [smV, fdV, beq_self_eq_true, Bool.true_and, Int.reduceBEq, Bool.false_and, Bool.false_or, Bool.or_false]
        cases c1 <;> cases c2 <;> cases r2
        all_goals first
          | (go_wp2_with fail
             refine (K3.out _ (HE.out _ hB) hr hg).mono ?_
             rintro e w5 ⟨rfl, hb5⟩
             have hr5 := hr.up hb5 hg
             have hg5 := Nat.lt_of_lt_of_le hg hb5.size
             have hB5 := up_trans hB hb5
             clear hr hg hB hb5 q0
             go_wp2_with (first | (go_at_call_of 14 (Value.string ⟨#[103, 111, 111, 100]⟩); refine (HG.out _ hr5).mono ?_; rintro e w' ⟨rfl, hw⟩; obtain rfl := hw.symm; clear hw) | (go_at_call_of 14 (Value.string ⟨#[115, 97, 118, 101, 100]⟩); refine (HS.out _ hr5).mono ?_; rintro e w' ⟨rfl, hw⟩; obtain rfl := hw.symm; clear hw) | (go_at_call_of 14 (Value.string ⟨#[115, 99, 114, 97, 112, 112, 101, 100]⟩); refine (HC.out _ hr5).mono ?_; rintro e w' ⟨rfl, hw⟩; obtain rfl := hw.symm; clear hw))
             go_roundw
             case rel => exact ⟨4, by omega, by omega, rfl, rfl, rfl, hr5, hg5, hB5⟩
             case measure => simp [intOf])
          | (have hr5 := hr
             go_wp2_with (first | (go_at_call_of 14 (Value.string ⟨#[103, 111, 111, 100]⟩); refine (HG.out _ hr5).mono ?_; rintro e w' ⟨rfl, hw⟩; obtain rfl := hw.symm; clear hw) | (go_at_call_of 14 (Value.string ⟨#[115, 97, 118, 101, 100]⟩); refine (HS.out _ hr5).mono ?_; rintro e w' ⟨rfl, hw⟩; obtain rfl := hw.symm; clear hw) | (go_at_call_of 14 (Value.string ⟨#[115, 99, 114, 97, 112, 112, 101, 100]⟩); refine (HC.out _ hr5).mono ?_; rintro e w' ⟨rfl, hw⟩; obtain rfl := hw.symm; clear hw))
             go_roundw
             case rel => exact ⟨4, by omega, by omega, rfl, rfl, rfl, hr5, hg, hB⟩
             case measure => simp [intOf])
      · simp only [smV, fdV, beq_self_eq_true, Bool.true_and, Int.reduceBEq, Bool.false_and, Bool.false_or, Bool.or_false]
        cases c1 <;> cases c2 <;> cases r1 <;> cases r2 <;> cases r3
        all_goals first
          | (go_wp2_with fail
             refine (K3.out _ (HE.out _ hB) hr hg).mono ?_
             rintro e w5 ⟨rfl, hb5⟩
             have hr5 := hr.up hb5 hg
             have hg5 := Nat.lt_of_lt_of_le hg hb5.size
             have hB5 := up_trans hB hb5
             clear hr hg hB hb5 q0
             go_wp2_with (first | (go_at_call_of 14 (Value.string ⟨#[103, 111, 111, 100]⟩); refine (HG.out _ hr5).mono ?_; rintro e w' ⟨rfl, hw⟩; obtain rfl := hw.symm; clear hw) | (go_at_call_of 14 (Value.string ⟨#[115, 97, 118, 101, 100]⟩); refine (HS.out _ hr5).mono ?_; rintro e w' ⟨rfl, hw⟩; obtain rfl := hw.symm; clear hw) | (go_at_call_of 14 (Value.string ⟨#[115, 99, 114, 97, 112, 112, 101, 100]⟩); refine (HC.out _ hr5).mono ?_; rintro e w' ⟨rfl, hw⟩; obtain rfl := hw.symm; clear hw))
             go_roundw
             case rel => exact ⟨4, by omega, by omega, rfl, rfl, rfl, hr5, hg5, hB5⟩
             case measure => simp [intOf])
          | (have hr5 := hr
             go_wp2_with (first | (go_at_call_of 14 (Value.string ⟨#[103, 111, 111, 100]⟩); refine (HG.out _ hr5).mono ?_; rintro e w' ⟨rfl, hw⟩; obtain rfl := hw.symm; clear hw) | (go_at_call_of 14 (Value.string ⟨#[115, 97, 118, 101, 100]⟩); refine (HS.out _ hr5).mono ?_; rintro e w' ⟨rfl, hw⟩; obtain rfl := hw.symm; clear hw) | (go_at_call_of 14 (Value.string ⟨#[115, 99, 114, 97, 112, 112, 101, 100]⟩); refine (HC.out _ hr5).mono ?_; rintro e w' ⟨rfl, hw⟩; obtain rfl := hw.symm; clear hw))
             go_roundw
             case rel => exact ⟨4, by omega, by omega, rfl, rfl, rfl, hr5, hg, hB⟩
             case measure => simp [intOf])
      · simp only [smV, fdV, Int.reduceBEq, Bool.false_and, Bool.or_false]
        cases c1 <;> cases c2
        all_goals first
          | (go_wp2_with fail
             refine (K3.out _ (HE.out _ hB) hr hg).mono ?_
             rintro e w5 ⟨rfl, hb5⟩
             have hr5 := hr.up hb5 hg
             have hg5 := Nat.lt_of_lt_of_le hg hb5.size
             have hB5 := up_trans hB hb5
             clear hr hg hB hb5 q0
             go_wp2_with (first | (go_at_call_of 14 (Value.string ⟨#[103, 111, 111, 100]⟩); refine (HG.out _ hr5).mono ?_; rintro e w' ⟨rfl, hw⟩; obtain rfl := hw.symm; clear hw) | (go_at_call_of 14 (Value.string ⟨#[115, 97, 118, 101, 100]⟩); refine (HS.out _ hr5).mono ?_; rintro e w' ⟨rfl, hw⟩; obtain rfl := hw.symm; clear hw) | (go_at_call_of 14 (Value.string ⟨#[115, 99, 114, 97, 112, 112, 101, 100]⟩); refine (HC.out _ hr5).mono ?_; rintro e w' ⟨rfl, hw⟩; obtain rfl := hw.symm; clear hw))
             go_roundw
             case rel => exact ⟨4, by omega, by omega, rfl, rfl, rfl, hr5, hg5, hB5⟩
             case measure => simp [intOf])
          | (have hr5 := hr
             go_wp2_with (first | (go_at_call_of 14 (Value.string ⟨#[103, 111, 111, 100]⟩); refine (HG.out _ hr5).mono ?_; rintro e w' ⟨rfl, hw⟩; obtain rfl := hw.symm; clear hw) | (go_at_call_of 14 (Value.string ⟨#[115, 97, 118, 101, 100]⟩); refine (HS.out _ hr5).mono ?_; rintro e w' ⟨rfl, hw⟩; obtain rfl := hw.symm; clear hw) | (go_at_call_of 14 (Value.string ⟨#[115, 99, 114, 97, 112, 112, 101, 100]⟩); refine (HC.out _ hr5).mono ?_; rintro e w' ⟨rfl, hw⟩; obtain rfl := hw.symm; clear hw))
             go_roundw
             case rel => exact ⟨4, by omega, by omega, rfl, rfl, rfl, hr5, hg, hB⟩
             case measure => simp [intOf])
    · have h4 : smV c1 c2 c3 4 = true := by
        rcases Hsome.out with h | h | h <;> simp [smV, h]
      have h5 := Hcv.out
      rw [h4, ← h5]
      clear h4 h5 Hcv Hsome
      cases cv
      all_goals
        go_wp2_with fail
        go_ret
        exact ⟨rfl, hB⟩
end Go.Proofs.YtkfclahdofjhjaaDoor
