/- Whether one phase may come behind another one, or is it: the laws' own look. -/
import Derived.Test.YtkfclahdofjhjaaDoorWcBool
import Derived.Test.YtkfclahdofjhjaaDoorWr1
namespace Go.Proofs.YtkfclahdofjhjaaDoor
open Go.RowKit

theorem endN_cases (s : ByteArray) : (endN s = 1 ∧ s.toList = [103, 111, 111, 100]) ∨ (endN s = 2 ∧ s.toList = [115, 97, 118, 101, 100]) ∨ (endN s = 3 ∧ s.toList = [115, 99, 114, 97, 112, 112, 101, 100]) ∨ endN s = 0 := by
  unfold endN
  split
  · rename_i h; exact .inl ⟨rfl, by simpa using h⟩
  · split
    · rename_i h; exact .inr (.inl ⟨rfl, by simpa using h⟩)
    · split
      · rename_i h; exact .inr (.inr (.inl ⟨rfl, by simpa using h⟩))
      · exact .inr (.inr (.inr rfl))
theorem endN_inj {a b : ByteArray} (h : endN a = endN b) (h0 : endN b ≠ 0) : (a.toList == b.toList) = true := by
  rw [beq_iff_eq]
  rcases endN_cases a with ⟨ea, ha⟩ | ⟨ea, ha⟩ | ⟨ea, ha⟩ | ea <;> rcases endN_cases b with ⟨eb, hb⟩ | ⟨eb, hb⟩ | ⟨eb, hb⟩ | eb <;> first | (rw [ha, hb]; done) | (exfalso; omega)

def frp (to : ByteArray) (p : Ph) (a b : Bool) : Bool := (p.nm.toList == to.toList) || a || b
/-- What wrReach answers of a recipe that is ok, of a name that is an end or a phase. -/
def reachV (ps : List Ph) (to nm : ByteArray) : Bool := evL (feB (endN to)) (frp to) false ps nm
theorem atI_end {ps : List Ph} (hok : recB ps = true) {nm : ByteArray} (h : endN nm ≠ 0) : atI ps nm < 0 := by
  rcases atI_cases ps nm with ⟨_, ha⟩ | ⟨j, q, hq, he, _, _⟩
  · omega
  · exfalso
    obtain ⟨_, _, ha⟩ := (recB_iff ps).1 hok
    have hs := ha j q (List.getElem?_eq_some_iff.1 hq).1 hq
    simp only [stepI, Bool.and_eq_true, Ph.okB, phaseB] at hs
    have h0 : endN q.nm = 0 := by simpa using hs.1.1.1.1.1.1.1.2
    exact h ((endN_congr he).symm.trans h0)
theorem reach_same {ps : List Ph} (hok : recB ps = true) {to nm : ByteArray} (hto : endN to ≠ 0 ∨ hasB ps to = true) (h : (nm.toList == to.toList) = true) : reachV ps to nm = true := by
  by_cases he : endN to = 0
  · have hh : hasB ps nm = true := by rw [hasB_congr h]; rcases hto with h | h; exact absurd he h; exact h
    rcases atI_cases ps nm with ⟨hn, _⟩ | ⟨j, q, hq, hqe, ha, _⟩
    · rw [hn] at hh; cases hh
    · obtain ⟨hj, rfl⟩ := List.getElem?_eq_some_iff.1 hq
      unfold reachV
      rw [evL_step hok _ _ _ nm hj ha, frp]
      have : ((ps[j]).nm.toList == to.toList) = true := by
        rw [beq_iff_eq] at *; rw [hqe, h]
      rw [this]; rfl
  · have hn : endN nm ≠ 0 := by rw [endN_congr h]; exact he
    unfold reachV
    rw [evL_out ps _ _ _ nm (atI_end hok hn), if_neg hn, feB, endN_congr h]; simp
theorem reach_none {ps : List Ph} {to nm : ByteArray} (h : (nm.toList == to.toList) = false) (ha : atI ps nm < 0) : reachV ps to nm = false := by
  unfold reachV
  rw [evL_out ps _ _ _ nm ha]
  split
  · rfl
  · rename_i hn
    rw [feB, beq_eq_false_iff_ne]
    intro e
    have := endN_inj e (by rw [← e]; exact hn)
    rw [h] at this; cases this
theorem reach_step {ps : List Ph} (hok : recB ps = true) {to nm : ByteArray} {k : Nat} (hk : k < ps.length) (h : (nm.toList == to.toList) = false) (ha : atI ps nm = (k : Int)) : reachV ps to nm = (reachV ps to (ps[k]).t || reachV ps to (ps[k]).e) := by
  unfold reachV
  rw [evL_step hok _ _ _ nm hk ha, frp]
  have : ((ps[k]).nm.toList == to.toList) = false := by
    rcases atI_cases ps nm with ⟨_, hn⟩ | ⟨j, q, hq, he, hj, _⟩
    · omega
    · obtain rfl : j = k := by omega
      obtain ⟨_, rfl⟩ := List.getElem?_eq_some_iff.1 hq
      rw [beq_iff_eq] at he; rw [he]; exact h
  rw [this, Bool.false_or]

set_option maxHeartbeats 1000000 in
theorem reach_any (ps : List Ph) (b o c : Nat) (to : ByteArray) (hok : recB ps = true) (hto : endN to ≠ 0 ∨ hasB ps to = true) (f : Nat) : ∀ (nm : ByteArray) (w : World), RecAt w b o ps → (atI ps nm < 0 ∨ (ps.length : Int) < atI ps nm + f) →
    Calls Tryd.prog 14 #[.slice (some ⟨b, o, none⟩) ps.length c, .string nm, .string to] w fun e w' => e = .returned (.bool (reachV ps to nm)) ∧ w' = w := by
  have h12 : ps.length ≤ 12 := ((recB_iff ps).1 hok).2.1
  have hn : ps.length ≤ 1048576 := by omega
  have key : ∀ f : Nat, (∀ (k : Nat) (hk : k < ps.length), (k : Int) + f + 1 > ps.length → ∀ w, RecAt w b o ps → Calls Tryd.prog 14 #[.slice (some ⟨b, o, none⟩) ps.length c, .string (ps[k]).t, .string to] w fun e w' => e = .returned (.bool (reachV ps to (ps[k]).t)) ∧ w' = w) →
      (∀ (k : Nat) (hk : k < ps.length), (k : Int) + f + 1 > ps.length → ∀ w, RecAt w b o ps → Calls Tryd.prog 14 #[.slice (some ⟨b, o, none⟩) ps.length c, .string (ps[k]).e, .string to] w fun e w' => e = .returned (.bool (reachV ps to (ps[k]).e)) ∧ w' = w) →
      ∀ (nm : ByteArray) (w : World), RecAt w b o ps → (atI ps nm < 0 ∨ (ps.length : Int) < atI ps nm + f + 1) → Calls Tryd.prog 14 #[.slice (some ⟨b, o, none⟩) ps.length c, .string nm, .string to] w fun e w' => e = .returned (.bool (reachV ps to nm)) ∧ w' = w := by
    intro f I1 I2 nm w hr hf
    cases hq0 : (nm.toList == to.toList)
    case true =>
      have HV : Hid (reachV ps to nm = true) := reach_same hok hto hq0
      clear I1 I2
      go_enter Tryd.func14, Tryd.ntmps14
      go_wp2
      go_ret
      exact ⟨ret_bool HV.out.symm, rfl⟩
    have HN : Hid (atI ps nm < 0 → reachV ps to nm = false) := reach_none hq0
    have HS : Hid (∀ k (hk : k < ps.length), atI ps nm = (k : Int) → reachV ps to nm = (reachV ps to (ps[k]).t || reachV ps to (ps[k]).e)) := fun k hk ha => reach_step hok hk hq0 ha
    go_enter Tryd.func14, Tryd.ntmps14
    go_wp2
    go_loop [7] (fun i => ∃ k : Nat, k ≤ ps.length ∧ i = .int .i64 k ∧ hasB (ps.take k) nm = false) (fun i => ps.length - (intOf i).toNat)
    case atStart => exact ⟨0, by omega, rfl, rfl⟩
    case round =>
      obtain ⟨k, hk, rfl, hal⟩ := hrel
      have Hal : Hid (hasB (ps.take k) nm = false) := hal
      clear hal
      by_cases hp : k < ps.length
      · obtain ⟨c0, c1, c2, c3, c4, c5, c6, c7⟩ := hr.cells k hp
        cases hq : ((ps[k]).nm.toList == nm.toList)
        · have Hq : Hid (((ps[k]).nm.toList == nm.toList) = false) := hq
          clear I1 I2
          go_wp2
          go_round
          case rel => exact ⟨k + 1, by omega, by go_num, by rw [hasB_take ps nm k hp, Hal.out, Hq.out]; rfl⟩
          case measure => simp [intOf]; omega
        · have ha := atI_found ps nm k hp Hal.out hq
          have HV := HS.out k hp ha
          have J1 := I1 k hp (by omega)
          have J2 := I2 k hp (by omega)
          have HJ1 : Hid (∀ w, RecAt w b o ps → Calls Tryd.prog 14 #[.slice (some ⟨b, o, none⟩) ps.length c, .string (ps[k]).t, .string to] w fun e w' => e = .returned (.bool (reachV ps to (ps[k]).t)) ∧ w' = w) := J1
          have HJ2 : Hid (∀ w, RecAt w b o ps → Calls Tryd.prog 14 #[.slice (some ⟨b, o, none⟩) ps.length c, .string (ps[k]).e, .string to] w fun e w' => e = .returned (.bool (reachV ps to (ps[k]).e)) ∧ w' = w) := J2
          have HHV : Hid (reachV ps to nm = (reachV ps to (ps[k]).t || reachV ps to (ps[k]).e)) := HV
          clear I1 I2 J1 J2 HV ha hf
          generalize hx : reachV ps to (ps[k]).t = x at *
          generalize hy : reachV ps to (ps[k]).e = y at *
          clear hx hy
          cases x
          · go_wp2_with fail
            refine (HJ1.out _ hr).mono ?_
            rintro e w' ⟨rfl, hw⟩; obtain rfl := hw.symm; clear hw
            go_wp2_with fail
            refine (HJ2.out _ hr).mono ?_
            rintro e w' ⟨rfl, hw⟩; obtain rfl := hw.symm; clear hw
            go_wp2_with fail
            go_ret
            exact ⟨ret_bool (by rw [HHV.out]; simp), rfl⟩
          · go_wp2_with fail
            refine (HJ1.out _ hr).mono ?_
            rintro e w' ⟨rfl, hw⟩; obtain rfl := hw.symm; clear hw
            go_wp2_with fail
            go_ret
            exact ⟨ret_bool (by rw [HHV.out]; simp), rfl⟩
      · have ha := atI_none ps nm (hasB_all ps nm k hp Hal.out)
        have HV : Hid (reachV ps to nm = false) := HN.out (by omega)
        clear I1 I2
        go_wp2
        go_ret
        exact ⟨ret_bool HV.out.symm, rfl⟩
  induction f with
  | zero =>
    intro nm w hr hf
    have hlt := atI_lt ps nm
    have h0 : atI ps nm < 0 := by omega
    exact key 0 (fun k hk h => by omega) (fun k hk h => by omega) nm w hr (.inl h0)
  | succ f ih =>
    intro nm w hr hf
    refine key f (fun k hk h w hr => ih _ w hr ?_) (fun k hk h w hr => ih _ w hr ?_) nm w hr (by omega)
    · have := atI_later hok hk _ (goes_of hok hk).1; omega
    · have := atI_later hok hk _ (goes_of hok hk).2; omega
end Go.Proofs.YtkfclahdofjhjaaDoor
