/- The walks over recipes: looking for a name. -/
import Derived.Test.YtnflalaaoeedjahDoorWa
import Derived.Test.YtnflalaaoeedjahDoorPr
namespace Go.Proofs.YtnflalaaoeedjahDoor
open Go.RowKit

theorem at_any (ps : List Ph) (b o c : Nat) (nm : ByteArray) (w : World) (hr : RecAt w b o ps) (hn : ps.length ≤ 1048576) :
    Calls Tryd.prog 31 #[.slice (some ⟨b, o, none⟩) ps.length c, .string nm] w fun e w' => e = .returned (.int .i64 (atI ps nm)) ∧ w' = w := by
  go_enter Tryd.func31, Tryd.ntmps31
  go_wp2
  go_loop [5] (fun i => ∃ k : Nat, k ≤ ps.length ∧ i = .int .i64 k ∧ hasB (ps.take k) nm = false) (fun i => ps.length - (intOf i).toNat)
  case atStart => exact ⟨0, by omega, rfl, rfl⟩
  case round =>
    obtain ⟨k, hk, rfl, hal⟩ := hrel
    have Hal : Hid (hasB (ps.take k) nm = false) := hal
    clear hal
    by_cases hp : k < ps.length
    · obtain ⟨c0, -⟩ := hr.cells k hp
      cases hq : ((ps[k]).nm.toList == nm.toList)
      · have Hq : Hid (((ps[k]).nm.toList == nm.toList) = false) := hq
        go_wp2
        go_round
        case rel => exact ⟨k + 1, by omega, by go_num, by rw [hasB_take ps nm k hp, Hal.out, Hq.out]; rfl⟩
        case measure => simp [intOf]; omega
      · have Hq : Hid (((ps[k]).nm.toList == nm.toList) = true) := hq
        go_wp2
        go_ret
        exact ⟨ret_int (atI_found ps nm k hp Hal.out Hq.out).symm, rfl⟩
    · go_wp2
      go_ret
      exact ⟨ret_int (atI_none ps nm (hasB_all ps nm k hp Hal.out)).symm, rfl⟩

theorem has_any (ps : List Ph) (b o c : Nat) (nm : ByteArray) (w : World) (hr : RecAt w b o ps) (hb : b < w.heap.size) (hn : ps.length ≤ 1048576) :
    Calls Tryd.prog 34 #[.slice (some ⟨b, o, none⟩) ps.length c, .string nm] w fun e w' => e = .returned (.bool (hasB ps nm)) ∧ Below w.heap.size w w' := by
  go_enter Tryd.func34, Tryd.ntmps34
  go_wp2
  go_loopw [9] (fun i w' => ∃ k : Nat, k ≤ ps.length ∧ i = .int .i64 k ∧ hasB (ps.take k) nm = false ∧ Below w.heap.size w w') (fun i _ => ps.length - (intOf i).toNat)
  case atStart => exact ⟨0, by omega, rfl, rfl, Below.refl _ _⟩
  case round =>
    obtain ⟨k, hk, rfl, hal, hB⟩ := hrel
    have Hal : Hid (hasB (ps.take k) nm = false) := hal
    clear hal
    by_cases hp : k < ps.length
    · obtain ⟨c0, c1, c2, c3, c4, c5, c6, c7⟩ := (hr.up hB hb).cells k hp
      cases hq : ((ps[k]).nm.toList == nm.toList)
      · have Hq : Hid (((ps[k]).nm.toList == nm.toList) = false) := hq
        go_wp2
        go_roundw
        case rel => exact ⟨k + 1, by omega, by go_num, by rw [hasB_take ps nm k hp, Hal.out, Hq.out]; rfl, hB.alloc hB.size _⟩
        case measure => simp [intOf]; omega
      · have Hq : Hid (((ps[k]).nm.toList == nm.toList) = true) := hq
        go_wp2
        go_ret
        exact ⟨ret_bool (hasB_yes ps nm k hp Hq.out).symm, hB.alloc hB.size _⟩
    · go_wp2
      go_ret
      exact ⟨ret_bool (hasB_all ps nm k hp Hal.out).symm, hB⟩

theorem goes_any (ps : List Ph) (b o c : Nat) (nm : ByteArray) (w : World) (hE : Ends w) (hr : RecAt w b o ps) (hb : b < w.heap.size) (hn : ps.length ≤ 1048576) :
    Calls Tryd.prog 35 #[.slice (some ⟨b, o, none⟩) ps.length c, .string nm] w fun e w' => e = .returned (.bool (goesB ps nm)) ∧ Below w.heap.size w w' := by
  have HE : Hid (Ends w) := hE
  clear hE
  cases h : (endN nm != 0)
  · go_enter Tryd.func35, Tryd.ntmps35
    go_wp2_with (first | (go_at_call 36; refine (recEnd_any _ _ HE.out).mono ?_; rintro e w' ⟨rfl, hw⟩; obtain rfl := hw.symm; clear hw) | (go_at_call 34; refine (has_any _ _ _ _ _ _ hr hb hn).mono ?_; rintro e w1 ⟨rfl, hb1⟩; (first | (have hB' := up_trans hB hb1; clear hB; have hB := hB'; clear hB') | (have hB := hb1)); clear hb1; (try clear hc hf); obtain ⟨hc, hf⟩ := bcell hB))
    go_ret
    exact ⟨ret_bool (by simp [goesB, h]), hB⟩
  · go_enter Tryd.func35, Tryd.ntmps35
    go_wp2_with (first | (go_at_call 36; refine (recEnd_any _ _ HE.out).mono ?_; rintro e w' ⟨rfl, hw⟩; obtain rfl := hw.symm; clear hw) | (go_at_call 34; refine (has_any _ _ _ _ _ _ hr hb hn).mono ?_; rintro e w1 ⟨rfl, hb1⟩; (first | (have hB' := up_trans hB hb1; clear hB; have hB := hB'; clear hB') | (have hB := hb1)); clear hb1; (try clear hc hf); obtain ⟨hc, hf⟩ := bcell hB))
    go_ret
    exact ⟨ret_bool (by simp [goesB, h]), Below.refl _ _⟩

theorem has_at (ps : List Ph) (n b o c : Nat) (nm : ByteArray) (w : World) (hl : ps.length = n) (hr : RecAt w b o ps) (hb : b < w.heap.size) (hn : ps.length ≤ 1048576) :
    Calls Tryd.prog 34 #[.slice (some ⟨b, o, none⟩) n c, .string nm] w fun e w' => e = .returned (.bool (hasB ps nm)) ∧ Below w.heap.size w w' := by
  subst hl; exact has_any ps b o c nm w hr hb hn
theorem goes_at (ps : List Ph) (n b o c : Nat) (nm : ByteArray) (w : World) (hl : ps.length = n) (hE : Ends w) (hr : RecAt w b o ps) (hb : b < w.heap.size) (hn : ps.length ≤ 1048576) :
    Calls Tryd.prog 35 #[.slice (some ⟨b, o, none⟩) n c, .string nm] w fun e w' => e = .returned (.bool (goesB ps nm)) ∧ Below w.heap.size w w' := by
  subst hl; exact goes_any ps b o c nm w hE hr hb hn
end Go.Proofs.YtnflalaaoeedjahDoor
