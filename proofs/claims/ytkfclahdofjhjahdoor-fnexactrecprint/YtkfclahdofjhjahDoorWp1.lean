/- The specification's text of a recipe: numbers and kinds. -/
import Derived.Test.YtkfclahdofjhjahDoorPp
import Derived.Test.YtkfclahdofjhjahDoorDt0
namespace Go.Proofs.YtkfclahdofjhjahDoor
open Go.RowKit

theorem cat_one (l : List UInt8) (b : UInt8) : (ofL l ++ ⟨#[b]⟩ : ByteArray) = ofL (l ++ [b]) := ba_eq (by rw [ba_cat]; rfl)
theorem dec_small (n : Int) (w : World) (h0 : 0 ≤ n) (h1 : n < 10) :
    Calls Tryd.prog 45 #[.int .i64 n] w fun e w' => e = .returned (.string (decS n)) ∧ Below w.heap.size w w' := by
  have hcv := digit_str w n h0 h1
  have Hd : Hid (decS n = ⟨#[UInt8.ofNat (48 + n).toNat]⟩) := by
    show _ = _; unfold decS; rw [Lib.decDigits_one (by omega), show (48 + n).toNat = 48 + n.toNat by omega]; rfl
  go_enter Tryd.func45, Tryd.ntmps45
  go_wp2_with fail
  go_ret
  exact ⟨by rw [Hd.out]; rfl, by go_grown⟩

theorem dec_cat (n : Int) (h0 : 10 ≤ n) (h1 : n ≤ 9999) : (decS (n / 10) ++ ⟨#[UInt8.ofNat (48 + n % 10).toNat]⟩ : ByteArray) = decS n := by
  unfold decS
  have e2 := Lib.decDigits.eq_def n.toNat
  rw [dif_neg (by omega)] at e2
  rw [cat_one, e2, show (n / 10).toNat = n.toNat / 10 by omega, show (48 + n % 10).toNat = 48 + n.toNat % 10 by omega]
set_option maxHeartbeats 1000000 in
set_option maxRecDepth 20000 in
theorem dec_is (n : Int) (w : World) (h0 : 0 ≤ n) (h1 : n ≤ 9999) :
    Calls Tryd.prog 45 #[.int .i64 n] w fun e w' => e = .returned (.string (decS n)) ∧ Below w.heap.size w w' := by
  by_cases h9 : n < 10
  · exact dec_small n w h0 h9
  have ih := fun (w : World) => dec_is (n / 10) w (by omega) (by omega)
  have Ih : Hid (∀ w : World, Calls Tryd.prog 45 #[.int .i64 (n / 10)] w fun e w' => e = .returned (.string (decS (n / 10))) ∧ Below w.heap.size w w') := ih
  clear ih
  have hq : Hid (IntKind.i64.wrap (n.tdiv 10) = n / 10) := by
    show _ = _; rw [IntKind.wrap_i64, Int.tdiv_eq_ediv_of_nonneg (by omega)]; omega
  have hX : Hid (0 ≤ IntKind.u8.wrap (IntKind.i64.wrap (48 + n.tmod 10)) ∧ IntKind.u8.wrap (IntKind.i64.wrap (48 + n.tmod 10)) < 256) := by
    show _ ∧ _
    generalize IntKind.i64.wrap (48 + n.tmod 10) = y
    rw [IntKind.wrap_u8]; omega
  have Sz : Hid ((decS (n / 10)).size ≤ 4) := decS_size _ (by omega)
  go_enter Tryd.func45, Tryd.ntmps45
  go_wp2_with fail
  have hcv0 := digit_str2 (w.alloc (.cells #[.int .u8 (IntKind.u8.wrap (IntKind.i64.wrap (48 + n.tmod 10)))] 5)).drew w.heap.size _ hX.out.1 hX.out.2 (by simp [go_sem])
  go_region_with
    (go_at_call 45; rw [hq.out]; refine (Ih.out _).mono ?_; obtain ⟨s, hs, hs4⟩ : ∃ s, Hid (s = decS (n / 10)) ∧ s.size ≤ 4 := ⟨_, rfl, Sz.out⟩; rw [← hs.out]; rintro e w1 ⟨rfl, hB1⟩; first
      | (have hd := digA hB1; have hcv2 := digit_str2 w1 w.heap.size _ hX.out.1 hX.out.2 hd; clear hd)
      | have hcv1 := digit_str2 (w1.alloc (.cells #[.int .u8 (IntKind.u8.wrap (IntKind.i64.wrap (48 + n.tmod 10)))] 5)) w1.heap.size _ hX.out.1 hX.out.2 (by simp [go_sem]))
  all_goals
    go_wp2_with fail
    go_ret
    refine ⟨by rw [← dec_cat n (by omega) h1, ← hs.out]; rfl, ?_⟩
    first
      | exact up_trans (Below.refl _ _).drew (up_trans hB1 ((Below.refl _ _).alloc (Nat.le_refl _) _))
      | exact up_trans (((Below.refl _ _).alloc (Nat.le_refl _) _).drew) hB1
termination_by n.toNat
decreasing_by omega

theorem kind_is (k : Int) (w : World) (h : 1 ≤ k ∧ k ≤ 5) :
    Calls Tryd.prog 44 #[.int .i64 k] w fun e w' => e = .returned (.string (kindS k)) ∧ Below w.heap.size w w' := by
  rcases (by omega : k = 1 ∨ k = 2 ∨ k = 3 ∨ k = 4 ∨ k = 5) with rfl | rfl | rfl | rfl | rfl
  all_goals
    go_enter Tryd.func44, Tryd.ntmps44
    go_wp2_with fail
    go_ret
    exact ⟨rfl, by go_grown⟩
end Go.Proofs.YtkfclahdofjhjahDoor
