/- The program's RunHouseOk (chapter 22). -/
import Derived.Test.YtialglmnfchfmafGreatDoorJ30
namespace Go.Proofs.YtialglmnfchfmafGreatDoor
open Go.RowKit

/-- The checks, in their order. -/
def chk (h : House) (j : Nat) : Prop := match j with
  | 0 => TimesOk h
  | 1 => DonesOk h
  | 2 => SafeP h.sh
  | 3 => NamesOk h
  | 4 => BatsOk h
  | 5 => NeedTo h h.bs.length
  | _ => HaveTo h h.bs.length
theorem house_chk (h : House) : HouseOk h ↔ ∀ j, j < 7 → chk h j := by
  constructor
  · rintro ⟨t0, t1, t2, t3, t4, t5, t6⟩ j hj
    match j, hj with
    | 0, _ => exact t0
    | 1, _ => exact t1
    | 2, _ => exact t2
    | 3, _ => exact t3
    | 4, _ => exact t4
    | 5, _ => exact t5
    | 6, _ => exact t6
  · intro t
    exact ⟨t 0 (by omega), t 1 (by omega), t 2 (by omega), t 3 (by omega), t 4 (by omega), t 5 (by omega), t 6 (by omega)⟩
set_option maxRecDepth 20000 in
set_option maxHeartbeats 8000000 in
theorem houseOkP_any (h : House) (tv bv xv dv : Value) (w : World) (hE : Ends w) (H : HV w h tv bv xv dv) :
    Calls Tryz.prog 18 #[.agg #[.int .i64 h.now, .int .i64 h.last, tv, bv, xv, dv]] w fun e w' => e = .returned (.bool (pB (HouseOk h))) ∧ Below w.heap.size w w' := by
  obtain ⟨a1, c1, a2, c2, a3, c3, a4, c4, rfl, rfl, rfl, rfl⟩ := H.shapes
  have HE : Hid (Ends w) := hE
  clear hE
  have hB0 := (Below.refl w.heap.size w).alloc (Nat.le_refl _) (.cells #[.int .i64 h.now, .int .i64 h.last, .slice a1 h.sh.things.length c1, .slice a2 h.sh.bs.length c2, .slice a3 h.bs.length c3, .slice a4 h.ds.length c4] 54)
  have hC : CB (w.alloc (.cells #[.int .i64 h.now, .int .i64 h.last, .slice a1 h.sh.things.length c1, .slice a2 h.sh.bs.length c2, .slice a3 h.bs.length c3, .slice a4 h.ds.length c4] 54)) w.heap.size [.int .i64 h.now, .int .i64 h.last, .slice a1 h.sh.things.length c1, .slice a2 h.sh.bs.length c2, .slice a3 h.bs.length c3, .slice a4 h.ds.length c4] := cb_alloc w _ _
  go_enter Tryz.func18, Tryz.ntmps18
  go_upto_region 1 with fail
  generalize w.alloc (.cells #[.int .i64 h.now, .int .i64 h.last, .slice a1 h.sh.things.length c1, .slice a2 h.sh.bs.length c2, .slice a3 h.bs.length c3, .slice a4 h.ds.length c4] 54) = W1 at *
  have hlt := hC.2.2
  have hF0 : CB (W1.alloc (.cells #[.func (.func 51) #[] #[], .func (.func 52) #[] #[], .func (.func 53) #[] #[], .func (.func 54) #[] #[], .func (.func 55) #[] #[], .func (.func 56) #[] #[], .func (.func 57) #[] #[]] 47)) W1.heap.size [.func (.func 51) #[] #[], .func (.func 52) #[] #[], .func (.func 53) #[] #[], .func (.func 54) #[] #[], .func (.func 55) #[] #[], .func (.func 56) #[] #[], .func (.func 57) #[] #[]] := cb_alloc W1 _ _
  have hBF := (Below.refl W1.heap.size W1).alloc (Nat.le_refl _) (.cells #[.func (.func 51) #[] #[], .func (.func 52) #[] #[], .func (.func 53) #[] #[], .func (.func 54) #[] #[], .func (.func 55) #[] #[], .func (.func 56) #[] #[], .func (.func 57) #[] #[]] 47)
  go_upto_region 2 with fail
  generalize W1.alloc (.cells #[.func (.func 51) #[] #[], .func (.func 52) #[] #[], .func (.func 53) #[] #[], .func (.func 54) #[] #[], .func (.func 55) #[] #[], .func (.func 56) #[] #[], .func (.func 57) #[] #[]] 47) = W2 at *
  have hFlt := hF0.2.2
  go_wp2_with fail
  go_loopw [5, 9] (fun _ i w' => ∃ k : Nat, k ≤ 7 ∧ i = .int .i64 k ∧ (∀ j, j < k → chk h j) ∧ Below W1.heap.size W1 w' ∧ Below W2.heap.size W2 w') (fun _ i _ => 7 - (intOf i).toNat)
  case atStart => exact ⟨0, by omega, rfl, fun j hj => by omega, hBF, Below.refl _ _⟩
  case round =>
    obtain ⟨k, hk, rfl, hinv, hB, hBW⟩ := hrel
    have HI : Hid (∀ j, j < k → chk h j) := hinv
    clear hinv
    by_cases hp : k < 7
    · have hB01 := up_trans hB0 hB
      have HV1 := H.up hB01
      have hE1 := HE.out.up hB01
      obtain ⟨d0, d1, d2, d3, d4, d5⟩ := (hC.up hB hlt).c6
      have hF := hF0.up hBW hFlt
      rcases (by omega : k = 0 ∨ k = 1 ∨ k = 2 ∨ k = 3 ∨ k = 4 ∨ k = 5 ∨ k = 6) with rfl | rfl | rfl | rfl | rfl | rfl | rfl
      · have cf : wr.cell? ⟨W1.heap.size, 0, none⟩ = some (.func (.func 51) #[] #[]) := hF.1 0 _ rfl
        go_wp2_with fail
        refine (timesP_any h _ _ _ _ _ HV1).mono ?_
        rintro e w3 ⟨rfl, hB3⟩
        have hB13 := up_trans hB hB3
        have hB03 := up_trans hB0 hB13
        clear d0 d1 d2 d3 d4 d5 cf
        cases hq : pB (chk h 0)
        · have HN : Hid (pB (HouseOk h) = false) := pB_no fun t => pB_not.1 hq (((house_chk h).1 t) 0 (by omega))
          have hq' : pB (chk h 0) = false := hq
          unfold chk at hq'
          go_wp2_with fail
          go_ret
          exact ⟨ret_bool HN.out.symm, hB03⟩
        · have HY : Hid (∀ j, j < 0 + 1 → chk h j) := fun j hj => by
            rcases Nat.lt_or_ge j 0 with h' | h'
            · exact HI.out j h'
            · obtain rfl : j = 0 := by omega
              exact pB_iff.1 hq
          have hq' : pB (chk h 0) = true := hq
          unfold chk at hq'
          go_wp2_with fail
          go_roundw
          case rel => exact ⟨1, by omega, by go_num, HY.out, hB13, up_trans hBW hB3⟩
          case measure => simp [intOf]
      · have cf : wr.cell? ⟨W1.heap.size, 1, none⟩ = some (.func (.func 52) #[] #[]) := hF.1 1 _ rfl
        go_wp2_with fail
        refine (donesP_any h _ _ _ _ _ HV1).mono ?_
        rintro e w3 ⟨rfl, hB3⟩
        have hB13 := up_trans hB hB3
        have hB03 := up_trans hB0 hB13
        clear d0 d1 d2 d3 d4 d5 cf
        cases hq : pB (chk h 1)
        · have HN : Hid (pB (HouseOk h) = false) := pB_no fun t => pB_not.1 hq (((house_chk h).1 t) 1 (by omega))
          have hq' : pB (chk h 1) = false := hq
          unfold chk at hq'
          go_wp2_with fail
          go_ret
          exact ⟨ret_bool HN.out.symm, hB03⟩
        · have HY : Hid (∀ j, j < 1 + 1 → chk h j) := fun j hj => by
            rcases Nat.lt_or_ge j 1 with h' | h'
            · exact HI.out j h'
            · obtain rfl : j = 1 := by omega
              exact pB_iff.1 hq
          have hq' : pB (chk h 1) = true := hq
          unfold chk at hq'
          go_wp2_with fail
          go_roundw
          case rel => exact ⟨2, by omega, by go_num, HY.out, hB13, up_trans hBW hB3⟩
          case measure => simp [intOf]
      · have cf : wr.cell? ⟨W1.heap.size, 2, none⟩ = some (.func (.func 53) #[] #[]) := hF.1 2 _ rfl
        go_wp2_with fail
        refine (shareP_any h _ _ _ _ _ HV1).mono ?_
        rintro e w3 ⟨rfl, hB3⟩
        have hB13 := up_trans hB hB3
        have hB03 := up_trans hB0 hB13
        clear d0 d1 d2 d3 d4 d5 cf
        cases hq : pB (chk h 2)
        · have HN : Hid (pB (HouseOk h) = false) := pB_no fun t => pB_not.1 hq (((house_chk h).1 t) 2 (by omega))
          have hq' : pB (chk h 2) = false := hq
          unfold chk at hq'
          go_wp2_with fail
          go_ret
          exact ⟨ret_bool HN.out.symm, hB03⟩
        · have HY : Hid (∀ j, j < 2 + 1 → chk h j) := fun j hj => by
            rcases Nat.lt_or_ge j 2 with h' | h'
            · exact HI.out j h'
            · obtain rfl : j = 2 := by omega
              exact pB_iff.1 hq
          have hq' : pB (chk h 2) = true := hq
          unfold chk at hq'
          go_wp2_with fail
          go_roundw
          case rel => exact ⟨3, by omega, by go_num, HY.out, hB13, up_trans hBW hB3⟩
          case measure => simp [intOf]
      · have cf : wr.cell? ⟨W1.heap.size, 3, none⟩ = some (.func (.func 54) #[] #[]) := hF.1 3 _ rfl
        go_wp2_with fail
        refine (namesP_any h _ _ _ _ _ HV1 (HI.out 2 (by omega)).book).mono ?_
        rintro e w3 ⟨rfl, hB3⟩
        have hB13 := up_trans hB hB3
        have hB03 := up_trans hB0 hB13
        clear d0 d1 d2 d3 d4 d5 cf
        cases hq : pB (chk h 3)
        · have HN : Hid (pB (HouseOk h) = false) := pB_no fun t => pB_not.1 hq (((house_chk h).1 t) 3 (by omega))
          have hq' : pB (chk h 3) = false := hq
          unfold chk at hq'
          go_wp2_with fail
          go_ret
          exact ⟨ret_bool HN.out.symm, hB03⟩
        · have HY : Hid (∀ j, j < 3 + 1 → chk h j) := fun j hj => by
            rcases Nat.lt_or_ge j 3 with h' | h'
            · exact HI.out j h'
            · obtain rfl : j = 3 := by omega
              exact pB_iff.1 hq
          have hq' : pB (chk h 3) = true := hq
          unfold chk at hq'
          go_wp2_with fail
          go_roundw
          case rel => exact ⟨4, by omega, by go_num, HY.out, hB13, up_trans hBW hB3⟩
          case measure => simp [intOf]
      · have cf : wr.cell? ⟨W1.heap.size, 4, none⟩ = some (.func (.func 55) #[] #[]) := hF.1 4 _ rfl
        go_wp2_with fail
        refine (batsP_any h _ _ _ _ _ hE1 HV1).mono ?_
        rintro e w3 ⟨rfl, hB3⟩
        have hB13 := up_trans hB hB3
        have hB03 := up_trans hB0 hB13
        clear d0 d1 d2 d3 d4 d5 cf
        cases hq : pB (chk h 4)
        · have HN : Hid (pB (HouseOk h) = false) := pB_no fun t => pB_not.1 hq (((house_chk h).1 t) 4 (by omega))
          have hq' : pB (chk h 4) = false := hq
          unfold chk at hq'
          go_wp2_with fail
          go_ret
          exact ⟨ret_bool HN.out.symm, hB03⟩
        · have HY : Hid (∀ j, j < 4 + 1 → chk h j) := fun j hj => by
            rcases Nat.lt_or_ge j 4 with h' | h'
            · exact HI.out j h'
            · obtain rfl : j = 4 := by omega
              exact pB_iff.1 hq
          have hq' : pB (chk h 4) = true := hq
          unfold chk at hq'
          go_wp2_with fail
          go_roundw
          case rel => exact ⟨5, by omega, by go_num, HY.out, hB13, up_trans hBW hB3⟩
          case measure => simp [intOf]
      · have cf : wr.cell? ⟨W1.heap.size, 5, none⟩ = some (.func (.func 56) #[] #[]) := hF.1 5 _ rfl
        go_wp2_with fail
        refine (needsP_any h _ _ _ _ _ hE1 HV1 (HI.out 2 (by omega)).book (HI.out 3 (by omega))).mono ?_
        rintro e w3 ⟨rfl, hB3⟩
        have hB13 := up_trans hB hB3
        have hB03 := up_trans hB0 hB13
        clear d0 d1 d2 d3 d4 d5 cf
        cases hq : pB (chk h 5)
        · have HN : Hid (pB (HouseOk h) = false) := pB_no fun t => pB_not.1 hq (((house_chk h).1 t) 5 (by omega))
          have hq' : pB (chk h 5) = false := hq
          unfold chk at hq'
          go_wp2_with fail
          go_ret
          exact ⟨ret_bool HN.out.symm, hB03⟩
        · have HY : Hid (∀ j, j < 5 + 1 → chk h j) := fun j hj => by
            rcases Nat.lt_or_ge j 5 with h' | h'
            · exact HI.out j h'
            · obtain rfl : j = 5 := by omega
              exact pB_iff.1 hq
          have hq' : pB (chk h 5) = true := hq
          unfold chk at hq'
          go_wp2_with fail
          go_roundw
          case rel => exact ⟨6, by omega, by go_num, HY.out, hB13, up_trans hBW hB3⟩
          case measure => simp [intOf]
      · have cf : wr.cell? ⟨W1.heap.size, 6, none⟩ = some (.func (.func 57) #[] #[]) := hF.1 6 _ rfl
        go_wp2_with fail
        refine (haveP_any h _ _ _ _ _ hE1 HV1 (HI.out 2 (by omega)).book (HI.out 3 (by omega)) (HI.out 4 (by omega))).mono ?_
        rintro e w3 ⟨rfl, hB3⟩
        have hB13 := up_trans hB hB3
        have hB03 := up_trans hB0 hB13
        clear d0 d1 d2 d3 d4 d5 cf
        cases hq : pB (chk h 6)
        · have HN : Hid (pB (HouseOk h) = false) := pB_no fun t => pB_not.1 hq (((house_chk h).1 t) 6 (by omega))
          have hq' : pB (chk h 6) = false := hq
          unfold chk at hq'
          go_wp2_with fail
          go_ret
          exact ⟨ret_bool HN.out.symm, hB03⟩
        · have HY : Hid (∀ j, j < 6 + 1 → chk h j) := fun j hj => by
            rcases Nat.lt_or_ge j 6 with h' | h'
            · exact HI.out j h'
            · obtain rfl : j = 6 := by omega
              exact pB_iff.1 hq
          have hq' : pB (chk h 6) = true := hq
          unfold chk at hq'
          go_wp2_with fail
          go_roundw
          case rel => exact ⟨7, by omega, by go_num, HY.out, hB13, up_trans hBW hB3⟩
          case measure => simp [intOf]
    · have HY : Hid (pB (HouseOk h) = true) := pB_yes ((house_chk h).2 fun j hj => HI.out j (by omega))
      go_wp2_with fail
      go_ret
      exact ⟨ret_bool HY.out.symm, up_trans hB0 hB⟩
end Go.Proofs.YtialglmnfchfmafGreatDoor
