/- The law of promise 8: its walk. -/
import Derived.Test.YtkfclahdofjhjaaDoorDs2
import Derived.Test.YtkfclahdofjhjaaDoorWr2
import Derived.Test.YtkfclahdofjhjaaDoorWr3
namespace Go.Proofs.YtkfclahdofjhjaaDoor
open Go.RowKit

theorem rec_one (p : Ph) : recB [p] = (p.okB && endN p.t != 0 && endN p.e != 0) := by
  rw [Bool.eq_iff_iff, recB_iff]
  constructor
  · rintro ⟨_, _, ha⟩
    have := ha 0 p (by simp) rfl
    simpa [stepI, goesB, hasB] using this
  · intro h
    refine ⟨by simp, by simp, fun i q hi hq => ?_⟩
    obtain rfl : i = 0 := by simp at hi; omega
    obtain rfl : p = q := by simpa using hq
    simpa [stepI, goesB, hasB] using h
theorem recAt_one (w : World) (p : Ph) (t : TypeId) : RecAt (w.alloc (.cells #[.string p.nm, .int .i64 p.k, .string p.a, .string p.b, .int .i64 p.n, .int .i64 p.wi, .string p.t, .string p.e] t)) w.heap.size 0 [p] := fun i q hq => by
  have hi : i < 1 := by have := (List.getElem?_eq_some_iff.1 hq).1; simpa using this
  obtain rfl : i = 0 := by omega
  obtain rfl : p = q := by simpa using hq
  exact (box_alloc w p t).1
theorem endN_nonneg (s : ByteArray) : 0 ≤ endN s := by unfold endN; split <;> (try split) <;> (try split) <;> omega
theorem okB_name {p : Ph} (h : p.okB = true) : endN p.nm = 0 := by
  simp only [Ph.okB, phaseB, Bool.and_eq_true, beq_iff_eq] at h
  exact h.1.1.1.1.2

set_option maxRecDepth 100000 in
set_option maxHeartbeats 4000000 in
theorem lawPhase8_any (a : Option Addr) (n cap : Nat) (w : World) (hE : Ends w) (h : BytesAt w w.heap.size (.slice a n cap) n) (hcap : n ≤ cap) (hbig : cap ≤ maxLen) :
    Calls Tryd.prog 6 #[.slice a n cap] w fun e' w' => e' = .returned (.bool true) ∧ Below w.heap.size w w' := by
  by_cases hn : 1048576 < n
  · go_enter Tryd.func6, Tryd.ntmps6
    go_wp2_with fail
    go_ret
    exact ⟨rfl, Below.refl _ _⟩
  go_enter Tryd.func6, Tryd.ntmps6
  go_wp2_with fail
  refine (draw_any a n cap _ h hcap hbig).mono ?_
  rintro e w1 ⟨⟨p, rfl, z0, z2, z3, z6, z7, -, -⟩, hB1⟩
  have hs : Sized [p] := fun q hq => by
    obtain rfl : q = p := by simpa using hq
    exact ⟨z0, z2, z3, z6, z7⟩
  have hr := rec_one p
  have hnm := okB_name (p := p)
  have ht0 := endN_nonneg p.t
  have he0 := endN_nonneg p.e
  have hbA := box_alloc w1 p 32
  have hBA := up_trans hB1 ((Below.refl _ _).alloc (Nat.le_refl _) (.cells #[.string p.nm, .int .i64 p.k, .string p.a, .string p.b, .int .i64 p.n, .int .i64 p.wi, .string p.t, .string p.e] 32))
  go_wp2_with fail
  generalize w1.alloc (.cells #[.string p.nm, .int .i64 p.k, .string p.a, .string p.b, .int .i64 p.n, .int .i64 p.wi, .string p.t, .string p.e] 32) = A1 at *
  generalize w1.heap.size = pb at *
  refine (recPhase_any _ _ _ _ _ _ _ _ _ (hE.up hBA) z0 z2 z3 z6 z7).mono ?_
  rintro e w2 ⟨he, hB2⟩
  have hB12 := up_trans hBA hB2
  have hb2 := hbA.kept (grown_below (r := none) hB2) (by simp)
  obtain ⟨c0, c1, c2, c3, c4, c5, c6, c7⟩ := hb2.cells
  replace he : e = .returned (.bool p.okB) := he
  subst he
  cases hX : p.okB
  · rw [hX, Bool.false_and, Bool.false_and] at hr
    go_wp2_with fail
    refine (recOk_any [p] w2.heap.size 0 1 _ (hE.up (up_trans hB12 ((Below.refl _ _).alloc (Nat.le_refl _) _))) (recAt_one w2 p 32) (by simp) hs (by simp) (by simp)).mono ?_
    rintro e w3 ⟨he, hB3⟩
    rw [hr] at he
    subst he
    have hB13 := up_trans (up_trans hB12 ((Below.refl _ _).alloc (Nat.le_refl _) _)) hB3
    have hb3 := (hb2.kept (grown_alloc (r := none) (grown_refl w2 none) _) (by simp)).kept (grown_below (r := none) hB3) (by simp)
    clear c0 c1 c2 c3 c4 c5 c6 c7
    obtain ⟨c0, c1, c2, c3, c4, c5, c6, c7⟩ := hb3.cells
    go_wp2_with fail
    refine (specPhase_any _ _ _ _ _ _ _ _ _ z0 z2 z3 z6 z7).mono ?_
    rintro e w4 ⟨he, hB4⟩
    replace he : e = .returned (.bool p.okB) := he
    rw [hX] at he
    subst he
    have hB14 := up_trans hB13 hB4
    have hb4 := hb3.kept (grown_below (r := none) hB4) (by simp)
    clear c0 c1 c2 c3 c4 c5 c6 c7
    obtain ⟨c0, c1, c2, c3, c4, c5, c6, c7⟩ := hb4.cells
    go_wp2_with fail
    refine (specOk_any [p] w4.heap.size 0 1 _ (recAt_one w4 p 32) (by simp) hs (by simp)).mono ?_
    rintro e w5 ⟨he, hB5⟩
    rw [hr] at he
    subst he
    have hB15 := up_trans (up_trans hB14 ((Below.refl _ _).alloc (Nat.le_refl _) _)) hB5
    have hE5 := hE.up hB15
    have hb5 := (hb4.kept (grown_alloc (r := none) (grown_refl w4 none) _) (by simp)).kept (grown_below (r := none) hB5) (by simp)
    clear c0 c1 c2 c3 c4 c5 c6 c7
    obtain ⟨c0, c1, c2, c3, c4, c5, c6, c7⟩ := hb5.cells
    go_wp2_with (go_at_call 22; refine (recEnd_any _ _ hE5).mono ?_; rintro e w' ⟨rfl, hw⟩; obtain rfl := hw.symm; clear hw)
    go_ret
    exact ⟨rfl, hB15⟩
  · have hnm := hnm hX
    have hn0 : (endN p.nm == 0) = true := by simp [hnm]
    by_cases ht : endN p.t = 0
    · have hr : recB [p] = false := by rw [hr, ht]; simp
      have ht1 : ¬ 0 < endN p.t := by omega
      go_wp2_with fail
      refine (recOk_any [p] w2.heap.size 0 1 _ (hE.up (up_trans hB12 ((Below.refl _ _).alloc (Nat.le_refl _) _))) (recAt_one w2 p 32) (by simp) hs (by simp) (by simp)).mono ?_
      rintro e w3 ⟨he, hB3⟩
      rw [hr] at he
      subst he
      have hB13 := up_trans (up_trans hB12 ((Below.refl _ _).alloc (Nat.le_refl _) _)) hB3
      have hb3 := (hb2.kept (grown_alloc (r := none) (grown_refl w2 none) _) (by simp)).kept (grown_below (r := none) hB3) (by simp)
      clear c0 c1 c2 c3 c4 c5 c6 c7
      obtain ⟨c0, c1, c2, c3, c4, c5, c6, c7⟩ := hb3.cells
      go_wp2_with fail
      refine (specPhase_any _ _ _ _ _ _ _ _ _ z0 z2 z3 z6 z7).mono ?_
      rintro e w4 ⟨he, hB4⟩
      replace he : e = .returned (.bool p.okB) := he
      rw [hX] at he
      subst he
      have hB14 := up_trans hB13 hB4
      have hb4 := hb3.kept (grown_below (r := none) hB4) (by simp)
      clear c0 c1 c2 c3 c4 c5 c6 c7
      obtain ⟨c0, c1, c2, c3, c4, c5, c6, c7⟩ := hb4.cells
      go_wp2_with fail
      refine (specOk_any [p] w4.heap.size 0 1 _ (recAt_one w4 p 32) (by simp) hs (by simp)).mono ?_
      rintro e w5 ⟨he, hB5⟩
      rw [hr] at he
      subst he
      have hB15 := up_trans (up_trans hB14 ((Below.refl _ _).alloc (Nat.le_refl _) _)) hB5
      have hE5 := hE.up hB15
      have hb5 := (hb4.kept (grown_alloc (r := none) (grown_refl w4 none) _) (by simp)).kept (grown_below (r := none) hB5) (by simp)
      clear c0 c1 c2 c3 c4 c5 c6 c7
      obtain ⟨c0, c1, c2, c3, c4, c5, c6, c7⟩ := hb5.cells
      go_wp2_with (go_at_call 22; refine (recEnd_any _ _ hE5).mono ?_; rintro e w' ⟨rfl, hw⟩; obtain rfl := hw.symm; clear hw)
      go_ret
      exact ⟨rfl, hB15⟩
    have ht1 : 0 < endN p.t := by omega
    by_cases hq : endN p.e = 0
    · have hr : recB [p] = false := by rw [hr, hq]; simp
      have he1 : ¬ 0 < endN p.e := by omega
      go_wp2_with fail
      refine (recOk_any [p] w2.heap.size 0 1 _ (hE.up (up_trans hB12 ((Below.refl _ _).alloc (Nat.le_refl _) _))) (recAt_one w2 p 32) (by simp) hs (by simp) (by simp)).mono ?_
      rintro e w3 ⟨he, hB3⟩
      rw [hr] at he
      subst he
      have hB13 := up_trans (up_trans hB12 ((Below.refl _ _).alloc (Nat.le_refl _) _)) hB3
      have hb3 := (hb2.kept (grown_alloc (r := none) (grown_refl w2 none) _) (by simp)).kept (grown_below (r := none) hB3) (by simp)
      clear c0 c1 c2 c3 c4 c5 c6 c7
      obtain ⟨c0, c1, c2, c3, c4, c5, c6, c7⟩ := hb3.cells
      go_wp2_with fail
      refine (specPhase_any _ _ _ _ _ _ _ _ _ z0 z2 z3 z6 z7).mono ?_
      rintro e w4 ⟨he, hB4⟩
      replace he : e = .returned (.bool p.okB) := he
      rw [hX] at he
      subst he
      have hB14 := up_trans hB13 hB4
      have hb4 := hb3.kept (grown_below (r := none) hB4) (by simp)
      clear c0 c1 c2 c3 c4 c5 c6 c7
      obtain ⟨c0, c1, c2, c3, c4, c5, c6, c7⟩ := hb4.cells
      go_wp2_with fail
      refine (specOk_any [p] w4.heap.size 0 1 _ (recAt_one w4 p 32) (by simp) hs (by simp)).mono ?_
      rintro e w5 ⟨he, hB5⟩
      rw [hr] at he
      subst he
      have hB15 := up_trans (up_trans hB14 ((Below.refl _ _).alloc (Nat.le_refl _) _)) hB5
      have hE5 := hE.up hB15
      have hb5 := (hb4.kept (grown_alloc (r := none) (grown_refl w4 none) _) (by simp)).kept (grown_below (r := none) hB5) (by simp)
      clear c0 c1 c2 c3 c4 c5 c6 c7
      obtain ⟨c0, c1, c2, c3, c4, c5, c6, c7⟩ := hb5.cells
      go_wp2_with (go_at_call 22; refine (recEnd_any _ _ hE5).mono ?_; rintro e w' ⟨rfl, hw⟩; obtain rfl := hw.symm; clear hw)
      go_ret
      exact ⟨rfl, hB15⟩
    · have hr : recB [p] = true := by rw [hr, hX]; simp [ht, hq]
      have he1 : 0 < endN p.e := by omega
      go_wp2_with fail
      refine (recOk_any [p] w2.heap.size 0 1 _ (hE.up (up_trans hB12 ((Below.refl _ _).alloc (Nat.le_refl _) _))) (recAt_one w2 p 32) (by simp) hs (by simp) (by simp)).mono ?_
      rintro e w3 ⟨he, hB3⟩
      rw [hr] at he
      subst he
      have hB13 := up_trans (up_trans hB12 ((Below.refl _ _).alloc (Nat.le_refl _) _)) hB3
      have hb3 := (hb2.kept (grown_alloc (r := none) (grown_refl w2 none) _) (by simp)).kept (grown_below (r := none) hB3) (by simp)
      clear c0 c1 c2 c3 c4 c5 c6 c7
      obtain ⟨c0, c1, c2, c3, c4, c5, c6, c7⟩ := hb3.cells
      go_wp2_with fail
      refine (specPhase_any _ _ _ _ _ _ _ _ _ z0 z2 z3 z6 z7).mono ?_
      rintro e w4 ⟨he, hB4⟩
      replace he : e = .returned (.bool p.okB) := he
      rw [hX] at he
      subst he
      have hB14 := up_trans hB13 hB4
      have hb4 := hb3.kept (grown_below (r := none) hB4) (by simp)
      clear c0 c1 c2 c3 c4 c5 c6 c7
      obtain ⟨c0, c1, c2, c3, c4, c5, c6, c7⟩ := hb4.cells
      go_wp2_with fail
      refine (specOk_any [p] w4.heap.size 0 1 _ (recAt_one w4 p 32) (by simp) hs (by simp)).mono ?_
      rintro e w5 ⟨he, hB5⟩
      rw [hr] at he
      subst he
      have hB15 := up_trans (up_trans hB14 ((Below.refl _ _).alloc (Nat.le_refl _) _)) hB5
      have hE5 := hE.up hB15
      have hb5 := (hb4.kept (grown_alloc (r := none) (grown_refl w4 none) _) (by simp)).kept (grown_below (r := none) hB5) (by simp)
      clear c0 c1 c2 c3 c4 c5 c6 c7
      obtain ⟨c0, c1, c2, c3, c4, c5, c6, c7⟩ := hb5.cells
      go_wp2_with (go_at_call 22; refine (recEnd_any _ _ hE5).mono ?_; rintro e w' ⟨rfl, hw⟩; obtain rfl := hw.symm; clear hw)
      go_ret
      exact ⟨rfl, hB15⟩
end Go.Proofs.YtkfclahdofjhjaaDoor
