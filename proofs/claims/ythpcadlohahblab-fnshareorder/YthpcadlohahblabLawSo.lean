/- The law of promise 10: its walk. -/
import Derived.Test.YthpcadlohahblabDnd
import Derived.Test.YthpcadlohahblabKs5
namespace Go.Proofs.Ythpcadlohahblab
open Go.RowKit

set_option maxRecDepth 20000 in
set_option maxHeartbeats 4000000 in
theorem lawShareOrder_any (a : Option Addr) (n cap : Nat) (a' : Option Addr) (n' cap' : Nat) (w : World) (h : BytesAt w w.heap.size (.slice a n cap) n) (hcap : n ≤ cap) (hbig : cap ≤ maxLen) (h' : BytesAt w w.heap.size (.slice a' n' cap') n') (hcap' : n' ≤ cap') (hbig' : cap' ≤ maxLen) :
    Calls Try.prog 3 #[.slice a n cap, .slice a' n' cap'] w fun e' w' => e' = .returned (.bool true) ∧ Below w.heap.size w w' := by
  by_cases hn : 1048576 < n
  · go_enter Try.func3, Try.ntmps3
    go_wp2_with fail
    go_ret
    exact ⟨rfl, Below.refl _ _⟩
  by_cases hn' : 1048576 < n'
  · go_enter Try.func3, Try.ntmps3
    go_wp2_with fail
    go_ret
    exact ⟨rfl, Below.refl _ _⟩
  go_enter Try.func3, Try.ntmps3
  go_wp2_with fail
  refine (drawOrder_any a n cap _ h hcap hbig).mono ?_
  rintro e w1 ⟨⟨u, b, rfl, hD⟩, hB1⟩
  obtain ⟨a1, c1, a2, c2, rfl⟩ := hD.parts
  have hz1 := hB1.size
  go_upto_region 4 with fail
  obtain ⟨W2, hW2, kX, hb2, hs2⟩ : ∃ W2, w1.alloc (.cells #[.slice a1 b.things.length c1, .slice a2 b.bs.length c2] 26) = W2 ∧ CB W2 w1.heap.size [.slice a1 b.things.length c1, .slice a2 b.bs.length c2] ∧ Below w1.heap.size w1 W2 ∧ W2.heap.size = w1.heap.size + 1 := ⟨_, rfl, cb1 w1 _ _⟩
  try rw [hW2]
  have hB2 := up_trans hB1 hb2
  have hk := hD.bk.up hb2
  clear hW2 hb2 hs2 hD hB1
  generalize w1.heap.size = q at *
  obtain ⟨z0, z1⟩ := kX.c2'
  go_wp2_with fail
  refine (order_any b _ _ hk).mono ?_
  rintro e w3 ⟨⟨u1, ss, ok, rfl, ho1, hw1, hsz1⟩, hb3⟩
  have hB3 := up_trans hB2 hb3
  have kX := kX.up hb3 kX.2.2
  have hk := hk.up hb3
  have hl1 := hw1.lst.ls hsz1
  obtain ⟨x1, y1, rfl⟩ := hw1.lst.shape
  clear z0 z1 hb3 hB2 hw1
  obtain ⟨z0, z1⟩ := kX.c2'
  go_wp2_with fail
  refine (specOrder_any b _ _ hk).mono ?_
  rintro e w4 ⟨⟨u2, ss2, ok2, rfl, ho2, hw2, hsz2⟩, hb4⟩
  obtain ⟨rfl, rfl⟩ := ho1.uniq ho2
  have hB4 := up_trans hB3 hb4
  have kX := kX.up hb4 kX.2.2
  have hk := hk.up hb4
  have hl1 := hl1.up hb4
  have hl2 := hw2.lst.ls hsz2
  obtain ⟨x2, y2, rfl⟩ := hw2.lst.shape
  clear z0 z1 hb4 hB3 hw2 ho2
  have Ho : Hid (OrderIs b ss ok) := ho1
  have Hsz : Hid (∀ s ∈ ss, s.size ≤ maxLen) := hsz1
  clear ho1 hsz1 hsz2
  go_upto_region 6 with fail
  go_cut [54] (fun v54 wc => v54 = .bool false ∧ Below w4.heap.size w4 wc)
  case first =>
    obtain ⟨z0, z1⟩ := kX.c2'
    have hxl := kX.2.2
    have mk : ∀ X, Below w4.heap.size w4 X → (World.cell? X ⟨q, 0, none⟩ = some (.slice a1 b.things.length c1) ∧ World.cell? X ⟨q, 1, none⟩ = some (.slice a2 b.bs.length c2)) := fun X hX => ⟨(hX.cell (p := ⟨q, 0, none⟩) hxl).trans z0, (hX.cell (p := ⟨q, 1, none⟩) hxl).trans z1⟩
    have Mk : Hid (∀ X, Below w4.heap.size w4 X → (World.cell? X ⟨q, 0, none⟩ = some (.slice a1 b.things.length c1) ∧ World.cell? X ⟨q, 1, none⟩ = some (.slice a2 b.bs.length c2))) := mk
    have hbd : Below w4.heap.size w4 w4.drew := (Below.refl _ _).drew
    have hS1 := Mk.out w4.drew hbd
    clear mk z0 z1
    refine wp_region_x 99 (fun w' => (World.cell? w' ⟨q, 0, none⟩ = some (.slice a1 b.things.length c1) ∧ World.cell? w' ⟨q, 1, none⟩ = some (.slice a2 b.bs.length c2))) (by kernel_rfl) ?_
    refine anyX_take (i := 0) (v := ?_) rfl (by kernel_rfl) (by kernel_rfl) (by kernel_rfl) (by kernel_rfl) (fun _ _ _ h => h) (by kernel_rfl) hS1 ?_ ?_; rotate_left; focus (intro w hSw; (try dsimp only at hSw); go_simp; try with_reducible rfl); (try simp only [Act.put, List.setIfInBounds_toArray, List.set_cons_zero, List.set_cons_succ])
    refine anyX_take (i := 1) (v := ?_) rfl (by kernel_rfl) (by kernel_rfl) (by kernel_rfl) (by kernel_rfl) (fun _ _ _ h => h) (by kernel_rfl) hS1 ?_ ?_; rotate_left; focus (intro w hSw; (try dsimp only at hSw); go_simp; try with_reducible rfl); (try simp only [Act.put, List.setIfInBounds_toArray, List.set_cons_zero, List.set_cons_succ])
    refine anyX_take (i := 2) (v := ?_) rfl (by kernel_rfl) (by kernel_rfl) (by kernel_rfl) (by kernel_rfl) (fun _ _ _ h => h) (by kernel_rfl) hS1 ?_ ?_; rotate_left; focus (intro w hSw; (try dsimp only at hSw); go_simp; try with_reducible rfl); (try simp only [Act.put, List.setIfInBounds_toArray, List.set_cons_zero, List.set_cons_succ])
    refine anyX_take (i := 3) (v := ?_) rfl (by kernel_rfl) (by kernel_rfl) (by kernel_rfl) (by kernel_rfl) (fun _ _ _ h => h) (by kernel_rfl) hS1 ?_ ?_; rotate_left; focus (intro w hSw; (try dsimp only at hSw); go_simp; try with_reducible rfl); (try simp only [Act.put, List.setIfInBounds_toArray, List.set_cons_zero, List.set_cons_succ])
    refine anyX_take (i := 4) (v := ?_) rfl (by kernel_rfl) (by kernel_rfl) (by kernel_rfl) (by kernel_rfl) (fun _ _ _ h => h) (by kernel_rfl) hS1 ?_ ?_; rotate_left; focus (intro w hSw; (try dsimp only at hSw); go_simp; try with_reducible rfl); (try simp only [Act.put, List.setIfInBounds_toArray, List.set_cons_zero, List.set_cons_succ])
    refine anyX_take (i := 5) (v := ?_) rfl (by kernel_rfl) (by kernel_rfl) (by kernel_rfl) (by kernel_rfl) (fun _ _ _ h => h) (by kernel_rfl) hS1 ?_ ?_; rotate_left; focus (intro w hSw; (try dsimp only at hSw); go_simp; try with_reducible rfl); (try simp only [Act.put, List.setIfInBounds_toArray, List.set_cons_zero, List.set_cons_succ])
    refine anyX_one (i := 6) (by kernel_rfl) rfl (fun K hK => ?_)
    go_simp
    go_wp2_with (go_at_call 8; refine (whTexts_any ss _ _ _ (hl1.up hbd) (hl2.up hbd)).mono ?_; rintro e w5 ⟨rfl, hb5⟩; have hb5 := up_trans hbd hb5; have hS5 := Mk.out _ hb5)
    refine hK.out _ _ (fun _ => hS5) ?_; clear hK K; (try simp only [Act.put, List.setIfInBounds_toArray, List.set_cons_zero, List.set_cons_succ])
    refine anyX_take (i := 7) (v := ?_) rfl (by kernel_rfl) (by kernel_rfl) (by kernel_rfl) (by kernel_rfl) (fun _ _ _ h => h) (by kernel_rfl) hS5 ?_ ?_; rotate_left; focus (intro w hSw; (try dsimp only at hSw); go_simp; try with_reducible rfl); (try simp only [Act.put, List.setIfInBounds_toArray, List.set_cons_zero, List.set_cons_succ])
    refine anyX_take (i := 8) (v := ?_) rfl (by kernel_rfl) (by kernel_rfl) (by kernel_rfl) (by kernel_rfl) (fun _ _ _ h => h) (by kernel_rfl) hS5 ?_ ?_; rotate_left; focus (intro w hSw; (try dsimp only at hSw); go_simp; try with_reducible rfl); (try simp only [Act.put, List.setIfInBounds_toArray, List.set_cons_zero, List.set_cons_succ])
    refine anyX_take (i := 9) (v := ?_) rfl (by kernel_rfl) (by kernel_rfl) (by kernel_rfl) (by kernel_rfl) (fun _ _ _ h => h) (by kernel_rfl) hS5 ?_ ?_; rotate_left; focus (intro w hSw; (try dsimp only at hSw); go_simp; try with_reducible rfl); (try simp only [Act.put, List.setIfInBounds_toArray, List.set_cons_zero, List.set_cons_succ])
    refine anyX_take (i := 10) (v := ?_) rfl (by kernel_rfl) (by kernel_rfl) (by kernel_rfl) (by kernel_rfl) (fun _ _ _ h => h) (by kernel_rfl) hS5 ?_ ?_; rotate_left; focus (intro w hSw; (try dsimp only at hSw); go_simp; try with_reducible rfl); (try simp only [Act.put, List.setIfInBounds_toArray, List.set_cons_zero, List.set_cons_succ])
    refine anyX_take (i := 11) (v := ?_) rfl (by kernel_rfl) (by kernel_rfl) (by kernel_rfl) (by kernel_rfl) (fun _ _ _ h => h) (by kernel_rfl) hS5 ?_ ?_; rotate_left; focus (intro w hSw; (try dsimp only at hSw); go_simp; try with_reducible rfl); (try simp only [Act.put, List.setIfInBounds_toArray, List.set_cons_zero, List.set_cons_succ])
    refine anyX_one (i := 12) (by kernel_rfl) rfl (fun K hK => ?_)
    go_simp
    go_wp2_with (go_at_call 9; refine (safe_any b _ _ (hk.up hb5)).mono ?_; rintro e w6 ⟨⟨ss3, ok3, rfl, ho3⟩, hb6⟩; obtain ⟨rfl, rfl⟩ := Ho.out.uniq ho3; have hb6 := up_trans hb5 hb6; have hS6 := Mk.out _ hb6)
    clear ho3
    refine hK.out _ _ (fun _ => hS6) ?_; clear hK K; (try simp only [Act.put, List.setIfInBounds_toArray, List.set_cons_zero, List.set_cons_succ])
    refine anyX_take (i := 13) (v := ?_) rfl (by kernel_rfl) (by kernel_rfl) (by kernel_rfl) (by kernel_rfl) (fun _ _ _ h => h) (by kernel_rfl) hS6 ?_ ?_; rotate_left; focus (intro w hSw; (try dsimp only at hSw); go_simp; try with_reducible rfl); (try simp only [Act.put, List.setIfInBounds_toArray, List.set_cons_zero, List.set_cons_succ])
    refine anyX_take (i := 14) (v := ?_) rfl (by kernel_rfl) (by kernel_rfl) (by kernel_rfl) (by kernel_rfl) (fun _ _ _ h => h) (by kernel_rfl) hS6 ?_ ?_; rotate_left; focus (intro w hSw; (try dsimp only at hSw); go_simp; try with_reducible rfl); (try simp only [Act.put, List.setIfInBounds_toArray, List.set_cons_zero, List.set_cons_succ])
    refine anyX_take (i := 15) (v := ?_) rfl (by kernel_rfl) (by kernel_rfl) (by kernel_rfl) (by kernel_rfl) (fun _ _ _ h => h) (by kernel_rfl) hS6 ?_ ?_; rotate_left; focus (intro w hSw; (try dsimp only at hSw); go_simp; try with_reducible rfl); (try simp only [Act.put, List.setIfInBounds_toArray, List.set_cons_zero, List.set_cons_succ])
    refine anyX_take (i := 16) (v := ?_) rfl (by kernel_rfl) (by kernel_rfl) (by kernel_rfl) (by kernel_rfl) (fun _ _ _ h => h) (by kernel_rfl) hS6 ?_ ?_; rotate_left; focus (intro w hSw; (try dsimp only at hSw); go_simp; try with_reducible rfl); (try simp only [Act.put, List.setIfInBounds_toArray, List.set_cons_zero, List.set_cons_succ])
    refine anyX_take (i := 18) (v := ?_) rfl (by kernel_rfl) (by kernel_rfl) (by kernel_rfl) (by kernel_rfl) (fun _ _ _ h => h) (by kernel_rfl) hS6 ?_ ?_; rotate_left; focus (intro w hSw; (try dsimp only at hSw); go_simp; try with_reducible rfl); (try simp only [Act.put, List.setIfInBounds_toArray, List.set_cons_zero, List.set_cons_succ])
    refine anyX_one (i := 17) (by kernel_rfl) rfl (fun K hK => ?_)
    go_simp
    go_wp2_with (go_at_call 10; refine (bookOk_any b _ _ (hk.up hb6)).mono ?_; rintro e w7 ⟨rfl, hb7⟩; have hb7 := up_trans hb6 hb7; have hS7 := Mk.out _ hb7)
    refine hK.out _ _ (fun _ => hS7) ?_; clear hK K; (try simp only [Act.put, List.setIfInBounds_toArray, List.set_cons_zero, List.set_cons_succ])
    refine anyX_one (i := 19) (by kernel_rfl) rfl (fun K hK => ?_)
    go_simp
    go_wp2_with (go_at_call 11; refine (specBook_any b _ _ (hk.up hb7)).mono ?_; rintro e w8 ⟨rfl, hb8⟩; have hb8 := up_trans hb7 hb8; have hS8 := Mk.out _ hb8)
    refine hK.out _ _ (fun _ => hS8) ?_; clear hK K; (try simp only [Act.put, List.setIfInBounds_toArray, List.set_cons_zero, List.set_cons_succ])
    refine anyX_one (i := 20) (by kernel_rfl) rfl (fun K hK => ?_)
    go_simp
    refine hK.out _ _ (fun _ => hS8) ?_; clear hK K; (try simp only [Act.put, List.setIfInBounds_toArray, List.set_cons_zero, List.set_cons_succ])
    refine anyX_one (i := 21) (by kernel_rfl) rfl (fun K hK => ?_)
    go_simp
    refine hK.out _ _ (fun _ => hS8) ?_
    clear hK K
    refine anyX_done (by kernel_rfl) ?_ _
    clear hS1 hS5 hS6 hS7 hS8 Mk
    go_wp2_with fail
    go_meet
    case rel => exact ⟨rfl, hb8⟩
  case rest =>
    obtain ⟨rfl, hbc⟩ := hcut
    have hBc := up_trans hB4 hbc
    have kX := kX.up hbc kX.2.2
    have hk := hk.up hbc
    have hl1 := hl1.up hbc
    clear hB4 hbc hl2
    go_upto_region 8 with fail
    go_cut [72] (fun v72 we => v72 = .bool false ∧ Below wc.heap.size wc we)
    case first =>
      obtain ⟨z0, z1⟩ := kX.c2'
      go_wp2_with fail
      refine (specBook_any b _ _ hk).mono ?_
      rintro e w5 ⟨rfl, hb5⟩
      have kX5 := kX.up hb5 kX.2.2
      have hk5 := hk.up hb5
      have hl5 := hl1.up hb5
      clear z0 z1
      obtain ⟨z0, z1⟩ := kX5.c2'
      cases hok : bookB b
      · obtain rfl : ok = false := by
          rcases Ho.out with ⟨-, hb, -⟩ | ⟨rfl, -, -⟩
          · rw [bookB, pB_yes hb] at hok; cases hok
          · rfl
        go_wp2_with fail
        go_meet
        case rel => exact ⟨rfl, hb5⟩
      · have hsf : pB (SomeFit b []) = ok := by
          rw [Bool.eq_iff_iff, pB_iff, order_iff Ho.out]
          exact ⟨fun ⟨r, hr⟩ => ⟨r, by simpa using hr⟩, fun ⟨r, hr⟩ => ⟨r, by simpa using hr⟩⟩
        have hbA := up_trans hb5 ((Below.refl _ _).alloc (Nat.le_refl _) (.cells #[] 9))
        have HB : Hid (BookOk b) := book_ok hok
        clear hok
        go_wp2_with fail
        refine (whSome_any b HB.out b.bs.length [] _ _ _ (by simp) (hk.up hbA) (Ls.nil _ _ _)).mono ?_
        rintro e w6 ⟨rfl, hb6⟩
        have hb6 := up_trans hbA hb6
        have kX6 := kX.up hb6 kX.2.2
        rw [hsf]
        clear hsf z0 z1
        obtain ⟨z0, z1⟩ := kX6.c2'
        cases ok
        · go_wp2_with fail
          go_meet
          case rel => exact ⟨rfl, hb6⟩
        · have hft : pB (Fits b ss) = true := pB_yes (order_fits Ho.out)
          go_wp2_with fail
          refine (fits_any b _ ss _ _ (hk.up hb6) (hl1.up hb6)).mono ?_
          rintro e w7 ⟨rfl, hb7⟩
          have hb7 := up_trans hb6 hb7
          rw [hft]
          clear hft z0 z1
          go_wp2_with fail
          go_meet
          case rel => exact ⟨rfl, hb7⟩
    case rest =>
      obtain ⟨rfl, hbe⟩ := hcut
      have hBe := up_trans hBc hbe
      clear hBc hbe kX hk hl1
      go_wp2_with fail
      refine (drawFits_any a' n' cap' _ (h'.up hBe hBe.size) hcap' hbig').mono ?_
      rintro e w5 ⟨⟨u, d, ao, co, os, rfl, hD, hlo, hco, hcm⟩, hb5⟩
      have hB5 := up_trans hBe hb5
      obtain ⟨a3, c3, a4, c4, rfl⟩ := hD.parts
      clear hBe hb5
      go_upto_region 11 with fail
      obtain ⟨W6, hW6, kX, hb6, hs6⟩ : ∃ W6, w5.alloc (.cells #[.slice a3 d.things.length c3, .slice a4 d.bs.length c4] 26) = W6 ∧ CB W6 w5.heap.size [.slice a3 d.things.length c3, .slice a4 d.bs.length c4] ∧ Below w5.heap.size w5 W6 ∧ W6.heap.size = w5.heap.size + 1 := ⟨_, rfl, cb1 w5 _ _⟩
      try rw [hW6]
      have hB6 := up_trans hB5 hb6
      have hk := hD.bk.up hb6
      have hlo := hlo.up hb6
      clear hW6 hb6 hs6 hD hB5
      generalize w5.heap.size = q2 at *
      obtain ⟨z0, z1⟩ := kX.c2'
      go_wp2_with fail
      refine (fits_any d _ os _ _ hk hlo).mono ?_
      rintro e w7 ⟨rfl, hb7⟩
      have hB7 := up_trans hB6 hb7
      have kX := kX.up hb7 kX.2.2
      have hk := hk.up hb7
      have hlo := hlo.up hb7
      clear z0 z1 hB6 hb7
      obtain ⟨z0, z1⟩ := kX.c2'
      go_wp2_with fail
      refine (specFits_any d _ os ao co _ hk hlo hco hcm).mono ?_
      rintro e w8 ⟨rfl, hb8⟩
      have hB8 := up_trans hB7 hb8
      have kX := kX.up hb8 kX.2.2
      have hk := hk.up hb8
      clear z0 z1 hB7 hb8
      obtain ⟨z0, z1⟩ := kX.c2'
      cases hf : pB (Fits d os)
      · go_wp2_with fail
        go_ret
        exact ⟨rfl, hB8⟩
      · have HF : Hid (Fits d os) := pB_iff.1 hf
        clear hf
        go_wp2_with fail
        refine (safe_any d _ _ hk).mono ?_
        rintro e w9 ⟨⟨ss9, ok9, rfl, ho9⟩, hb9⟩
        obtain rfl : ok9 = true := (order_iff ho9).2 ⟨os, HF.out⟩
        have hB9 := up_trans hB8 hb9
        clear z0 z1 ho9
        go_wp2_with fail
        go_ret
        exact ⟨rfl, hB9⟩
end Go.Proofs.Ythpcadlohahblab
