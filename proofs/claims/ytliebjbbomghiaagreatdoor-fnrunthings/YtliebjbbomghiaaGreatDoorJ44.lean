/- Drawing houses: a recipe of a few phases. -/
import Derived.Test.YtliebjbbomghiaaGreatDoorJ43
import Derived.Test.YtliebjbbomghiaaGreatDoorXr
import Derived.Test.YtliebjbbomghiaaGreatDoorJ10
import Derived.Test.YtliebjbbomghiaaGreatDoorJ1
import Derived.Test.YtliebjbbomghiaaGreatDoorJ3
import Derived.Test.YtliebjbbomghiaaGreatDoorJ20
import Derived.Test.YtliebjbbomghiaaGreatDoorJ41
import Derived.Test.YtliebjbbomghiaaGreatDoorJ18
import Derived.Test.YtliebjbbomghiaaGreatDoorWr2
import Derived.Test.YtliebjbbomghiaaGreatDoorJ23
namespace Go.Proofs.YtliebjbbomghiaaGreatDoor
open Go.RowKit

theorem grown_set8 (w : World) (b : Nat) (x0 x1 x2 x3 x4 x5 x6 x7 : Value) : w.grownBy ((((((((w.setCell ⟨b, 0, none⟩ x0).setCell ⟨b, 1, none⟩ x1).setCell ⟨b, 2, none⟩ x2).setCell ⟨b, 3, none⟩ x3).setCell ⟨b, 4, none⟩ x4).setCell ⟨b, 5, none⟩ x5).setCell ⟨b, 6, none⟩ x6).setCell ⟨b, 7, none⟩ x7) (some b) :=
  grown_setCell (rb := b) (grown_setCell (rb := b) (grown_setCell (rb := b) (grown_setCell (rb := b) (grown_setCell (rb := b) (grown_setCell (rb := b) (grown_setCell (rb := b) (grown_setCell (rb := b) (grown_refl w _) _) _) _) _) _) _) _) _
set_option maxRecDepth 20000 in
set_option maxHeartbeats 8000000 in
theorem recipe25_any (rb len N : Nat) (v : Value) (w : World) (hR : Rd w rb v len N) (hN : N ≤ 700000) :
    Calls Tryz.prog 57 #[.pointer (some ⟨rb, 0, none⟩)] w
      fun e w' => (∃ (u : Value) (ps : List Ph), e = .returned u ∧ 1 ≤ ps.length ∧ ps.length ≤ 12 ∧ (∀ p ∈ ps, p.sz) ∧ w'.ownsRow w.heap.size 34 8 u ps.length (rowP ps)) ∧ Rd w' rb v len (N + 301) ∧ w.grownBy w' (some rb) := by
  have hrl := hR.lt
  obtain ⟨ii, hi, iz0, iz1, iz2⟩ := info_parts infoPh8
  go_enter Tryz.func57, Tryz.ntmps57
  go_wp2_with fail
  refine (pick_any rb len _ v 5 _ hR (by omega)).mono ?_
  rintro e w1 ⟨⟨x, rfl, hx0, -⟩, hR1, hg1⟩
  have hz1 := hg1.size
  clear hR
  by_cases hx : x = 0
  · subst hx
    go_wp2_with (go_at_call 73; refine (recipe_any rb len _ v _ hR1 (by omega)).mono ?_; rintro e w2 ⟨⟨u, ps, rfl, h1, h12, hpz, hown⟩, hR2, hg2⟩)
    go_ret
    exact ⟨⟨u, ps, rfl, h1, h12, hpz, own_low hown hz1⟩, hR2.mono (by omega), grown_trans hg1 hg2⟩
  · have hx' : (x == 0) = false := by simpa using hx
    go_upto_region 4 with (go_at_call 74; refine (names_any _).mono ?_; rintro e x1 ⟨rfl, rfl⟩)
    obtain ⟨W2, hW2, hR2, hG2, hS2, hz2⟩ : ∃ W2, w1.alloc (.cells (namesL.map Value.string).toArray 9) = W2 ∧ Rd W2 rb v len (N + 1) ∧ w.grownBy W2 (some rb) ∧ StrsAt W2 w1.heap.size 0 namesL ∧ w1.heap.size < W2.heap.size := ⟨_, rfl, hR1.alloc _, grown_alloc hg1 _, strsAt_alloc _ _ _, by simp⟩
    try rw [hW2]
    clear hW2 hR1 hg1
    obtain ⟨NB, hNBe⟩ : ∃ NB, w1.heap.size = NB := ⟨_, rfl⟩
    rw [hNBe] at hS2 hz2
    have hNB : NB ≠ rb := by omega
    have hNw : w.heap.size ≤ NB := by omega
    go_wp2_with fail
    refine (pick_any rb len _ v 4 _ hR2 (by omega)).mono ?_
    rintro e w3 ⟨⟨y, rfl, hy0, hy1⟩, hR3, hg3⟩
    have hy2 := hy1 (by omega)
    obtain ⟨n, rfl⟩ : ∃ n : Nat, y = (n : Int) := ⟨y.toNat, by omega⟩
    have hn3 : n < 4 := by omega
    have hG3 := grown_trans hG2 hg3
    have hS3 := hS2.kept hg3 hNB
    have hz3 := hg3.size
    clear hR2 hG2 hS2 hg3 hy0 hy1 hy2
    go_upto_region 7 with fail
    obtain ⟨W4, hW4, ho4, hR4, hG4, hS4, hz4⟩ : ∃ W4, w3.alloc (.cells #[] 34) = W4 ∧ W4.ownsRow (NB + 1) 34 8 (.slice (some ⟨w3.heap.size, 0, none⟩) 0 0) 0 [] ∧ Rd W4 rb v len (N + 2) ∧ w.grownBy W4 (some rb) ∧ StrsAt W4 NB 0 namesL ∧ w3.heap.size < W4.heap.size := ⟨_, rfl, World.ownsRow_lit w3 #[] 0 (by omega) (by unfold maxLen; omega) rfl, hR3.alloc _, grown_alloc hG3 _, hS3.alloc _, by simp⟩
    try rw [hW4]
    clear hW4 hR3 hG3 hS3
    go_loopw [5, 6] (fun u i w' => ∃ (k : Nat) (ps : List Ph), k ≤ n + 1 ∧ i = .int .i64 k ∧ ps.length = k ∧ (∀ p ∈ ps, p.sz) ∧ w'.ownsRow (NB + 1) 34 8 u ps.length (rowP ps) ∧ Rd w' rb v len (N + 2 + 14 * k) ∧ w.grownBy w' (some rb) ∧ StrsAt w' NB 0 namesL ∧ NB < w'.heap.size) (fun _ i _ => n + 1 - (intOf i).toNat)
    case atStart => exact ⟨0, [], by omega, rfl, rfl, by simp, ho4, hR4, hG4, hS4, by omega⟩
    case round =>
      clear ho4 hR4 hG4 hS4
      obtain ⟨k, ps, hk, rfl, hpl, hpz, hown, hRk, hGk, hSk, hzk⟩ := hrel
      have Hpz : Hid (∀ p ∈ ps, p.sz) := hpz
      clear hpz
      have hws := hGk.size
      by_cases hkn : k < n + 1
      · have hk8 : k < namesL.length := by simp [namesL]; omega
        have hcell : wr.cell? ⟨NB, k, none⟩ = some (.string (namesL[k]'hk8)) := by
          have := hSk k (namesL[k]'hk8) (by simp)
          simpa using this
        have hnz : (namesL[k]'hk8).size ≤ maxLen := sz_lit (ss := namesL) (by decide) _ (by simp)
        have hLs : StrsAt wr NB (k + 1) ((namesL.take (n + 1)).drop (k + 1)) := by
          have := (hSk.take (n + 1)).drop (k + 1)
          simpa using this
        have hLz : SzS ((namesL.take (n + 1)).drop (k + 1)) := fun s hs => sz_lit (ss := namesL) (by decide) s (List.mem_of_mem_take (List.mem_of_mem_drop hs))
        have hLl : ((namesL.take (n + 1)).drop (k + 1)).length = n - k := by simp [namesL]; omega
        generalize hX : namesL[k]'hk8 = nm at *
        generalize hY : (namesL.take (n + 1)).drop (k + 1) = lat at *
        clear hX hY
        have HSk : Hid (StrsAt wr NB 0 namesL) := hSk
        clear hSk
        have hki : (k : Int) < 8 := by omega
        have hw1 : IntKind.i64.wrap ((k : Int) + 1) = (k : Int) + 1 := by rw [IntKind.wrap_i64]; omega
        have hw2 : (k : Int) + 1 ≤ 1 + (n : Int) := by omega
        have hw3 : 1 + (n : Int) ≤ 8 := by omega
        have hw4 : ¬ 1 + (n : Int) < (k : Int) + 1 := by omega
        have hw5 : 0 ≤ (k : Int) + 1 := by omega
        have hk7 : ¬ k = 7 := by omega
        have hn2 : (1 + (n : Int)).toNat - (k + 1) = n - k := by omega
        go_upto_region 9 with fail
        go_cut [7] (fun v7 wc => ∃ (Y : Nat) (q : Ph), v7 = .pointer (some ⟨Y, 0, none⟩) ∧ CB wc Y [.string q.nm, .int .i64 q.k, .string q.a, .string q.b, .int .i64 q.n, .int .i64 q.wi, .string q.t, .string q.e] ∧ q.sz ∧ Rd wc rb v len (N + 2 + 14 * k + 12) ∧ wr.grownBy wc (some rb) ∧ wr.heap.size ≤ Y)
        case first =>
          have hS : World.cell? wr.drew ⟨NB, k, none⟩ = some (.string nm) := hcell
          have hR : Rd wr.drew rb v len (N + 2 + 14 * k) := hRk.drew
          have hG : wr.grownBy wr.drew (some rb) := grown_drew (grown_refl _ _)
          have hL : StrsAt wr.drew NB (k + 1) lat := hLs.drew
          have hzX : wr.heap.size ≤ wr.drew.heap.size := Nat.le_refl _
          refine wp_region_x 99 (fun w' => World.cell? w' ⟨NB, k, none⟩ = some (.string nm)) (by kernel_rfl) ?_
          generalize wr.drew = X1 at hS hR hG hL hzX ⊢
          refine tkx 0 rfl hS ?_
          refine tkx 1 rfl hS ?_
          refine tkx 2 rfl hS ?_
          refine tkx 3 rfl hS ?_
          refine tkx 4 rfl hS ?_
          refine tkx 5 rfl hS ?_
          refine tkx 6 rfl hS ?_
          refine tkx 7 rfl hS ?_
          refine tkx 8 rfl hS ?_
          refine tkx 9 rfl hS ?_
          refine anyX_two (i := 10) (j := 11) (by kernel_rfl) rfl rfl (fun K hK => ?_) (fun K hK => ?_)
          · (go_simp; go_wp2_with (go_at_call 75; refine (phase_any rb len _ v nm lat NB (k + 1) _ (n - k) _ hR (by omega) hnz hLz hLl (by omega) hL hNB).mono ?_; rintro e X2 ⟨⟨q, rfl, hq⟩, hR2, hg2⟩; have hS2 : World.cell? X2 ⟨NB, k, none⟩ = some (.string nm) := hg2.cell hS (by simpa using hNB)))
            refine hK.out _ _ (fun _ => hS2) ?_; clear hK K
            have kY := cb_alloc X2 [.string ⟨#[]⟩, .int .i64 0, .string ⟨#[]⟩, .string ⟨#[]⟩, .int .i64 0, .int .i64 0, .string ⟨#[]⟩, .string ⟨#[]⟩] 34
            have hg4 : X2.grownBy (X2.alloc (.cells #[.string ⟨#[]⟩, .int .i64 0, .string ⟨#[]⟩, .string ⟨#[]⟩, .int .i64 0, .int .i64 0, .string ⟨#[]⟩, .string ⟨#[]⟩] 34)) (some rb) := grown_alloc (grown_refl _ _) _
            have hS4 : World.cell? (X2.alloc (.cells #[.string ⟨#[]⟩, .int .i64 0, .string ⟨#[]⟩, .string ⟨#[]⟩, .int .i64 0, .int .i64 0, .string ⟨#[]⟩, .string ⟨#[]⟩] 34)) ⟨NB, k, none⟩ = some (.string nm) := hg4.cell hS2 (by simpa using hNB)
            have hR4 : Rd (X2.alloc (.cells #[.string ⟨#[]⟩, .int .i64 0, .string ⟨#[]⟩, .string ⟨#[]⟩, .int .i64 0, .int .i64 0, .string ⟨#[]⟩, .string ⟨#[]⟩] 34)) rb v len (N + 2 + 14 * k + 12) := hR2.alloc _
            have hG4 := grown_trans (grown_trans hG hg2) hg4
            have hzY : wr.heap.size ≤ X2.heap.size := Nat.le_trans hzX hg2.size
            refine anyX_one (i := 11) (by kernel_rfl) rfl (fun K hK => ?_)
            go_simp
            refine hK.out _ _ (fun _ => hS4) ?_; clear hK K
            have kY : CB (X2.alloc (.cells #[.string ⟨#[]⟩, .int .i64 0, .string ⟨#[]⟩, .string ⟨#[]⟩, .int .i64 0, .int .i64 0, .string ⟨#[]⟩, .string ⟨#[]⟩] 34)) X2.heap.size [.string ⟨#[]⟩, .int .i64 0, .string ⟨#[]⟩, .string ⟨#[]⟩, .int .i64 0, .int .i64 0, .string ⟨#[]⟩, .string ⟨#[]⟩] := kY
            generalize X2.alloc (.cells #[.string ⟨#[]⟩, .int .i64 0, .string ⟨#[]⟩, .string ⟨#[]⟩, .int .i64 0, .int .i64 0, .string ⟨#[]⟩, .string ⟨#[]⟩] 34) = X4 at hS4 hR4 hG4 kY ⊢
            (obtain ⟨⟨j0, j1, j2, j3, j4, j5, j6, j7⟩, m0, m1, m2, m3, m4, m5, m6, m7⟩ := kY.c8; have kF := kY.copy8 (.string q.nm) (.int .i64 q.k) (.string q.a) (.string q.b) (.int .i64 q.n) (.int .i64 q.wi) (.string q.t) (.string q.e); have hgS := grown_set8 X4 X2.heap.size (.string q.nm) (.int .i64 q.k) (.string q.a) (.string q.b) (.int .i64 q.n) (.int .i64 q.wi) (.string q.t) (.string q.e); have hR5 := Rd.row hR4 hgS (by have := hR.lt; omega); have hG5 := grown_new hG4 hgS hzY; refine anyX_one (i := 12) (by kernel_rfl) rfl (fun K hK => ?_); go_simp; refine hK.out _ _ (fun _ => hgS.cell hS4 (by simp; omega)) ?_; clear hK K j0 j1 j2 j3 j4 j5 j6 j7 m0 m1 m2 m3 m4 m5 m6 m7 kY; (try simp only [Act.put, List.setIfInBounds_toArray, List.set_cons_zero, List.set_cons_succ]); refine anyX_done (by kernel_rfl) ?_ _; go_wp2_with fail; go_meet; exact ⟨_, q, rfl, kF, hq, hR5, hG5, hzY⟩)
          · go_simp
            have kY := cb_alloc X1 [.string ⟨#[]⟩, .int .i64 0, .string ⟨#[]⟩, .string ⟨#[]⟩, .int .i64 0, .int .i64 0, .string ⟨#[]⟩, .string ⟨#[]⟩] 34
            have hg4 : X1.grownBy (X1.alloc (.cells #[.string ⟨#[]⟩, .int .i64 0, .string ⟨#[]⟩, .string ⟨#[]⟩, .int .i64 0, .int .i64 0, .string ⟨#[]⟩, .string ⟨#[]⟩] 34)) (some rb) := grown_alloc (grown_refl _ _) _
            have hS4 : World.cell? (X1.alloc (.cells #[.string ⟨#[]⟩, .int .i64 0, .string ⟨#[]⟩, .string ⟨#[]⟩, .int .i64 0, .int .i64 0, .string ⟨#[]⟩, .string ⟨#[]⟩] 34)) ⟨NB, k, none⟩ = some (.string nm) := hg4.cell hS (by simpa using hNB)
            have hR4 : Rd (X1.alloc (.cells #[.string ⟨#[]⟩, .int .i64 0, .string ⟨#[]⟩, .string ⟨#[]⟩, .int .i64 0, .int .i64 0, .string ⟨#[]⟩, .string ⟨#[]⟩] 34)) rb v len (N + 2 + 14 * k) := hR.alloc _
            have hL4 : StrsAt (X1.alloc (.cells #[.string ⟨#[]⟩, .int .i64 0, .string ⟨#[]⟩, .string ⟨#[]⟩, .int .i64 0, .int .i64 0, .string ⟨#[]⟩, .string ⟨#[]⟩] 34)) NB (k + 1) lat := hL.alloc _
            have hG4 := grown_trans hG hg4
            have hyr : rb < X1.heap.size := hR.lt
            refine hK.out _ _ (fun _ => hS4) ?_; clear hK K
            have kY : CB (X1.alloc (.cells #[.string ⟨#[]⟩, .int .i64 0, .string ⟨#[]⟩, .string ⟨#[]⟩, .int .i64 0, .int .i64 0, .string ⟨#[]⟩, .string ⟨#[]⟩] 34)) X1.heap.size [.string ⟨#[]⟩, .int .i64 0, .string ⟨#[]⟩, .string ⟨#[]⟩, .int .i64 0, .int .i64 0, .string ⟨#[]⟩, .string ⟨#[]⟩] := kY
            obtain ⟨y0, hy0⟩ : ∃ y0, X1.heap.size = y0 := ⟨_, rfl⟩
            rw [hy0] at kY hzX hyr
            clear hS hR hL hG hg4
            generalize X1.alloc (.cells #[.string ⟨#[]⟩, .int .i64 0, .string ⟨#[]⟩, .string ⟨#[]⟩, .int .i64 0, .int .i64 0, .string ⟨#[]⟩, .string ⟨#[]⟩] 34) = X0 at hS4 hR4 hG4 hL4 kY ⊢
            refine anyX_one (i := 10) (by kernel_rfl) rfl (fun K hK => ?_)
            (go_simp; go_wp2_with (go_at_call 75; refine (phase_any rb len _ v nm lat NB (k + 1) _ (n - k) _ hR4 (by omega) hnz hLz hLl (by omega) hL4 hNB).mono ?_; rintro e X2 ⟨⟨q, rfl, hq⟩, hR2, hg2⟩; have hS2 : World.cell? X2 ⟨NB, k, none⟩ = some (.string nm) := hg2.cell hS4 (by simpa using hNB)))
            have kY : CB X2 y0 [.string ⟨#[]⟩, .int .i64 0, .string ⟨#[]⟩, .string ⟨#[]⟩, .int .i64 0, .int .i64 0, .string ⟨#[]⟩, .string ⟨#[]⟩] := kY.kept hg2 (by simp; omega)
            have hG5 := grown_trans hG4 hg2
            have hzY : wr.heap.size ≤ y0 := hzX
            refine hK.out _ _ (fun _ => hS2) ?_; clear hK K
            clear hS4 hR4 hG4 hL4
            have hS4 := hS2
            clear hS2
            generalize X2 = X4 at *
            (obtain ⟨⟨j0, j1, j2, j3, j4, j5, j6, j7⟩, m0, m1, m2, m3, m4, m5, m6, m7⟩ := kY.c8; have kF := kY.copy8 (.string q.nm) (.int .i64 q.k) (.string q.a) (.string q.b) (.int .i64 q.n) (.int .i64 q.wi) (.string q.t) (.string q.e); have hgS := grown_set8 X4 y0 (.string q.nm) (.int .i64 q.k) (.string q.a) (.string q.b) (.int .i64 q.n) (.int .i64 q.wi) (.string q.t) (.string q.e); have hR5 := Rd.row hR2 hgS hyr; have hG5 := grown_new hG5 hgS hzY; refine anyX_one (i := 12) (by kernel_rfl) rfl (fun K hK => ?_); go_simp; refine hK.out _ _ (fun _ => hgS.cell hS4 (by simp; omega)) ?_; clear hK K j0 j1 j2 j3 j4 j5 j6 j7 m0 m1 m2 m3 m4 m5 m6 m7 kY; (try simp only [Act.put, List.setIfInBounds_toArray, List.set_cons_zero, List.set_cons_succ]); refine anyX_done (by kernel_rfl) ?_ _; go_wp2_with fail; go_meet; exact ⟨_, q, rfl, kF, hq, hR5, hG5, hzY⟩)
        case rest =>
          obtain ⟨Y, q, rfl, kY, hq, hRc, hGc, hzY⟩ := hcut
          have hrN : rb < NB + 1 := by omega
          have hownc := own_grown hown hGc hrN
          have HSc : Hid (StrsAt wc NB 0 namesL) := HSk.out.kept hGc hNB
          have hGw := grown_trans hGk hGc
          have hub : ∀ g, Value.ownBlock u5 = some g → g < wr.heap.size := fun g hg => (hown.lt g hg).2
          have hzc := hGc.size
          clear hRk hGk hown HSk hcell hLs hLz hLl hki hw1 hw2 hw3 hw4 hw5 hn2
          go_wp2_with fail
          refine (pick_any rb len _ v 5 _ hRc (by omega)).mono ?_
          rintro e w5 ⟨⟨x5, rfl, h50, h51⟩, hR5, hg5⟩
          have h52 := h51 (by omega)
          have hw6 : IntKind.i64.wrap (1 + x5) = 1 + x5 := by rw [IntKind.wrap_i64]; omega
          have kY5 := kY.kept hg5 (by simp; omega)
          have hown5 := own_grown hownc hg5 hrN
          have HS5 : Hid (StrsAt w5 NB 0 namesL) := HSc.out.kept hg5 hNB
          have hG5 := grown_trans hGw hg5
          have hz5 := hg5.size
          clear hRc hGc hownc HSc hGw kY hg5 h51
          obtain ⟨⟨j0, j1, j2, j3, j4, j5, j6, j7⟩, m0, m1, m2, m3, m4, m5, m6, m7⟩ := kY5.c8
          obtain ⟨W6, hW6, kY6, hgY⟩ : ∃ W6, w5.setCell ⟨Y, 5, none⟩ (.int .i64 (1 + x5)) = W6 ∧ CB W6 Y [.string q.nm, .int .i64 q.k, .string q.a, .string q.b, .int .i64 q.n, .int .i64 (1 + x5), .string q.t, .string q.e] ∧ w5.grownBy W6 (some Y) := ⟨_, rfl, kY5.set (j := 5) (by simp), grown_setCell (grown_refl _ _) _⟩
          have hown6 := own_keep2 hown5 hgY (fun g hg e => by have := hub g hg; simp at e; omega)
          have HS6 : Hid (StrsAt W6 NB 0 namesL) := HS5.out.kept hgY (by omega)
          have hR6 := Rd.row hR5 hgY (by omega)
          have hG6 := grown_new hG5 hgY (by omega)
          have hz6 := hgY.size
          go_upto_region 11 with fail
          try rw [hW6]
          clear hW6 j0 j1 j2 j3 j4 j5 j6 j7 m0 m1 m2 m3 m4 m5 m6 m7 kY5 hown5 HS5 hR5 hG5 hgY
          obtain ⟨⟨j0, j1, j2, j3, j4, j5, j6, j7⟩, m0, m1, m2, m3, m4, m5, m6, m7⟩ := kY6.c8
          by_cases hk3 : q.k = 3
          · have hk3' : (q.k == 3) = true := by simpa using hk3
            go_wp2_with fail
            refine (pick_any rb len _ v (1 + x5) _ hR6 (by omega)).mono ?_
            rintro e w7 ⟨⟨x7, rfl, h70, h71⟩, hR7, hg7⟩
            have h72 := h71 (by omega)
            have hw7 : IntKind.i64.wrap (1 + x7) = 1 + x7 := by rw [IntKind.wrap_i64]; omega
            have kY7 := kY6.kept hg7 (by simp; omega)
            have hown7 := own_grown hown6 hg7 hrN
            have HS7 : Hid (StrsAt w7 NB 0 namesL) := HS6.out.kept hg7 hNB
            have hG7 := grown_trans hG6 hg7
            have hz7 := hg7.size
            clear j0 j1 j2 j3 j4 j5 j6 j7 m0 m1 m2 m3 m4 m5 m6 m7 kY6 hown6 HS6 hR6 hG6 hg7 h71
            obtain ⟨⟨j0, j1, j2, j3, j4, j5, j6, j7⟩, m0, m1, m2, m3, m4, m5, m6, m7⟩ := kY7.c8
            obtain ⟨W8, hW8, kY8, hgY⟩ : ∃ W8, w7.setCell ⟨Y, 4, none⟩ (.int .i64 (1 + x7)) = W8 ∧ CB W8 Y [.string q.nm, .int .i64 q.k, .string q.a, .string q.b, .int .i64 (1 + x7), .int .i64 (1 + x5), .string q.t, .string q.e] ∧ w7.grownBy W8 (some Y) := ⟨_, rfl, kY7.set (j := 4) (by simp), grown_setCell (grown_refl _ _) _⟩
            have hown8 := own_keep2 hown7 hgY (fun g hg e => by have := hub g hg; simp at e; omega)
            have HS8 : Hid (StrsAt W8 NB 0 namesL) := HS7.out.kept hgY (by omega)
            have hR8 := Rd.row hR7 hgY (by omega)
            have hG8 := grown_new hG7 hgY (by omega)
            have hz8 := hgY.size
            go_upto_region 13 with fail
            try rw [hW8]
            clear hk3 hk3' hW8 j0 j1 j2 j3 j4 j5 j6 j7 m0 m1 m2 m3 m4 m5 m6 m7 kY7 hown7 HS7 hR7 hG7 hgY
            have hq' : Ph.sz ⟨q.nm, q.k, q.a, q.b, 1 + x7, 1 + x5, q.t, q.e⟩ := ⟨hq.1, hq.2.1, hq.2.2.1, hq.2.2.2.1, hq.2.2.2.2.1, by show -5000 ≤ 1 + x5; omega, by show 1 + x5 ≤ 5000; omega⟩
            (obtain ⟨⟨j0, j1, j2, j3, j4, j5, j6, j7⟩, -⟩ := kY8.c8; have hzW := hG8.size; have hownA := World.ownsRow.alloc hown8 (.cells #[.string q.nm, .int .i64 q.k, .string q.a, .string q.b, .int .i64 (1 + x7), .int .i64 (1 + x5), .string q.t, .string q.e] 34); have hRA := hR8.alloc (.cells #[.string q.nm, .int .i64 q.k, .string q.a, .string q.b, .int .i64 (1 + x7), .int .i64 (1 + x5), .string q.t, .string q.e] 34); have hGA := grown_alloc hG8 (.cells #[.string q.nm, .int .i64 q.k, .string q.a, .string q.b, .int .i64 (1 + x7), .int .i64 (1 + x5), .string q.t, .string q.e] 34); have hSA := HS8.out.alloc (.cells #[.string q.nm, .int .i64 q.k, .string q.a, .string q.b, .int .i64 (1 + x7), .int .i64 (1 + x5), .string q.t, .string q.e] 34); have hzA : (W8.alloc (.cells #[.string q.nm, .int .i64 q.k, .string q.a, .string q.b, .int .i64 (1 + x7), .int .i64 (1 + x5), .string q.t, .string q.e] 34)).heap.size = W8.heap.size + 1 := (by simp); have hn8 : ∀ (j : Nat) (u : Value), (Ph.cells (⟨q.nm, q.k, q.a, q.b, 1 + x7, 1 + x5, q.t, q.e⟩ : Ph))[j]? = some u → (W8.alloc (.cells #[.string q.nm, .int .i64 q.k, .string q.a, .string q.b, .int .i64 (1 + x7), .int .i64 (1 + x5), .string q.t, .string q.e] 34)).cell? ((⟨W8.heap.size, 0, none⟩ : Addr).add j) = some u := fun j u hj => new8 W8 (⟨q.nm, q.k, q.a, q.b, 1 + x7, 1 + x5, q.t, q.e⟩ : Ph) _ hj; have Hz : Hid (∀ p ∈ ps ++ [(⟨q.nm, q.k, q.a, q.b, 1 + x7, 1 + x5, q.t, q.e⟩ : Ph)], p.sz) := (fun p hp => by rcases List.mem_append.1 hp with h1 | h1; (exact Hpz.out p h1); (obtain rfl : p = (⟨q.nm, q.k, q.a, q.b, 1 + x7, 1 + x5, q.t, q.e⟩ : Ph) := by simpa using h1); exact hq'); go_wp2_with (at_builtin; refine wpList_append_own _ rfl _ _ 23 rfl (NB + 1) 34 ii _ 8 104 Tryz.underlying23 hi iz0 iz1 iz2 rfl (by decide) u5 _ _ rfl hownA ⟨W8.heap.size, 0, none⟩ 1 1 (Ph.cells (⟨q.nm, q.k, q.a, q.b, 1 + x7, 1 + x5, q.t, q.e⟩ : Ph)) rfl rfl hn8 (one8 (⟨q.nm, q.k, q.a, q.b, 1 + x7, 1 + x5, q.t, q.e⟩ : Ph)) (by unfold maxLen; omega) (by omega) (by omega) ?_); intro v' w9 hown9 hgr9 _; have hR9 := hRA.own hownA hgr9 hrN; have hG9 := grown_own hGA hownA hgr9 (by omega); have hS9 := hSA.own hownA hgr9 (by omega); have hz9 := hgr9.size; have ho9 : w9.ownsRow (NB + 1) 34 8 v' (ps ++ [(⟨q.nm, q.k, q.a, q.b, 1 + x7, 1 + x5, q.t, q.e⟩ : Ph)]).length (rowP (ps ++ [(⟨q.nm, q.k, q.a, q.b, 1 + x7, 1 + x5, q.t, q.e⟩ : Ph)])) := (by rw [rowP_append, List.length_append, hpl]; simpa [rowP, hpl] using hown9); clear j0 j1 j2 j3 j4 j5 j6 j7 hownA hRA hGA hSA hn8 hown9 hgr9; go_wp2_with fail; go_roundw; case rel => exact ⟨k + 1, ps ++ [(⟨q.nm, q.k, q.a, q.b, 1 + x7, 1 + x5, q.t, q.e⟩ : Ph)], by omega, by go_num, by simp; omega, Hz.out, ho9, hR9.mono (by omega), hG9, hS9, by omega⟩)
            case measure => simp [intOf]; omega
          · have hk3' : (q.k == 3) = false := by simpa using hk3
            have hq' : Ph.sz ⟨q.nm, q.k, q.a, q.b, q.n, 1 + x5, q.t, q.e⟩ := ⟨hq.1, hq.2.1, hq.2.2.1, hq.2.2.2.1, hq.2.2.2.2.1, by show -5000 ≤ 1 + x5; omega, by show 1 + x5 ≤ 5000; omega⟩
            go_upto_region 13 with fail
            clear j0 j1 j2 j3 j4 j5 j6 j7 m0 m1 m2 m3 m4 m5 m6 m7
            (obtain ⟨⟨j0, j1, j2, j3, j4, j5, j6, j7⟩, -⟩ := kY6.c8; have hzW := hG6.size; have hownA := World.ownsRow.alloc hown6 (.cells #[.string q.nm, .int .i64 q.k, .string q.a, .string q.b, .int .i64 q.n, .int .i64 (1 + x5), .string q.t, .string q.e] 34); have hRA := hR6.alloc (.cells #[.string q.nm, .int .i64 q.k, .string q.a, .string q.b, .int .i64 q.n, .int .i64 (1 + x5), .string q.t, .string q.e] 34); have hGA := grown_alloc hG6 (.cells #[.string q.nm, .int .i64 q.k, .string q.a, .string q.b, .int .i64 q.n, .int .i64 (1 + x5), .string q.t, .string q.e] 34); have hSA := HS6.out.alloc (.cells #[.string q.nm, .int .i64 q.k, .string q.a, .string q.b, .int .i64 q.n, .int .i64 (1 + x5), .string q.t, .string q.e] 34); have hzA : (W6.alloc (.cells #[.string q.nm, .int .i64 q.k, .string q.a, .string q.b, .int .i64 q.n, .int .i64 (1 + x5), .string q.t, .string q.e] 34)).heap.size = W6.heap.size + 1 := (by simp); have hn8 : ∀ (j : Nat) (u : Value), (Ph.cells (⟨q.nm, q.k, q.a, q.b, q.n, 1 + x5, q.t, q.e⟩ : Ph))[j]? = some u → (W6.alloc (.cells #[.string q.nm, .int .i64 q.k, .string q.a, .string q.b, .int .i64 q.n, .int .i64 (1 + x5), .string q.t, .string q.e] 34)).cell? ((⟨W6.heap.size, 0, none⟩ : Addr).add j) = some u := fun j u hj => new8 W6 (⟨q.nm, q.k, q.a, q.b, q.n, 1 + x5, q.t, q.e⟩ : Ph) _ hj; have Hz : Hid (∀ p ∈ ps ++ [(⟨q.nm, q.k, q.a, q.b, q.n, 1 + x5, q.t, q.e⟩ : Ph)], p.sz) := (fun p hp => by rcases List.mem_append.1 hp with h1 | h1; (exact Hpz.out p h1); (obtain rfl : p = (⟨q.nm, q.k, q.a, q.b, q.n, 1 + x5, q.t, q.e⟩ : Ph) := by simpa using h1); exact hq'); go_wp2_with (at_builtin; refine wpList_append_own _ rfl _ _ 23 rfl (NB + 1) 34 ii _ 8 104 Tryz.underlying23 hi iz0 iz1 iz2 rfl (by decide) u5 _ _ rfl hownA ⟨W6.heap.size, 0, none⟩ 1 1 (Ph.cells (⟨q.nm, q.k, q.a, q.b, q.n, 1 + x5, q.t, q.e⟩ : Ph)) rfl rfl hn8 (one8 (⟨q.nm, q.k, q.a, q.b, q.n, 1 + x5, q.t, q.e⟩ : Ph)) (by unfold maxLen; omega) (by omega) (by omega) ?_); intro v' w9 hown9 hgr9 _; have hR9 := hRA.own hownA hgr9 hrN; have hG9 := grown_own hGA hownA hgr9 (by omega); have hS9 := hSA.own hownA hgr9 (by omega); have hz9 := hgr9.size; have ho9 : w9.ownsRow (NB + 1) 34 8 v' (ps ++ [(⟨q.nm, q.k, q.a, q.b, q.n, 1 + x5, q.t, q.e⟩ : Ph)]).length (rowP (ps ++ [(⟨q.nm, q.k, q.a, q.b, q.n, 1 + x5, q.t, q.e⟩ : Ph)])) := (by rw [rowP_append, List.length_append, hpl]; simpa [rowP, hpl] using hown9); clear j0 j1 j2 j3 j4 j5 j6 j7 hownA hRA hGA hSA hn8 hown9 hgr9; go_wp2_with fail; go_roundw; case rel => exact ⟨k + 1, ps ++ [(⟨q.nm, q.k, q.a, q.b, q.n, 1 + x5, q.t, q.e⟩ : Ph)], by omega, by go_num, by simp; omega, Hz.out, ho9, hR9.mono (by omega), hG9, hS9, by omega⟩)
            case measure => simp [intOf]; omega
      · go_wp2_with fail
        go_ret
        exact ⟨⟨_, ps, rfl, by omega, by omega, Hpz.out, own_low hown (by omega)⟩, hRk.mono (by omega), hGk⟩
end Go.Proofs.YtliebjbbomghiaaGreatDoor

/- Drawing houses: which things are a recipe's slots. -/
namespace Go.Proofs.YtliebjbbomghiaaGreatDoor
open Go.RowKit

theorem Rd.first {w : World} {rb len N : Nat} {v : Value} (h : Rd w rb v len N) : ∃ a n c, w.cell? ⟨rb, 0, none⟩ = some (.slice a n c) := by
  obtain ⟨p, -, c0, -, -, ⟨a, cap, rfl, -⟩, -⟩ := h
  exact ⟨a, _, cap, c0⟩
theorem strs_rd {w : World} {rb len N g : Nat} {v : Value} {ss : List ByteArray} (h : Rd w rb v len N) (hS : StrsAt w g 0 ss) (hp : 0 < ss.length) : g ≠ rb := by
  rintro rfl
  obtain ⟨a, n, c, h0⟩ := h.first
  have := hS 0 _ (List.getElem?_eq_getElem hp)
  rw [Nat.add_zero, h0] at this
  simp at this
theorem strs_lit {w : World} {base e g r : Nat} {ss : List ByteArray} (ho : w.ownsRow base e 2 (.slice (some ⟨r, 0, none⟩) 0 0) 0 []) (hS : StrsAt w g 0 ss) (hp : 0 < ss.length) : g ≠ r := by
  rintro rfl
  have h1 := hS 0 _ (List.getElem?_eq_getElem hp)
  rcases ho.2 with ⟨h0, -⟩ | ⟨g', cap', cur, h0, -, hg, -, -, hcs, -⟩
  · cases h0
  · simp only [Value.slice.injEq, Option.some.injEq, Addr.mk.injEq, and_true, true_and] at h0
    obtain ⟨rfl, rfl⟩ := h0
    have hc : cur.size = 0 := by omega
    rw [Nat.add_zero, cell_of_row w _ 0 cur e (0, 0) hg, Array.getElem?_eq_none (by omega)] at h1
    cases h1
set_option maxRecDepth 20000 in
set_option maxHeartbeats 8000000 in
theorem slots25_any (rb len N : Nat) (v : Value) (ps : List Ph) (b o c : Nat) (ts : List ByteArray) (tv : Value) (w : World) (hR : Rd w rb v len N) (hN : N ≤ 900000) (hr : RecAt w b o ps) (hb : b < w.heap.size) (hs : Sized ps) (hnp : ps.length ≤ 1048576) (ht : Ls w tv ts) (hts : ts.length ≤ 100) :
    Calls Tryz.prog 58 #[.pointer (some ⟨rb, 0, none⟩), .slice (some ⟨b, o, none⟩) ps.length c, tv] w
      fun e w' => (∃ u sl, e = .returned u ∧ NN u ∧ w'.ownsRow w.heap.size 69 2 u sl.length (rowsF Sl.cells sl) ∧ sl.length ≤ 24 ∧ ∀ y ∈ sl, y.s.size ≤ maxLen ∧ y.t.size ≤ maxLen) ∧ Rd w' rb v len (N + 24) ∧ w.grownBy w' (some rb) := by
  have hrl := hR.lt
  obtain ⟨at1, ct1, rfl, -, htz, -⟩ := id ht
  obtain ⟨is, his, j0, j1, j2⟩ := info_parts infoSlR
  obtain ⟨ii, hi, iz0, iz1, iz2⟩ := info_parts infoStr
  obtain ⟨W1, hW1, ho1, hB1⟩ : ∃ W1, w.alloc (.cells #[] 69) = W1 ∧ W1.ownsRow w.heap.size 69 2 (.slice (some ⟨w.heap.size, 0, none⟩) 0 0) 0 [] ∧ Below w.heap.size w W1 := ⟨_, rfl, ownT_lit _ _ _, (Below.refl _ _).alloc (Nat.le_refl _) _⟩
  go_enter Tryz.func58, Tryz.ntmps58
  go_upto_region 2 with fail
  try rw [hW1]
  clear hW1
  have hc1 := specOk_any ps b o c W1 (hr.up hB1 hb) (Nat.lt_of_lt_of_le hb hB1.size) hs hnp
  cases hok : recB ps
  · rw [hok] at hc1
    go_wp2_with (go_at_call 28; refine hc1.mono ?_; rintro e w2 ⟨rfl, hb2⟩)
    go_ret
    have hB2 := up_trans hB1 hb2
    exact ⟨⟨_, [], rfl, ⟨_, _, _, rfl⟩, own_up ho1 hb2, by simp, fun y hy => by simp at hy⟩, (hR.kept hB2).mono (by omega), ⟨hB2.os, hB2.tape, hB2.output, hB2.size, fun i hi _ => hB2.block i hi⟩⟩
  · rw [hok] at hc1
    go_upto_region 4 with (go_at_call 28; refine hc1.mono ?_; rintro e w2 ⟨rfl, hb2⟩)
    have hB2 := up_trans hB1 hb2
    have ho2 := own_up ho1 hb2
    have hp1 : 0 < ps.length := ((recB_iff ps).1 hok).1
    have hr2 := hr.up hB2 hb
    have hb2' : b < w2.heap.size := Nat.lt_of_lt_of_le hb hB2.size
    have c0 : World.cell? w2 ⟨b, o, none⟩ = some (.string (fstN ps)) := by
      have := (hr2.cells 0 hp1).1
      rw [show o + 0 * 8 = o by omega, ← fstN_zero hp1] at this; exact this
    have hc2 := l2Slots_any ps b o c hok (ps.length + 1) (fstN ps) w2 hr2 hb2' (by omega)
    have hzs := slE_sized hs (fstN ps)
    have hls : (slE ps (fstN ps)).length ≤ 24 := by have := slE_len ps (fstN ps); have := ((recB_iff ps).1 hok).2.1; omega
    generalize slE ps (fstN ps) = ss at *
    go_upto_region 5 with (go_at_call 21; refine hc2.mono ?_; rintro e w3 ⟨⟨ua, rfl, hTa⟩, hb3⟩)
    obtain ⟨ga, ca, rfl, hSa, hga, -⟩ := hTa
    have hB3 := up_trans hB2 hb3
    have ho3 := own_up ho2 hb3
    have ht3 := ht.up hB3
    clear hc1 hc2 c0 hb2 hb3 ho1 ho2 hr2 hB1 hB2 ht
    have hc3 := names11_any ts _ w3 ht3 (by omega)
    go_upto_region 7 with (go_at_call 76; refine hc3.mono ?_; rintro e w4 ⟨⟨ul, rfl, hol, -⟩, hb4⟩)
    have hB4 := up_trans hB3 hb4
    have ho4 := own_up ho3 hb4
    have hSa4 : StrsAt w4 ga 0 ss := fun i s hs => (hb4.cell (p := ⟨ga, 0 + i, none⟩) hga).trans (hSa i s hs)
    have hR4 := hR.kept hB4
    have hG4 : w.grownBy w4 (some rb) := ⟨hB4.os, hB4.tape, hB4.output, hB4.size, fun i hi _ => hB4.block i hi⟩
    have hz3 := hB3.size
    have hz4 := hb4.size
    have hap0 : 0 < ss.length → ga ≠ w.heap.size := fun hp => strs_lit ho4 hSa4 hp
    have hrg : 0 < ss.length → ga ≠ rb := fun hp => strs_rd hR4 hSa4 hp
    clear hc3 hB3 ho3 hSa ht3 hb4 hR
    go_loopw [7, 9, 10] (fun u7 u9 i w' => ∃ (k : Nat) (sl : List Sl) (ls : List ByteArray), k ≤ ss.length ∧ i = .int .i64 k ∧ sl.length = k ∧ NN u7 ∧ w'.ownsRow w.heap.size 69 2 u7 sl.length (rowsF Sl.cells sl) ∧ (∀ y ∈ sl, y.s.size ≤ maxLen ∧ y.t.size ≤ maxLen) ∧ OwnT w' w3.heap.size u9 ls ∧ ls.length ≤ 100 ∧ (∀ s ∈ ls, s.size ≤ maxLen) ∧ StrsAt w' ga 0 ss ∧ ga < w'.heap.size ∧ Rd w' rb v len (N + k) ∧ w.grownBy w' (some rb) ∧ w3.heap.size ≤ w'.heap.size ∧ (0 < ss.length → ∀ g, u7.ownBlock = some g → g ≠ ga)) (fun _ _ i _ => ss.length - (intOf i).toNat)
    case atStart => exact ⟨0, [], ts, by omega, rfl, rfl, ⟨_, _, _, rfl⟩, ho4, fun y hy => (by simp at hy), hol, hts, htz, hSa4, by omega, hR4, hG4, hz4, fun hp g hg e => (by simp [Value.ownBlock] at hg; have := hap0 hp; omega)⟩
    case round =>
      clear ho4 hol hSa4 hR4 hG4 hap0
      obtain ⟨k, sl, ls, hk, rfl, hsl, hn7, hown, hzy, hol, hll, hzl, hSk, hgk, hRk, hGk, hzk, hap⟩ := hrel
      have Hzy : Hid (∀ y ∈ sl, y.s.size ≤ maxLen ∧ y.t.size ≤ maxLen) := hzy
      have Hzl : Hid (∀ s ∈ ls, s.size ≤ maxLen) := hzl
      clear hzy hzl
      obtain ⟨a9, c9, rfl⟩ := hol.lst.shape
      by_cases hp : k < ss.length
      case neg =>
        obtain ⟨g7, n7, m7, rfl⟩ := hn7
        go_wp2_with fail
        go_ret
        exact ⟨⟨_, sl, rfl, ⟨_, _, _, rfl⟩, hown, by omega, Hzy.out⟩, hRk.mono (by omega), hGk⟩
      case pos =>
        by_cases hq : 0 < ls.length
        case neg =>
          obtain ⟨g7, n7, m7, rfl⟩ := hn7
          have hq0 : ls.length = 0 := by omega
          go_wp2_with fail
          go_ret
          exact ⟨⟨_, sl, rfl, ⟨_, _, _, rfl⟩, hown, by omega, Hzy.out⟩, hRk.mono (by omega), hGk⟩
        case pos =>
          have hga' : ga ≠ rb := hrg (by omega)
          have Hap : Hid (∀ g, Value.ownBlock u7 = some g → g ≠ ga) := hap (by omega)
          clear hap
          go_wp2_with fail
          refine (pick_any rb len _ v (ls.length : Int) _ hRk (by omega)).mono ?_
          rintro e w5 ⟨⟨x5, rfl, h50, h51⟩, hR5, hg5⟩
          have h52 := h51 (by omega)
          obtain ⟨j, rfl⟩ : ∃ j : Nat, x5 = (j : Int) := ⟨x5.toNat, by omega⟩
          have hj : j < ls.length := by omega
          have hown5 := own_grown hown hg5 hrl
          have hol5 : OwnT w5 w3.heap.size (.slice a9 ls.length c9) ls := own_grown hol hg5 (by omega)
          have hS5 : StrsAt w5 ga 0 ss := hSk.kept hg5 hga'
          have hG5 := grown_trans hGk hg5
          have hz5 := hg5.size
          obtain ⟨g9, c9', e9⟩ := own_ptr2 hol5 hq
          simp only [Value.slice.injEq] at e9
          obtain ⟨rfl, -, rfl⟩ := e9
          clear hRk hGk hg5 hown hol hSk h51
          have q1 : World.cell? w5 ⟨ga, k, none⟩ = some (.string ss[k]) := by
            have := hS5 k _ (List.getElem?_eq_getElem hp)
            simpa using this
          have q2 : World.cell? w5 ⟨g9, j, none⟩ = some (.string ls[j]) := by
            have h1 : ls.length * 1 = ls.length := Nat.mul_one _
            rw [hol5.cellAt j (by omega), List.getElem?_map, List.getElem?_eq_getElem hj]; rfl
          have Hs1 : Hid ((ss[k]).size ≤ maxLen) := hzs _ (List.getElem_mem hp)
          have Hs2 : Hid ((ls[j]).size ≤ maxLen) := Hzl.out _ (List.getElem_mem hj)
          generalize ss[k] = s1 at *
          generalize ls[j] = s2 at *
          obtain ⟨hc4, hc9⟩ := own_cap2 hol5
          unfold maxLen at hc9
          go_upto_region 10 with fail
          have hS1 : World.cell? w5.drew ⟨ga, k, none⟩ = some (.string s1) ∧ World.cell? w5.drew ⟨g9, j, none⟩ = some (.string s2) := ⟨q1, q2⟩
          have hownD := own_drew hown5
          have holD : OwnT w5.drew w3.heap.size (.slice (some ⟨g9, 0, none⟩) ls.length c9) ls := own_drew hol5
          have hSD : StrsAt w5.drew ga 0 ss := hS5.drew
          have hRD : Rd w5.drew rb v len (N + k + 1) := hR5.drew
          have hGD : w.grownBy w5.drew (some rb) := grown_drew hG5
          have hzD : w5.heap.size ≤ w5.drew.heap.size := Nat.le_refl _
          refine wp_region_x 99 (fun w' => World.cell? w' ⟨ga, k, none⟩ = some (.string s1) ∧ World.cell? w' ⟨g9, j, none⟩ = some (.string s2)) (by kernel_rfl) ?_
          generalize w5.drew = X1 at hS1 hownD holD hSD hRD hGD hzD ⊢
          clear q1 q2 hown5 hol5 hS5 hR5 hG5
          refine tkx 0 rfl hS1 ?_
          refine tkx 1 rfl hS1 ?_
          refine tkx 2 rfl hS1 ?_
          refine tkx 3 rfl hS1 ?_
          refine tkx 4 rfl hS1 ?_
          refine tkx 5 rfl hS1 ?_
          refine tkx 6 rfl hS1 ?_
          refine tkx 7 rfl hS1 ?_
          refine tkx 8 rfl hS1 ?_
          refine tkx 9 rfl hS1 ?_
          obtain ⟨X2, hX2, hb2, hn2⟩ : ∃ X2, X1.alloc (.cells #[.string s1, .string s2] 69) = X2 ∧ Below X1.heap.size X1 X2 ∧ ∀ (i : Nat) (u : Value), [Value.string s1, Value.string s2][i]? = some u → X2.cell? ((⟨X1.heap.size, 0, none⟩ : Addr).add i) = some u := ⟨_, rfl, (Below.refl _ _).alloc (Nat.le_refl _) _, fun i u hu => new2 _ _ _ _ hu⟩
          have hzg : ga < X1.heap.size := by have := hGD.size; omega
          have hz9 : g9 < X1.heap.size := (holD.lt g9 rfl).2
          have hown2 := own_up hownD hb2
          have hol2 : OwnT X2 w3.heap.size (.slice (some ⟨g9, 0, none⟩) ls.length c9) ls := own_up holD hb2
          have hS2 : StrsAt X2 ga 0 ss := fun i s hs => (hb2.cell (p := ⟨ga, 0 + i, none⟩) hzg).trans (hSD i s hs)
          have hR2 := hRD.kept hb2
          have hG2 : w.grownBy X2 (some rb) := ⟨hb2.os.trans hGD.os, hb2.tape.trans hGD.tape, hb2.output.trans hGD.output, Nat.le_trans hGD.size hb2.size, fun i hi hne => (hb2.block i (Nat.lt_of_lt_of_le hi hGD.size)).trans (hGD.block i hi hne)⟩
          have hSS2 : World.cell? X2 ⟨ga, k, none⟩ = some (.string s1) ∧ World.cell? X2 ⟨g9, j, none⟩ = some (.string s2) := ⟨(hb2.cell (p := ⟨ga, k, none⟩) hzg).trans hS1.1, (hb2.cell (p := ⟨g9, j, none⟩) hz9).trans hS1.2⟩
          have hzX := hb2.size
          have hzw := hGD.size
          refine anyX_one (i := 10) (by kernel_rfl) rfl (fun K hK => ?_)
          go_simp
          try rw [hX2]
          refine hK.out _ _ (fun _ => hSS2) ?_; clear hK K
          clear hS1 hownD holD hSD hRD hGD hX2 hb2
          refine anyX_one (i := 11) (by kernel_rfl) rfl (fun K hK => ?_)
          refine step_append_at rfl _ _ 24 rfl w.heap.size 69 is _ 2 32 Tryz.underlying24 his j0 j1 j2 rfl (by decide) u7 _ _ rfl hown2 ⟨X1.heap.size, 0, none⟩ 1 1 [.string s1, .string s2] rfl rfl hn2 (by intro u hu; simp only [List.mem_cons, List.not_mem_nil, or_false] at hu; rcases hu with rfl | rfl <;> rfl) (by omega) (by unfold maxLen; omega) (by omega) (by omega) ?_
          intro v7 X3 hown3 hgr3 hwh
          have hap3 : ∀ g, Value.ownBlock v7 = some g → g ≠ ga := fun g hg e => by
            rcases hwh g hg with h1 | h1
            · exact Hap.out g h1 e
            · omega
          have hol3 : OwnT X3 w3.heap.size (.slice (some ⟨g9, 0, none⟩) ls.length c9) ls := own_keep2 hol2 hgr3 (own_apart2 hol2 hown2 (by decide))
          have hS3 : StrsAt X3 ga 0 ss := fun i s hs => hgr3.cell (hS2 i s hs) (fun e => Hap.out ga e.symm rfl)
          have hR3 := hR2.own hown2 hgr3 hrl
          have hG3 := grown_own hG2 hown2 hgr3 (Nat.le_refl _)
          have hz3' := hgr3.size
          have ho3 : X3.ownsRow w.heap.size 69 2 v7 (sl ++ [(⟨s1, s2⟩ : Sl)]).length (rowsF Sl.cells (sl ++ [⟨s1, s2⟩])) := by
            rw [rowsF_append, List.length_append]
            simpa [rowsF, Sl.cells] using hown3
          have hnn3 : NN v7 := by
            obtain ⟨g, cap, e⟩ := own_ptr2 hown3 (by omega)
            exact ⟨g, _, _, e⟩
          have hq2' : World.cell? X3 ⟨g9, j, none⟩ = some (.string s2) := by
            have h1 : ls.length * 1 = ls.length := Nat.mul_one _
            have h2 := hol3.cellAt j (by omega)
            have h3 := hol2.cellAt j (by omega)
            rw [h2, ← h3]; exact hSS2.2
          have hSS3 : World.cell? X3 ⟨ga, k, none⟩ = some (.string s1) ∧ World.cell? X3 ⟨g9, j, none⟩ = some (.string s2) := ⟨hgr3.cell hSS2.1 (fun e => Hap.out ga e.symm rfl), hq2'⟩
          obtain ⟨g7, n7, m7, rfl⟩ := hnn3
          refine hK.out _ _ (fun _ => hSS3) ?_; clear hK K
          refine anyX_one (i := 12) (by kernel_rfl) rfl (fun K hK => ?_)
          go_simp
          refine hK.out _ _ (fun _ => hSS3) ?_; clear hK K
          refine anyX_done (by kernel_rfl) ?_ _
          clear hown2 hol2 hS2 hR2 hG2 hSS2 hn2 hown3 hgr3 hwh hSS3 hq2'
          go_upto_region 11 with fail
          have hpc : j ≤ c9 := by omega
          have hp1 : j + 1 ≤ ls.length := hj
          have hw1 : IntKind.i64.wrap ((j : Int) + 1) = (j : Int) + 1 := by rw [IntKind.wrap_i64]; omega
          have hw2 : (j : Int) + 1 ≤ (ls.length : Int) := by omega
          have hw3 : 0 ≤ (j : Int) + 1 := by omega
          have hw4 : ¬ (ls.length : Int) < (j : Int) + 1 := by omega
          obtain ⟨o2, ho2, hq2⟩ : ∃ o2 : Nat, (if c9 = j + 1 then some (⟨g9, 0, none⟩ : Addr) else some ⟨g9, j + 1, none⟩) = some ⟨g9, o2, none⟩ ∧ (ls.length - (j + 1) ≠ 0 → o2 = j + 1) := by
            by_cases h7 : c9 = j + 1
            · exact ⟨0, by rw [if_pos h7], fun h => by omega⟩
            · exact ⟨j + 1, by rw [if_neg h7], fun _ => rfl⟩
          have hownD := own_drew ho3
          have holD : OwnT X3.drew w3.heap.size (.slice (some ⟨g9, 0, none⟩) ls.length c9) ls := own_drew hol3
          have hSD : StrsAt X3.drew ga 0 ss := hS3.drew
          have hRD : Rd X3.drew rb v len (N + k + 1) := hR3.drew
          have hGD : w.grownBy X3.drew (some rb) := grown_drew hG3
          have hzD : X3.heap.size ≤ X3.drew.heap.size := Nat.le_refl _
          refine wp_region_x 99 (fun _ => True) (by kernel_rfl) ?_
          generalize X3.drew = Y1 at hownD holD hSD hRD hGD hzD ⊢
          clear ho3 hol3 hS3 hR3 hG3
          refine tkx 1 rfl trivial ?_
          refine tkx 2 rfl trivial ?_
          refine tkx 3 rfl trivial ?_
          refine tkx 5 rfl trivial ?_
          refine tkx 6 rfl trivial ?_
          refine tkx 7 rfl trivial ?_
          refine tkx 8 rfl trivial ?_
          obtain ⟨Y2, hY2, hl2, hb2⟩ : ∃ Y2, Y1.alloc (.cells #[] 9) = Y2 ∧ Y2.ownsRow Y1.heap.size 9 1 (.slice (some ⟨Y1.heap.size, 0, none⟩) 0 0) 0 [] ∧ Below Y1.heap.size Y1 Y2 := ⟨_, rfl, ownT_lit _ _ _, (Below.refl _ _).alloc (Nat.le_refl _) _⟩
          have hT9 : StrsAt Y1 g9 0 ls := strs_of_own (g := g9) (cap := c9) holD rfl
          have hz9' : g9 < Y1.heap.size := (holD.lt g9 rfl).2
          have hT2 : StrsAt Y2 g9 0 ls := fun i s hs => (hb2.cell (p := ⟨g9, 0 + i, none⟩) hz9').trans (hT9 i s hs)
          have hnw1 := news_of (hT2.take j)
          refine anyX_one (i := 0) (by kernel_rfl) rfl (fun K hK => ?_)
          go_simp
          try rw [hY2]
          refine hK.out _ _ (fun _ => trivial) ?_; clear hK K
          clear hY2
          refine anyX_one (i := 4) (by kernel_rfl) rfl (fun K hK => ?_)
          refine step_append_both rfl _ _ 29 rfl Y1.heap.size 9 ii _ 1 16 Tryz.underlying29 hi iz0 iz1 iz2 rfl (by decide) _ 0 [] rfl hl2 (some ⟨g9, 0, none⟩) j c9 ((ls.take j).map Value.string) rfl (by rw [List.length_map, List.length_take]; omega) (fun _ => ⟨_, rfl, hnw1⟩) (oneS _) (by unfold maxLen; omega) (by omega) hb2.size ?_
          intro v1 Y3 ho3 hgr3 hnn3
          have hb3 : Below Y1.heap.size Y1 Y3 := below_ownB hb2 hb2.size hl2 hgr3 (Nat.le_refl _)
          have hT3 : StrsAt Y3 g9 0 ls := fun i s hs => (hb3.cell (p := ⟨g9, 0 + i, none⟩) hz9').trans (hT9 i s hs)
          have hnw2 : 0 < ls.length - (j + 1) → ∃ d : Addr, (some ⟨g9, o2, none⟩ : Option Addr) = some d ∧ ∀ (i : Nat) (u : Value), ((ls.drop (j + 1)).map Value.string)[i]? = some u → Y3.cell? (d.add i) = some u := fun hpp => by
            refine ⟨_, rfl, ?_⟩
            rw [hq2 (by omega)]
            have := news_of (hT3.drop (j + 1))
            rw [Nat.zero_add] at this; exact this
          have hn3 := hnn3 ⟨_, _, _, rfl⟩
          clear hgr3 hnn3 hnw1 hT2
          refine hK.out _ _ (fun _ => trivial) ?_; clear hK K
          refine anyX_one (i := 9) (by kernel_rfl) rfl (fun K hK => ?_)
          refine step_append_both rfl _ _ 29 rfl Y1.heap.size 9 ii _ 1 16 Tryz.underlying29 hi iz0 iz1 iz2 rfl (by decide) v1 _ _ rfl ho3 (some ⟨g9, o2, none⟩) (ls.length - (j + 1)) _ ((ls.drop (j + 1)).map Value.string) rfl (by rw [List.length_map, List.length_drop]; omega) hnw2 (oneS _) (by unfold maxLen; omega) (by omega) hb3.size ?_
          intro v2 Y4 ho4 hgr4 hnn4
          have hb4' : Below Y1.heap.size Y1 Y4 := below_ownB hb3 hb3.size ho3 hgr4 (Nat.le_refl _)
          have hol4 : OwnT Y4 w3.heap.size v2 (ls.take j ++ ls.drop (j + 1)) := by
            have e1 : (ls.take j ++ ls.drop (j + 1)).length = 0 + j + (ls.length - (j + 1)) := by rw [List.length_append, List.length_take, List.length_drop]; omega
            have h5 := own_low ho4 (show w3.heap.size ≤ Y1.heap.size by omega)
            unfold OwnT
            rw [e1, List.map_append]
            simpa using h5
          have hlen : (ls.take j ++ ls.drop (j + 1)).length ≤ 100 := by rw [List.length_append, List.length_take, List.length_drop]; omega
          have hown4 := own_up hownD hb4'
          have hzg2 : ga < Y1.heap.size := by omega
          have hS4 : StrsAt Y4 ga 0 ss := fun i s hs => (hb4'.cell (p := ⟨ga, 0 + i, none⟩) hzg2).trans (hSD i s hs)
          have hR4 := hRD.kept hb4'
          have hG4 : w.grownBy Y4 (some rb) := ⟨hb4'.os.trans hGD.os, hb4'.tape.trans hGD.tape, hb4'.output.trans hGD.output, Nat.le_trans hGD.size hb4'.size, fun i hi hne => (hb4'.block i (Nat.lt_of_lt_of_le hi hGD.size)).trans (hGD.block i hi hne)⟩
          have hz4' := hb4'.size
          have Hz2 : Hid (∀ y ∈ sl ++ [(⟨s1, s2⟩ : Sl)], y.s.size ≤ maxLen ∧ y.t.size ≤ maxLen) := fun y hy => by
            rcases List.mem_append.1 hy with h1 | h1
            · exact Hzy.out y h1
            · obtain rfl : y = ⟨s1, s2⟩ := by simpa using h1
              exact ⟨Hs1.out, Hs2.out⟩
          have Hl2 : Hid (∀ s ∈ ls.take j ++ ls.drop (j + 1), s.size ≤ maxLen) := fun s hs => by
            rcases List.mem_append.1 hs with h1 | h1
            · exact Hzl.out s (List.mem_of_mem_take h1)
            · exact Hzl.out s (List.mem_of_mem_drop h1)
          obtain ⟨g8, n8, m8, rfl⟩ := hnn4 hn3
          clear ho4 hgr4 hnn4 ho3 hnw2 hb3 hl2 hb2
          refine hK.out _ _ (fun _ => trivial) ?_; clear hK K
          refine anyX_one (i := 10) (by kernel_rfl) rfl (fun K hK => ?_)
          go_simp
          refine hK.out _ _ (fun _ => trivial) ?_; clear hK K
          refine anyX_done (by kernel_rfl) ?_ _
          go_wp2_with fail
          go_roundw
          case rel => exact ⟨k + 1, sl ++ [⟨s1, s2⟩], ls.take j ++ ls.drop (j + 1), by omega, by go_num, by simp; omega, ⟨_, _, _, rfl⟩, hown4, Hz2.out, hol4, hlen, Hl2.out, hS4, by omega, hR4, hG4, by omega, fun _ => hap3⟩
          case measure => simp [intOf]; omega
end Go.Proofs.YtliebjbbomghiaaGreatDoor
