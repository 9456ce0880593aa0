/- The program's chapter 13: what is done where somebody comes in. -/
import Derived.Test.YtkgbdjdgcacblaaGreatDoorJ46
import Derived.Test.YtkgbdjdgcacblaaGreatDoorKr8
import Derived.Test.YtkgbdjdgcacblaaGreatDoorJ43
namespace Go.Proofs.YtkgbdjdgcacblaaGreatDoor
open Go.RowKit

theorem own_set3r {w : World} {base Y : Nat} {u : Value} {ss : List ByteArray} (h : OwnT w base u ss) (hne : ∀ g, u.ownBlock = some g → g ≠ Y) (x y z : Value) : OwnT (((w.setCell ⟨Y, 0, none⟩ x).setCell ⟨Y, 1, none⟩ y).setCell ⟨Y, 2, none⟩ z) base u ss :=
  own_keep2 h (grown_setCell (rb := Y) (off := 2) (grown_setCell (rb := Y) (off := 1) (grown_setCell (rb := Y) (off := 0) (grown_refl w _) x) y) z) (fun g hg e => hne g hg (by simpa using e))
theorem s3_set {W w0 : World} {q Y : Nat} {x0 x1 : Value} (h : Below W.heap.size W w0 ∧ w0.cell? ⟨q, 0, none⟩ = some x0 ∧ w0.cell? ⟨q, 1, none⟩ = some x1) (hY : W.heap.size ≤ Y) (hq : q < W.heap.size) (x y z : Value) :
    Below W.heap.size W (((w0.setCell ⟨Y, 0, none⟩ x).setCell ⟨Y, 1, none⟩ y).setCell ⟨Y, 2, none⟩ z) ∧ (((w0.setCell ⟨Y, 0, none⟩ x).setCell ⟨Y, 1, none⟩ y).setCell ⟨Y, 2, none⟩ z).cell? ⟨q, 0, none⟩ = some x0 ∧ (((w0.setCell ⟨Y, 0, none⟩ x).setCell ⟨Y, 1, none⟩ y).setCell ⟨Y, 2, none⟩ z).cell? ⟨q, 1, none⟩ = some x1 := by
  refine ⟨((h.1.setCell (p := ⟨Y, 0, none⟩) hY _).setCell (p := ⟨Y, 1, none⟩) hY _).setCell (p := ⟨Y, 2, none⟩) hY _, ?_, ?_⟩
  · rw [World.cell?_setCell_other _ _ _ _ (by simp <;> omega), World.cell?_setCell_other _ _ _ _ (by simp <;> omega), World.cell?_setCell_other _ _ _ _ (by simp <;> omega)]; exact h.2.1
  · rw [World.cell?_setCell_other _ _ _ _ (by simp <;> omega), World.cell?_setCell_other _ _ _ _ (by simp <;> omega), World.cell?_setCell_other _ _ _ _ (by simp <;> omega)]; exact h.2.2
theorem fam_ins (ps : List Bv) (k : Nat) (p : Bv) (t : Value × List ByteArray) (hk : k ≤ ps.length) : ((p.2.1, p.1.has) :: (p.2.2, p.1.needs) :: t :: famB ps).Perm (t :: famB (ps.take k ++ p :: ps.drop k)) := by
  have hl : (ps.take k).length = k := by rw [List.length_take]; omega
  have h1 := famB_at (ps.take k ++ p :: ps.drop k) k p (by rw [List.getElem?_append_right (by omega), hl, Nat.sub_self]; rfl)
  have h2 : (ps.take k ++ p :: ps.drop k).eraseIdx k = ps := by
    rw [List.eraseIdx_append_of_length_le (by omega), hl, Nat.sub_self, List.eraseIdx_cons_zero, List.take_append_drop]
  rw [h2] at h1
  exact ((h1.cons t).trans (turn3 _ _ _ _)).symm
theorem low_in (b : Bk) (nm : ByteArray) : lowN (nms b.bs) nm = inN b nm := by
  unfold lowN inN nms
  rw [List.takeWhile_map, List.length_map]; rfl
theorem in_le (b : Bk) (nm : ByteArray) : inN b nm ≤ b.bs.length := (List.takeWhile_sublist _).length_le
set_option maxRecDepth 20000 in
set_option maxHeartbeats 8000000 in
theorem doneEnter_any (b : Bk) (v : Value) (nm : ByteArray) (lv : Value) (ls : List ByteArray) (w : World) (h : BkV w v b) (hl : Ls w lv ls) (hls : ls.length ≤ 100) (hnz : nm.size ≤ maxLen) (hok : BookOk b) :
    Calls Tryz.prog 42 #[v, .iface 58 (.agg #[.string nm, lv])] w fun e w' => (∃ u, e = .returned u ∧ BkF w' w.heap.size u ⟨b.things, b.bs.take (inN b nm) ++ ⟨nm, [], ls⟩ :: b.bs.drop (inN b nm)⟩) ∧ Below w.heap.size w w' := by
  have f1 := as_whoE
  have f2 := ta_EE
  obtain ⟨a1, c1, a2, c2, rfl, -, -⟩ := h.parts
  obtain ⟨la, lc, rfl, -⟩ := id hl
  obtain ⟨s1, s2, s3⟩ := ok_small hok
  obtain ⟨W1, hW1, kA, kR, hB1, hs1⟩ : ∃ W1, (w.alloc (.cells #[.slice a1 (b).things.length c1, .slice a2 (b).bs.length c2] 26)).alloc (.cells #[.slice none 0 0, .slice none 0 0] 26) = W1 ∧ CB W1 w.heap.size [.slice a1 b.things.length c1, .slice a2 b.bs.length c2] ∧ CB W1 (w.heap.size + 1) [.slice none 0 0, .slice none 0 0] ∧ Below w.heap.size w W1 ∧ W1.heap.size = w.heap.size + 2 := ⟨_, rfl, cb2 w _ _ _ _⟩
  go_enter Tryz.func42, Tryz.ntmps42
  go_upto_region 1 with fail
  try rw [hW1]
  clear hW1
  have hk := h.up hB1
  obtain ⟨e0, e1⟩ := kA.c2'
  go_wp2_with fail
  refine (copyP_any b _ _ hk (by omega) (by omega) (fun y hy => by have := s3 y hy; omega)).mono ?_
  rintro e w2 ⟨⟨a3, c3, a4, c4, ps, rfl, x2, x3, hF⟩, hb2⟩
  have hz2 := hb2.size
  have hlt2 : ∀ g', (Value.slice a4 b.bs.length c4).ownBlock = some g' → g' < w2.heap.size := fun g' hg' => (x2.1.lt g' hg').2
  replace hF := hF.avoid (Nat.le_refl _)
  have Hnm : Hid (∀ p ∈ ps, p.1.nm.size ≤ maxLen) := fun p hp => (x2.2 p hp).2.2
  have kA2 := kA.up hb2 (by omega)
  have kR2 := kR.up hb2 (by omega)
  have hk2 := hk.up hb2
  have hB2 := up_trans hB1 hb2
  clear e0 e1 kA kR hk hB1 hb2
  go_upto_region 2 with fail
  obtain ⟨W3, hW3, kX, hb3, hs3⟩ : ∃ W3, w2.alloc (.cells #[(.slice a3 b.things.length c3), .slice a4 b.bs.length c4] 26) = W3 ∧ CB W3 w2.heap.size [(.slice a3 b.things.length c3), .slice a4 b.bs.length c4] ∧ Below w2.heap.size w2 W3 ∧ W3.heap.size = w2.heap.size + 1 := ⟨_, rfl, cb1 w2 _ _⟩
  try rw [hW3]
  clear hW3
  have kA3 := kA2.up hb3 (by omega)
  have kR3 := kR2.up hb3 (by omega)
  have hk3 := hk2.up hb3
  have hB3 := up_trans hB2 hb3
  have x23 := x2.up hb3
  have hF3 := hF.up hb3
  clear kA2 kR2 hk2 hB2 x2 hF hb3
  obtain ⟨e0, e1⟩ := kA3.c2'
  have hS0 : Below W3.heap.size W3 W3 ∧ W3.cell? ⟨w.heap.size, 0, none⟩ = some (.slice a1 b.things.length c1) ∧ W3.cell? ⟨w.heap.size, 1, none⟩ = some (.slice a2 b.bs.length c2) := ⟨Below.refl _ _, e0, e1⟩
  have hq3 : w.heap.size < W3.heap.size := by omega
  clear e0 e1
  go_wp2_with fail
  go_region_held (fun w' => Below W3.heap.size W3 w' ∧ w'.cell? ⟨w.heap.size, 0, none⟩ = some (.slice a1 b.things.length c1) ∧ w'.cell? ⟨w.heap.size, 1, none⟩ = some (.slice a2 b.bs.length c2)) (first | exact k2_drew hS0 | exact k2_up hq3 (by assumption) (by assumption))
    (first
      | (go_at_call 112; refine (asker_any nm _).mono ?_; rintro e' w9 ⟨rfl, hb9⟩)
      | (go_at_call 60; refine (find_any b _ nm _ ((hk3.up (Below.refl _ _).drew).up hb9) hok).mono ?_; rintro e' wA ⟨rfl, hbA⟩))
  rename_i hHeld
  have hBA := hHeld.1
  clear hHeld hS0 hb9 hbA
  have hzA := hBA.size
  have kXA := kX.up hBA (by omega)
  have kRA := kR3.up hBA (by omega)
  have hBB := up_trans hB3 hBA
  have x2A := x23.up hBA
  have hFA := hF3.up hBA
  clear kX kR3 kA3 hB3 x23 hF3 hk3 hBA
  rw [low_in b nm]
  have hin := in_le b nm
  have hps : ps.length = b.bs.length := by rw [← x3, List.length_map]
  go_upto_region 6 with fail
  obtain ⟨W5, hW5, kZ5, hb5, hs5⟩ : ∃ W5, wA.alloc (.cells #[.string nm, .slice la ls.length lc] 58) = W5 ∧ CB W5 wA.heap.size [.string nm, .slice la ls.length lc] ∧ Below wA.heap.size wA W5 ∧ W5.heap.size = wA.heap.size + 1 := ⟨_, rfl, cb1 wA _ _⟩
  try rw [hW5]
  clear hW5
  have Hs5 : Hid (W5.heap.size = wA.heap.size + 1) := hs5
  have kX5 := kXA.up hb5 (by omega)
  have kR5 := kRA.up hb5 (by omega)
  have hB5 := up_trans hBB hb5
  have x25 := x2A.up hb5
  have hF5 := hFA.up hb5
  have hl5 := hl.up hB5
  have hz5 : wA.heap.size < W5.heap.size := by omega
  clear kXA kRA hBB x2A hFA hb5 hl h hs5
  obtain ⟨z0, z1⟩ := kZ5.c2'
  have hS1 : Below W5.heap.size W5 W5.drew ∧ World.cell? W5.drew ⟨wA.heap.size, 0, none⟩ = some (.string nm) ∧ World.cell? W5.drew ⟨wA.heap.size, 1, none⟩ = some (.slice la ls.length lc) := ⟨(Below.refl _ _).drew, z0, z1⟩
  clear z0 z1 kZ5
  go_cut [9] (fun v9 wc => ∃ (Y : Nat) (un : Value), v9 = .pointer (some ⟨Y, 0, none⟩) ∧ CB wc Y [.string nm, .slice none 0 0, un] ∧ OwnT wc W5.heap.size un ls ∧ W5.heap.size ≤ Y ∧ (∀ g, un.ownBlock = some g → g ≠ Y) ∧ Below W5.heap.size W5 wc)
  case first =>
    refine wp_region_x 99 (fun w' => Below W5.heap.size W5 w' ∧ World.cell? w' ⟨wA.heap.size, 0, none⟩ = some (.string nm) ∧ World.cell? w' ⟨wA.heap.size, 1, none⟩ = some (.slice la ls.length lc)) (by kernel_rfl) ?_
    refine anyX_take (i := 0) (v := ?_) rfl (by kernel_rfl) (by kernel_rfl) (by kernel_rfl) (by kernel_rfl) (fun _ _ _ h => h) (by rfl) hS1 ?_ ?_; rotate_left; focus (intro w hSw; (try dsimp only at hSw); go_simp; try with_reducible rfl); (try simp only [Act.put, List.setIfInBounds_toArray, List.set_cons_zero, List.set_cons_succ])
    refine anyX_take (i := 1) (v := ?_) rfl (by kernel_rfl) (by kernel_rfl) (by kernel_rfl) (by kernel_rfl) (fun _ _ _ h => h) (by rfl) hS1 ?_ ?_; rotate_left; focus (intro w hSw; (try dsimp only at hSw); go_simp; try with_reducible rfl); (try simp only [Act.put, List.setIfInBounds_toArray, List.set_cons_zero, List.set_cons_succ])
    refine anyX_take (i := 2) (v := ?_) rfl (by kernel_rfl) (by kernel_rfl) (by kernel_rfl) (by kernel_rfl) (fun _ _ _ h => h) (by rfl) hS1 ?_ ?_; rotate_left; focus (intro w hSw; (try dsimp only at hSw); go_simp; try with_reducible rfl); (try simp only [Act.put, List.setIfInBounds_toArray, List.set_cons_zero, List.set_cons_succ])
    refine anyX_take (i := 3) (v := ?_) rfl (by kernel_rfl) (by kernel_rfl) (by kernel_rfl) (by kernel_rfl) (fun _ _ _ h => h) (by rfl) hS1 ?_ ?_; rotate_left; focus (intro w hSw; (try dsimp only at hSw); go_simp; try with_reducible rfl); (try simp only [Act.put, List.setIfInBounds_toArray, List.set_cons_zero, List.set_cons_succ])
    refine anyX_take (i := 4) (v := ?_) rfl (by kernel_rfl) (by kernel_rfl) (by kernel_rfl) (by kernel_rfl) (fun _ _ _ h => h) (by rfl) hS1 ?_ ?_; rotate_left; focus (intro w hSw; (try dsimp only at hSw); go_simp; try with_reducible rfl); (try simp only [Act.put, List.setIfInBounds_toArray, List.set_cons_zero, List.set_cons_succ])
    refine anyX_two (i := 5) (j := 7) (by kernel_rfl) rfl rfl (fun K hK => ?_) (fun K hK => ?_)
    · go_simp
      go_wp2_with (go_at_call 59; refine (copied_any ls _ W5.drew hl5 (by omega)).mono ?_; rintro e w6 ⟨⟨un, rfl, hon⟩, hb6⟩)
      obtain ⟨an, cn, rfl⟩ := hon.lst.shape
      have hS6 : Below W5.heap.size W5 w6 ∧ World.cell? w6 ⟨wA.heap.size, 0, none⟩ = some (.string nm) ∧ World.cell? w6 ⟨wA.heap.size, 1, none⟩ = some (.slice la ls.length lc) := k2_up hz5 hS1 hb6
      refine hK.out _ _ (fun _ => hS6) ?_; clear hK K; (try simp only [Act.put, List.setIfInBounds_toArray, List.set_cons_zero, List.set_cons_succ])
      refine anyX_take (i := 6) (v := ?_) rfl (by kernel_rfl) (by kernel_rfl) (by kernel_rfl) (by kernel_rfl) (fun _ _ _ h => h) (by rfl) hS6 ?_ ?_; rotate_left; focus (intro w hSw; (try dsimp only at hSw); go_simp; try with_reducible rfl); (try simp only [Act.put, List.setIfInBounds_toArray, List.set_cons_zero, List.set_cons_succ])
      have kY := cb_alloc w6 [.string ⟨#[]⟩, .slice none 0 0, .slice none 0 0] 45
      have hb7 : Below w6.heap.size w6 (w6.alloc (.cells #[.string ⟨#[]⟩, .slice none 0 0, .slice none 0 0] 45)) := (Below.refl _ _).alloc (Nat.le_refl _) _
      have hS7 : Below W5.heap.size W5 (w6.alloc (.cells #[.string ⟨#[]⟩, .slice none 0 0, .slice none 0 0] 45)) ∧ World.cell? (w6.alloc (.cells #[.string ⟨#[]⟩, .slice none 0 0, .slice none 0 0] 45)) ⟨wA.heap.size, 0, none⟩ = some (.string nm) ∧ World.cell? (w6.alloc (.cells #[.string ⟨#[]⟩, .slice none 0 0, .slice none 0 0] 45)) ⟨wA.heap.size, 1, none⟩ = some (.slice la ls.length lc) := k2_up hz5 hS6 hb7
      have hon7 := hon.up hb7
      have hb6z : W5.heap.size ≤ w6.heap.size := hb6.size
      have hlt6 : ∀ g, (Value.slice an ls.length cn).ownBlock = some g → g < w6.heap.size := fun g hg => (hon.lt g hg).2
      refine anyX_one (i := 7) (by kernel_rfl) rfl (fun K hK => ?_)
      go_simp
      refine hK.out _ _ (fun _ => hS7) ?_; clear hK K; (try simp only [Act.put, List.setIfInBounds_toArray, List.set_cons_zero, List.set_cons_succ])
      have kY : CB (w6.alloc (.cells #[.string ⟨#[]⟩, .slice none 0 0, .slice none 0 0] 45)) w6.heap.size [.string ⟨#[]⟩, .slice none 0 0, .slice none 0 0] := kY
      clear hon hS1 hS6 hb6 hb7
      generalize w6.alloc (.cells #[.string ⟨#[]⟩, .slice none 0 0, .slice none 0 0] 45) = W7 at *
      have HF : Hid (CB (((W7.setCell ⟨w6.heap.size, 0, none⟩ (.string nm)).setCell ⟨w6.heap.size, 1, none⟩ (.slice none 0 0)).setCell ⟨w6.heap.size, 2, none⟩ (.slice an ls.length cn)) w6.heap.size [.string nm, .slice none 0 0, .slice an ls.length cn]) := ((kY.set (j := 0) (u := .string nm) (by simp)).set (j := 1) (u := .slice none 0 0) (by simp)).set (j := 2) (u := .slice an ls.length cn) (by simp)
      have HO : Hid (OwnT (((W7.setCell ⟨w6.heap.size, 0, none⟩ (.string nm)).setCell ⟨w6.heap.size, 1, none⟩ (.slice none 0 0)).setCell ⟨w6.heap.size, 2, none⟩ (.slice an ls.length cn)) W5.heap.size (.slice an ls.length cn) ls) := own_set3r hon7 (fun g hg => by have := hlt6 g hg; omega) _ _ _
      have hS8 := s3_set hS7 hb6z hz5 (.string nm) (.slice none 0 0) (.slice an ls.length cn)
      obtain ⟨⟨j0, j1, j2⟩, m0, m1, m2⟩ := kY.c3
      refine anyX_one (i := 8) (by kernel_rfl) rfl (fun K hK => ?_)
      go_simp
      refine hK.out _ _ (fun _ => hS8) ?_
      clear hK K
      refine anyX_done (by kernel_rfl) ?_ _
      have hB8 := hS8.1
      clear j0 j1 j2 m0 m1 m2 kY hS7 hS8 hon7
      go_wp2_with fail
      go_meet
      case rel => exact ⟨w6.heap.size, _, rfl, HF.out, HO.out, hb6z, fun g hg => by have := hlt6 g hg; omega, hB8⟩
    · go_simp
      have hb6 : Below W5.heap.size W5 (W5.alloc (.cells #[.string ⟨#[]⟩, .slice none 0 0, .slice none 0 0] 45)).drew := ((Below.refl W5.heap.size W5).alloc (Nat.le_refl _) (.cells #[.string ⟨#[]⟩, .slice none 0 0, .slice none 0 0] 45)).drew
      have kY : CB (W5.alloc (.cells #[.string ⟨#[]⟩, .slice none 0 0, .slice none 0 0] 45)).drew W5.heap.size [.string ⟨#[]⟩, .slice none 0 0, .slice none 0 0] := cb_alloc W5 [.string ⟨#[]⟩, .slice none 0 0, .slice none 0 0] 45
      have hS6 : Below W5.heap.size W5 (W5.alloc (.cells #[.string ⟨#[]⟩, .slice none 0 0, .slice none 0 0] 45)).drew ∧ World.cell? (W5.alloc (.cells #[.string ⟨#[]⟩, .slice none 0 0, .slice none 0 0] 45)).drew ⟨wA.heap.size, 0, none⟩ = some (.string nm) ∧ World.cell? (W5.alloc (.cells #[.string ⟨#[]⟩, .slice none 0 0, .slice none 0 0] 45)).drew ⟨wA.heap.size, 1, none⟩ = some (.slice la ls.length lc) := k2_up hz5 ⟨Below.refl _ _, hS1.2⟩ hb6
      have hl6 := hl5.up hb6
      have hYl : W5.heap.size < (W5.alloc (.cells #[.string ⟨#[]⟩, .slice none 0 0, .slice none 0 0] 45)).drew.heap.size := kY.2.2
      refine hK.out _ _ (fun _ => hS6) ?_; clear hK K; (try simp only [Act.put, List.setIfInBounds_toArray, List.set_cons_zero, List.set_cons_succ])
      clear hS1 hb6
      generalize (W5.alloc (.cells #[.string ⟨#[]⟩, .slice none 0 0, .slice none 0 0] 45)).drew = W6 at *
      refine anyX_one (i := 5) (by kernel_rfl) rfl (fun K hK => ?_)
      go_simp
      go_wp2_with (go_at_call 59; refine (copied_any ls _ W6 hl6 (by omega)).mono ?_; rintro e w7 ⟨⟨un, rfl, hon⟩, hb7⟩)
      obtain ⟨an, cn, rfl⟩ := hon.lst.shape
      have hS7 : Below W5.heap.size W5 w7 ∧ World.cell? w7 ⟨wA.heap.size, 0, none⟩ = some (.string nm) ∧ World.cell? w7 ⟨wA.heap.size, 1, none⟩ = some (.slice la ls.length lc) := k2_up hz5 hS6 hb7
      have kY7 := kY.up hb7 hYl
      have hlt6 : ∀ g, (Value.slice an ls.length cn).ownBlock = some g → W6.heap.size ≤ g := fun g hg => (hon.lt g hg).1
      refine hK.out _ _ (fun _ => hS7) ?_; clear hK K; (try simp only [Act.put, List.setIfInBounds_toArray, List.set_cons_zero, List.set_cons_succ])
      refine anyX_take (i := 6) (v := ?_) rfl (by kernel_rfl) (by kernel_rfl) (by kernel_rfl) (by kernel_rfl) (fun _ _ _ h => h) (by rfl) hS7 ?_ ?_; rotate_left; focus (intro w hSw; (try dsimp only at hSw); go_simp; try with_reducible rfl); (try simp only [Act.put, List.setIfInBounds_toArray, List.set_cons_zero, List.set_cons_succ])
      clear kY hS6 hl6 hb7
      have HF : Hid (CB (((w7.setCell ⟨W5.heap.size, 0, none⟩ (.string nm)).setCell ⟨W5.heap.size, 1, none⟩ (.slice none 0 0)).setCell ⟨W5.heap.size, 2, none⟩ (.slice an ls.length cn)) W5.heap.size [.string nm, .slice none 0 0, .slice an ls.length cn]) := ((kY7.set (j := 0) (u := .string nm) (by simp)).set (j := 1) (u := .slice none 0 0) (by simp)).set (j := 2) (u := .slice an ls.length cn) (by simp)
      have HO : Hid (OwnT (((w7.setCell ⟨W5.heap.size, 0, none⟩ (.string nm)).setCell ⟨W5.heap.size, 1, none⟩ (.slice none 0 0)).setCell ⟨W5.heap.size, 2, none⟩ (.slice an ls.length cn)) W5.heap.size (.slice an ls.length cn) ls) := own_set3r (own_low hon (Nat.le_of_lt hYl)) (fun g hg => by have := hlt6 g hg; omega) _ _ _
      have hS8 := s3_set hS7 (Nat.le_refl _) hz5 (.string nm) (.slice none 0 0) (.slice an ls.length cn)
      obtain ⟨⟨j0, j1, j2⟩, m0, m1, m2⟩ := kY7.c3
      refine anyX_one (i := 8) (by kernel_rfl) rfl (fun K hK => ?_)
      go_simp
      refine hK.out _ _ (fun _ => hS8) ?_
      clear hK K
      refine anyX_done (by kernel_rfl) ?_ _
      have hB8 := hS8.1
      clear j0 j1 j2 m0 m1 m2 kY7 hS7 hS8 hon
      go_wp2_with fail
      go_meet
      case rel => exact ⟨W5.heap.size, _, rfl, HF.out, HO.out, Nat.le_refl _, fun g hg => by have := hlt6 g hg; omega, hB8⟩
  case rest =>
    obtain ⟨Y, un, rfl, kYc, hon, hY, hnY, hBc⟩ := hcut
    obtain ⟨an, cn, hun⟩ := hon.lst.shape
    subst hun
    have hzc := hBc.size
    have hz5' := Hs5.out
    have kXc := kX5.up hBc (by omega)
    have kRc := kR5.up hBc (by omega)
    have hBB := up_trans hB5 hBc
    have hFc := hF5.up hBc
    have hFn := (Fam.new hF5 hFc hon (Nat.le_refl _) (by omega) (at_lt (by omega))).nil_new
    have hGc := hFn.perm (fam_ins ps (inN b nm) ((⟨nm, [], ls⟩, .slice none 0 0, .slice an ls.length cn) : Bv) ((.slice a3 b.things.length c3), b.things) (by omega))
    have x2c := x25.up hBc
    have hrowc := x2c.1
    have honec := x2c.one ps (fun _ h => h)
    clear hS1 hF5 hFc hFn x25 x2c kX5 kR5 hB5 hl5
    obtain ⟨⟨y0, y1⟩, -⟩ := kXc.c2
    obtain ⟨⟨b0, b1, b2⟩, -⟩ := kYc.c3
    obtain ⟨W9, hW9, hN9, hb9, hs9⟩ : ∃ W9, wc.alloc (.cells #[.string nm, .slice none 0 0, .slice an ls.length cn] 45) = W9 ∧ NewB W9 wc.heap.size ((⟨nm, [], ls⟩, .slice none 0 0, .slice an ls.length cn) : Bv) ∧ Below wc.heap.size wc W9 ∧ W9.heap.size = wc.heap.size + 1 := ⟨_, rfl, heap_alloc_new _ _, (Below.refl _ _).alloc (Nat.le_refl _) _, by simp⟩
    have hrow9 := own_up hrowc hb9
    have hvne : (Value.slice a4 b.bs.length c4).ownBlock ≠ some wc.heap.size := fun e => by have := (hrowc.lt _ e).2; omega
    have hins := insert_any ps ((⟨nm, [], ls⟩, .slice none 0 0, .slice an ls.length cn) : Bv) (inN b nm) _ W1.heap.size wc.heap.size W9 (by omega) (by omega) hrow9 honec hN9 (by simp [rowB, Value.oneCell']) hvne (by omega)
    have hXne : ∀ g, (Value.slice a4 b.bs.length c4).ownBlock = some g → g < w2.heap.size := hlt2
    have kX9 := kXc.up hb9 (by omega)
    have kR9 := kRc.up hb9 (by omega)
    have hB9 := up_trans hBB hb9
    have hG9 := hGc.up hb9
    rw [hps] at hins hrow9
    clear hrowc honec kXc kRc kYc hon hGc hN9 hBB hb9
    go_wp2_with fail
    try rw [hW9]
    clear hW9
    refine hins.mono ?_
    rintro e w10 ⟨uB, rfl, hrow10, hg10, hwh⟩
    obtain ⟨ux, uc, hux⟩ := own_shape hrow10
    subst hux
    have kX10 := kX9.kept hg10 (fun e => by have := hXne _ e.symm; omega)
    have kR10 := kR9.kept hg10 (own_ne hrow9 (by omega))
    have hG10 := hG9.row hrow9 hg10
    have hB10 : Below w.heap.size w w10 := below_own hB9 hrow9 hg10 (by omega)
    have hlo := (hrow10.lt)
    have hz10 := hg10.size
    clear y0 y1 b0 b1 b2 hins hrow9 kX9 kR9 hG9 hB9
    have Hne : Hid (∀ g, (Value.slice ux (b.bs.length + 1) uc).ownBlock = some g → some g ≠ some w2.heap.size) := fun g hg e => by
      have e' := Option.some.inj e
      rcases hwh g hg with k | k
      · have := hXne g k; omega
      · omega
    obtain ⟨W7, hW7, kX7, kR7, hF7, hB7, hrow7⟩ : ∃ W7, w10.setCell ⟨w2.heap.size, 1, none⟩ (.slice ux (b.bs.length + 1) uc) = W7 ∧ CB W7 w2.heap.size [(.slice a3 b.things.length c3), .slice ux (b.bs.length + 1) uc] ∧ CB W7 (w.heap.size + 1) [.slice none 0 0, .slice none 0 0] ∧ Fam W7 W1.heap.size (some w2.heap.size) (((.slice a3 b.things.length c3), b.things) :: famB (ps.take (inN b nm) ++ ((⟨nm, [], ls⟩, .slice none 0 0, .slice an ls.length cn) : Bv) :: ps.drop (inN b nm))) ∧ Below w.heap.size w W7 ∧ W7.ownsRow W1.heap.size 45 3 (.slice ux (b.bs.length + 1) uc) (b.bs.length + 1) (rowsB (ps.take (inN b nm) ++ ((⟨nm, [], ls⟩, .slice none 0 0, .slice an ls.length cn) : Bv) :: ps.drop (inN b nm))) :=
      ⟨_, rfl, kX10.set (j := 1) (by simp), kR10.other (by omega), hG10.set 1 _, hB10.setCell (p := ⟨w2.heap.size, 1, none⟩) (by show _ ≤ w2.heap.size; omega) _, own_keep2 hrow10 (grown_setCell (rb := w2.heap.size) (off := 1) (grown_refl w10 _) _) Hne.out⟩
    obtain ⟨⟨y0, y1⟩, g0, g1⟩ := kX10.c2
    go_upto_region 20 with fail
    try rw [hW7]
    clear hW7 y0 y1 g0 g1 kX10 kR10 hG10 hB10 hrow10 hg10
    obtain ⟨⟨y0, y1⟩, -⟩ := kX7.c2
    obtain ⟨⟨r0, r1⟩, q0, q1⟩ := kR7.c2
    have hW1z : w.heap.size + 1 < W1.heap.size := by omega
    have hl2 : (b.bs.take (inN b nm) ++ ⟨nm, [], ls⟩ :: b.bs.drop (inN b nm)).length = b.bs.length + 1 := by rw [List.length_append, List.length_take, List.length_cons, List.length_drop]; omega
    have hl3 : (ps.take (inN b nm) ++ ((⟨nm, [], ls⟩, .slice none 0 0, .slice an ls.length cn) : Bv) :: ps.drop (inN b nm)).length = b.bs.length + 1 := by rw [List.length_append, List.length_take, List.length_cons, List.length_drop]; omega
    have hm3 : (ps.take (inN b nm) ++ ((⟨nm, [], ls⟩, .slice none 0 0, .slice an ls.length cn) : Bv) :: ps.drop (inN b nm)).map (·.1) = b.bs.take (inN b nm) ++ ⟨nm, [], ls⟩ :: b.bs.drop (inN b nm) := by rw [← x3, List.map_append, List.map_take, List.map_cons, List.map_drop]
    go_wp2_with fail
    refine end_cb2 Tryz.results42 Tryz.underlying26 rfl sizeBk1 kR7 rfl ?_
    have hrow8 := own_grown (own_grown hrow7 (grown_setCell (rb := w.heap.size + 1) (off := 0) (grown_refl _ _) (.slice a3 b.things.length c3)) hW1z) (grown_setCell (rb := w.heap.size + 1) (off := 1) (grown_refl _ _) (.slice ux (b.bs.length + 1) uc)) hW1z
    have hF8 := (hF7.free.setLow hW1z 0 (.slice a3 b.things.length c3)).setLow hW1z 1 (.slice ux (b.bs.length + 1) uc)
    have hW8 := hF8.bsW (fs := [((.slice a3 b.things.length c3), b.things)]) (v := .slice ux (b.bs.length + 1) uc) (by rw [hl3]; exact hrow8) (fun q hq => by
      rcases List.mem_append.1 hq with h | h
      · exact Hnm.out q (List.mem_of_mem_take h)
      · rcases List.mem_cons.1 h with h | h
        · subst h; exact hnz
        · exact Hnm.out q (List.mem_of_mem_drop h))
    refine ⟨⟨_, rfl, a3, c3, ux, uc, _, ?_, ?_, hm3, hF8.low (by omega)⟩, below_set2 hB7 (Nat.le_succ _) _ _⟩
    · show Value.agg #[_, _] = Value.agg #[_, .slice _ (b.bs.take (inN b nm) ++ ⟨nm, [], ls⟩ :: b.bs.drop (inN b nm)).length _]
      rw [hl2]
    · show BsW _ _ (.slice _ (b.bs.take (inN b nm) ++ ⟨nm, [], ls⟩ :: b.bs.drop (inN b nm)).length _) _
      rw [hl2]
      exact hW8.low (by omega)
end Go.Proofs.YtkgbdjdgcacblaaGreatDoor
