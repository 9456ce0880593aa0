/- The program's chapter 13: a batch put into a row (slices.Insert) where there is room. -/
import Derived.Test.YtialglmnfchfmadGreatDoorKrl
namespace Go.Proofs.YtialglmnfchfmadGreatDoor
open Go.RowKit Go.Shelf Go.Lib

set_option maxRecDepth 20000 in
set_option maxHeartbeats 4000000 in
theorem insert_room (ps : List Bv) (p : Bv) (k g c base vb : Nat) (w : World) (hk : k < ps.length) (hn : ps.length ≤ 100) (hroom : ps.length + 1 ≤ c) (hrow : w.ownsRow base 45 3 (.slice (some ⟨g, 0, none⟩) ps.length c) ps.length (rowsB ps)) (hone : ∀ u ∈ rowsB ps, u.oneCell' = true) (hB : NewB w vb p) (hop : ∀ u ∈ rowB p, u.oneCell' = true) (hne : vb ≠ g) :
    Calls Tryz.prog 59 #[(.slice (some ⟨g, 0, none⟩) ps.length c), .int .i64 k, .slice (some ⟨vb, 0, none⟩) 1 1] w
      fun e w' => e = .returned (.slice (some ⟨g, 0, none⟩) (ps.length + 1) c) ∧ w'.ownsRow base 45 3 (.slice (some ⟨g, 0, none⟩) (ps.length + 1) c) (ps.length + 1) (rowsB (ps.take k ++ p :: ps.drop k)) ∧ w.grownBy w' (some g) := by
  obtain ⟨hov, W, w4, hc1, hc2, hown, hgW, hg4, hcm⟩ := insert_runs ps p k g c base vb w hk hn hroom hrow hone hB hop hne
  have hS1 : Below 0 w w.drew := (Below.refl _ _).drew
  have hS2 : Below 0 w W := below_ownB (Below.refl 0 w) (Nat.zero_le _) hrow hgW (Nat.zero_le _)
  have hb1 : ¬ ((k : Int) = (ps.length : Int)) := by omega
  have hb2 : ¬ (c = k + 1) := by omega
  have hb4 : ¬ (c = k) := by omega
  have hb5 : k ≤ ps.length := by omega
  have hb6 : (k : Int) ≤ (ps.length : Int) := by omega
  have hb7 : ¬ ((c : Int) < (ps.length : Int) + 1) := by omega
  have hb8 : (ps.length : Int) + 1 ≤ (c : Int) := by omega
  have hw1 : IntKind.i64.wrap ((k : Int) + 1) = (k : Int) + 1 := by rw [IntKind.wrap_i64]; omega
  have hw3 : 0 ≤ (k : Int) + 1 := by omega
  have hw4 : (k : Int) + 1 ≤ (ps.length : Int) + 1 := by omega
  have hw5 : (k : Int) ≤ (ps.length : Int) + 1 := by omega
  have hn1 : ((k : Int) + 1).toNat = k + 1 := by omega
  have hn2 : ((ps.length : Int) + 1).toNat = ps.length + 1 := by omega
  clear hrow hone hB hop hgW
  go_enter Tryz.func59, Tryz.ntmps59
  go_wp2_with (simp only [hov])
  refine wp_region_x 99 (fun w' => Below 0 w w') (by kernel_rfl) ?_
  refine anyX_take (i := 0) (v := ?_) rfl (by kernel_rfl) (by kernel_rfl) (by kernel_rfl) (by kernel_rfl) (fun _ _ _ h => h) (by rfl) hS1 ?_ ?_; rotate_left; focus (intro w hSw; (try dsimp only at hSw); go_simp; try with_reducible rfl); (try simp only [Act.put, List.setIfInBounds_toArray, List.set_cons_zero, List.set_cons_succ])
  refine anyX_take (i := 1) (v := ?_) rfl (by kernel_rfl) (by kernel_rfl) (by kernel_rfl) (by kernel_rfl) (fun _ _ _ h => h) (by rfl) hS1 ?_ ?_; rotate_left; focus (intro w hSw; (try dsimp only at hSw); go_simp; try with_reducible rfl); (try simp only [Act.put, List.setIfInBounds_toArray, List.set_cons_zero, List.set_cons_succ])
  refine anyX_take (i := 2) (v := ?_) rfl (by kernel_rfl) (by kernel_rfl) (by kernel_rfl) (by kernel_rfl) (fun _ _ _ h => h) (by rfl) hS1 ?_ ?_; rotate_left; focus (intro w hSw; (try dsimp only at hSw); go_simp; try with_reducible rfl); (try simp only [Act.put, List.setIfInBounds_toArray, List.set_cons_zero, List.set_cons_succ])
  refine anyX_take (i := 3) (v := ?_) rfl (by kernel_rfl) (by kernel_rfl) (by kernel_rfl) (by kernel_rfl) (fun _ _ _ h => h) (by rfl) hS1 ?_ ?_; rotate_left; focus (intro w hSw; (try dsimp only at hSw); go_simp; try with_reducible rfl); (try simp only [Act.put, List.setIfInBounds_toArray, List.set_cons_zero, List.set_cons_succ])
  refine anyX_take (i := 4) (v := ?_) rfl (by kernel_rfl) (by kernel_rfl) (by kernel_rfl) (by kernel_rfl) (fun _ _ _ h => h) (by rfl) hS1 ?_ ?_; rotate_left; focus (intro w hSw; (try dsimp only at hSw); go_simp; try with_reducible rfl); (try simp only [Act.put, List.setIfInBounds_toArray, List.set_cons_zero, List.set_cons_succ])
  refine anyX_take (i := 5) (v := ?_) rfl (by kernel_rfl) (by kernel_rfl) (by kernel_rfl) (by kernel_rfl) (fun _ _ _ h => h) (by rfl) hS1 ?_ ?_; rotate_left; focus (intro w hSw; (try dsimp only at hSw); go_simp; try with_reducible rfl); (try simp only [Act.put, List.setIfInBounds_toArray, List.set_cons_zero, List.set_cons_succ])
  refine anyX_take (i := 6) (v := ?_) rfl (by kernel_rfl) (by kernel_rfl) (by kernel_rfl) (by kernel_rfl) (fun _ _ _ h => h) (by rfl) hS1 ?_ ?_; rotate_left; focus (intro w hSw; (try dsimp only at hSw); go_simp; try with_reducible rfl); (try simp only [Act.put, List.setIfInBounds_toArray, List.set_cons_zero, List.set_cons_succ])
  refine anyX_take (i := 7) (v := ?_) rfl (by kernel_rfl) (by kernel_rfl) (by kernel_rfl) (by kernel_rfl) (fun _ _ _ h => h) (by rfl) hS1 ?_ ?_; rotate_left; focus (intro w hSw; (try dsimp only at hSw); go_simp; try with_reducible rfl); (try simp only [Act.put, List.setIfInBounds_toArray, List.set_cons_zero, List.set_cons_succ])
  refine anyX_one (i := 8) (by kernel_rfl) rfl (fun K hK => ?_)
  refine step_copy_runI rfl _ _ 28 28 rfl (.slice (some ⟨g, (k + 1) * 3, none⟩) (ps.length - k) (c - (k + 1))) (.slice (some ⟨g, k * 3, none⟩) (ps.length + 1 - k) (c - k)) (by simp [Act.eval, Act.put]) (by simp [Act.eval, Act.put]) (hc1 _ _ _) ?_
  refine hK.out _ _ (fun _ => hS2) ?_; clear hK K; (try simp only [Act.put, List.setIfInBounds_toArray])
  refine anyX_done (by kernel_rfl) ?_ _
  go_wp2_with (at_builtin; refine wpList_copy_runI _ rfl _ _ 28 28 rfl _ _ rfl rfl (hc2 _ _) ?_)
  go_ret
  exact ⟨rfl, hown, hg4⟩
end Go.Proofs.YtialglmnfchfmadGreatDoor
