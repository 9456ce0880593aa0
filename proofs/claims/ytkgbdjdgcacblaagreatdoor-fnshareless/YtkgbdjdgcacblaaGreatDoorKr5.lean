/- The program's chapter 13: a batch taken out of a row (slices.Delete). -/
import Derived.Test.YtkgbdjdgcacblaaGreatDoorKr4
namespace Go.Proofs.YtkgbdjdgcacblaaGreatDoor
open Go.RowKit

set_option maxHeartbeats 1000000 in
theorem delete_runs (ps : List Bv) (k g c base : Nat) (w : World) (hk : k < ps.length) (hn : ps.length ≤ 100) (hrow : w.ownsRow base 45 3 (.slice (some ⟨g, 0, none⟩) ps.length c) ps.length (rowsB ps)) (hone : ∀ u ∈ rowsB ps, u.oneCell' = true) (ty : TypeId) :
    ∃ W w4, (Builtin.append_ #[24, 24] 24 #[.slice (some ⟨g, 0, none⟩) k c, .slice (if c = k + 1 then some (⟨g, 0, none⟩ : Addr) else some ⟨g, (k + 1) * 3, none⟩) (ps.length - (k + 1)) (c - (k + 1))]).run Tryz.prog w = .ok (.slice (some ⟨g, 0, none⟩) (ps.length - 1) c) W ∧
      (Builtin.clear_ #[24] ty #[.slice (some ⟨g, (ps.length - 1) * 3, none⟩) 1 (c - (ps.length - 1))]).run Tryz.prog W = .ok (.tuple #[]) w4 ∧ w4.ownsRow base 45 3 (.slice (some ⟨g, 0, none⟩) (ps.length - 1) c) (ps.length - 1) (rowsB (ps.take k ++ ps.drop (k + 1))) ∧ w.grownBy W (some g) ∧ w.grownBy w4 (some g) ∧ ps.length ≤ c ∧ c ≤ 9223372036854775807 := by
  obtain ⟨ii, hi, iz0, iz1, iz2⟩ := info_parts infoBat1
  obtain ⟨hc, hcm⟩ := own_cap2 hrow
  obtain ⟨cur, hcur, hcs⟩ : ∃ cur, w.heap[g]? = some (.cells cur 45 (0, 0)) ∧ cur.size = c * 3 := by
    rcases hrow.2 with ⟨h0, _⟩ | ⟨g', cap, cur, h', h1, h2, h3, h4, h5, h6⟩
    · simp at h0
    · obtain ⟨e1, -, rfl⟩ := Value.slice.inj h'
      obtain rfl : g = g' := by simpa using e1
      exact ⟨cur, h2, h5⟩
  have hrow1 := own_take hrow (Nat.le_of_lt hk)
  rw [rowsB_take ps k (by omega)] at hrow1
  obtain ⟨o2, ho2, hq2⟩ : ∃ o2 : Nat, (if c = k + 1 then some (⟨g, 0, none⟩ : Addr) else some ⟨g, (k + 1) * 3, none⟩) = some ⟨g, o2, none⟩ ∧ (ps.length - (k + 1) ≠ 0 → o2 = (k + 1) * 3) := by
    by_cases h7 : c = k + 1
    · exact ⟨0, by rw [if_pos h7], fun h => by omega⟩
    · exact ⟨(k + 1) * 3, by rw [if_neg h7], fun _ => rfl⟩
  have hld : (rowsB (ps.drop (k + 1))).length = (ps.length - (k + 1)) * 3 := by rw [rowsB_length, List.length_drop]
  have hsrc : ∀ (j : Nat) (u : Value), (rowsB (ps.drop (k + 1)))[j]? = some u → w.cell? ((⟨g, o2, none⟩ : Addr).add j) = some u := fun j u hu => by
    have hj := (List.getElem?_eq_some_iff.1 hu).1
    rw [hq2 (by omega)]
    exact rows_cells hrow (k + 1) (ps.drop (k + 1)) (drop_at ps (k + 1)) j u hu
  have hone2 : ∀ u ∈ rowsB (ps.drop (k + 1)), u.oneCell' = true := fun u hu => hone u (by
    rw [← List.take_append_drop (k + 1) ps, rowsB_append]
    exact List.mem_append_right _ hu)
  have hrm := run_append_room (P := Tryz.prog) w 24 24 45 ii Tryz.underlying24 hi g k c cur hcur ⟨g, o2, none⟩ (ps.length - (k + 1)) (c - (k + 1)) (rowsB (ps.drop (k + 1))) (by rw [iz1]; exact hld) hsrc hone2 (by omega) (by rw [iz1, hld, hcs]; omega)
  obtain ⟨v3, w3, hr3, hown3, hg3, -⟩ := run_append_own (P := Tryz.prog) w base 24 24 45 ii _ 3 64 Tryz.underlying24 hi iz0 iz1 iz2 rfl (by decide) _ k _ hrow1 ⟨g, o2, none⟩ (ps.length - (k + 1)) (c - (k + 1)) (rowsB (ps.drop (k + 1))) hld hsrc hone2 (by unfold maxLen; omega) (by omega) (by have := (hrow.lt g rfl); omega)
  obtain ⟨rfl, rfl⟩ : v3 = _ ∧ w3 = _ := by
    rw [hrm] at hr3
    injection hr3 with e1 e2
    exact ⟨e1.symm, e2.symm⟩
  rw [← rowsB_append] at hown3
  have hlen : k + (ps.length - (k + 1)) = ps.length - 1 := by omega
  rw [hlen] at hown3 hrm
  generalize w.setRow g _ = W at *
  obtain ⟨w4, hr4, hown4, hg4⟩ := run_clear1 hown3 (by omega) (c - (ps.length - 1)) ty
  rw [ho2]
  exact ⟨W, w4, hrm, hr4, hown4, hg3, grown_trans hg3 hg4, by omega, by unfold maxLen at hcm; omega⟩
set_option maxRecDepth 20000 in
set_option maxHeartbeats 2000000 in
theorem delete_any (ps : List Bv) (k g c base : Nat) (w : World) (hk : k < ps.length) (hn : ps.length ≤ 100) (hrow : w.ownsRow base 45 3 (.slice (some ⟨g, 0, none⟩) ps.length c) ps.length (rowsB ps)) (hone : ∀ u ∈ rowsB ps, u.oneCell' = true) :
    Calls Tryz.prog 63 #[.slice (some ⟨g, 0, none⟩) ps.length c, .int .i64 k, .int .i64 ((k : Int) + 1)] w
      fun e w' => e = .returned (.slice (some ⟨g, 0, none⟩) (ps.length - 1) c) ∧ w'.ownsRow base 45 3 (.slice (some ⟨g, 0, none⟩) (ps.length - 1) c) (ps.length - 1) (rowsB (ps.take k ++ ps.drop (k + 1))) ∧ w.grownBy w' (some g) := by
  obtain ⟨W, w4, hr3, hr4, hown4, hG3, hG, hc, hcm⟩ := delete_runs ps k g c base w.drew hk hn hrow hone 0
  replace hG : w.grownBy w4 (some g) := grown_trans (grown_drew (grown_refl w _)) hG
  go_enter Tryz.func63, Tryz.ntmps63
  go_wp2_with fail
  have hS1 : Below 0 w w.drew := (Below.refl _ _).drew
  have hS2 : Below 0 w W := below_ownB hS1 (Nat.zero_le _) (b := w.drew) hrow hG3 (Nat.zero_le _)
  have hpc : k ≤ c := by omega
  have hp1 : k + 1 ≤ ps.length := hk
  have hw2 : (k : Int) + 1 ≤ (ps.length : Int) := by omega
  have hw3 : 0 ≤ (k : Int) + 1 := by omega
  have hw4 : ¬ (ps.length : Int) < (k : Int) + 1 := by omega
  refine wp_region_x 99 (fun w' => Below 0 w w') (by kernel_rfl) ?_
  refine anyX_take (i := 0) (v := ?_) rfl (by kernel_rfl) (by kernel_rfl) (by kernel_rfl) (by kernel_rfl) (fun _ _ _ h => h) (by kernel_rfl) hS1 ?_ ?_; rotate_left; focus (intro w hSw; (try dsimp only at hSw); go_simp; try with_reducible rfl); (try simp only [Act.put, List.setIfInBounds_toArray, List.set_cons_zero, List.set_cons_succ])
  refine anyX_take (i := 1) (v := ?_) rfl (by kernel_rfl) (by kernel_rfl) (by kernel_rfl) (by kernel_rfl) (fun _ _ _ h => h) (by kernel_rfl) hS1 ?_ ?_; rotate_left; focus (intro w hSw; (try dsimp only at hSw); go_simp; try with_reducible rfl); (try simp only [Act.put, List.setIfInBounds_toArray, List.set_cons_zero, List.set_cons_succ])
  refine anyX_take (i := 2) (v := ?_) rfl (by kernel_rfl) (by kernel_rfl) (by kernel_rfl) (by kernel_rfl) (fun _ _ _ h => h) (by kernel_rfl) hS1 ?_ ?_; rotate_left; focus (intro w hSw; (try dsimp only at hSw); go_simp; try with_reducible rfl); (try simp only [Act.put, List.setIfInBounds_toArray, List.set_cons_zero, List.set_cons_succ])
  refine anyX_take (i := 3) (v := ?_) rfl (by kernel_rfl) (by kernel_rfl) (by kernel_rfl) (by kernel_rfl) (fun _ _ _ h => h) (by kernel_rfl) hS1 ?_ ?_; rotate_left; focus (intro w hSw; (try dsimp only at hSw); go_simp; try with_reducible rfl); (try simp only [Act.put, List.setIfInBounds_toArray, List.set_cons_zero, List.set_cons_succ])
  refine anyX_take (i := 4) (v := ?_) rfl (by kernel_rfl) (by kernel_rfl) (by kernel_rfl) (by kernel_rfl) (fun _ _ _ h => h) (by kernel_rfl) hS1 ?_ ?_; rotate_left; focus (intro w hSw; (try dsimp only at hSw); go_simp; try with_reducible rfl); (try simp only [Act.put, List.setIfInBounds_toArray, List.set_cons_zero, List.set_cons_succ])
  refine anyX_take (i := 5) (v := ?_) rfl (by kernel_rfl) (by kernel_rfl) (by kernel_rfl) (by kernel_rfl) (fun _ _ _ h => h) (by kernel_rfl) hS1 ?_ ?_; rotate_left; focus (intro w hSw; (try dsimp only at hSw); go_simp; try with_reducible rfl); (try simp only [Act.put, List.setIfInBounds_toArray, List.set_cons_zero, List.set_cons_succ])
  refine anyX_one (i := 6) (by kernel_rfl) rfl (fun K hK => ?_)
  refine step_append_run rfl _ _ _ _ rfl _ _ _ _ rfl rfl hr3 ?_
  refine hK.out _ _ (fun _ => hS2) ?_; clear hK K; (try simp only [Act.put, List.setIfInBounds_toArray])
  refine anyX_one (i := 7) (by kernel_rfl) rfl (fun K hK => ?_)
  go_simp
  refine hK.out _ _ (fun _ => hS2) ?_
  clear hK K
  refine anyX_done (by kernel_rfl) ?_ _
  have hm1 : ps.length - 1 < ps.length := by omega
  have hm2 : ps.length - 1 ≤ ps.length := by omega
  have hm3 : ps.length - (ps.length - 1) = 1 := by omega
  have hm4 : ¬ c = ps.length - 1 := by omega
  have hm5 : ((ps.length - 1 : Nat) : Int) ≤ (ps.length : Int) := by omega
  go_wp2_with (at_builtin; refine wpList_clear_run _ rfl _ _ rfl _ _ _ rfl hr4 ?_)
  all_goals
    go_ret
    first
      | exact ⟨rfl, hown4, hG⟩
      | (subst h; exact ⟨rfl, hown4, hG⟩)
end Go.Proofs.YtkgbdjdgcacblaaGreatDoor
