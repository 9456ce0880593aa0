/- The program's chapter 13: a batch put into a row (slices.Insert) where there is no room. -/
import Derived.Test.YtialglmnfchfmadGreatDoorKrm
import Derived.Lib.AppendZerosOnto
namespace Go.Proofs.YtialglmnfchfmadGreatDoor
open Go.RowKit Go.Shelf Go.Lib

theorem ins_rows2 (ps : List Bv) (p : Bv) (k : Nat) (Z : List Value) (hk : k < ps.length) (hz : Z.length = (ps.length + 1 - k) * 3) :
    let xs := rowsB (ps.take k) ++ Z
    let xs2 := xs.take (k * 3) ++ rowB p ++ xs.drop (k * 3 + (rowB p).length)
    xs2.take ((k + 1) * 3) ++ rowsB (ps.drop k) ++ xs2.drop ((k + 1) * 3 + (rowsB (ps.drop k)).length) = rowsB (ps.take k ++ p :: ps.drop k) := by
  intro xs xs2
  have h1 : (rowsB (ps.take k)).length = k * 3 := by rw [rowsB_length, List.length_take]; omega
  have h2 : (rowsB (ps.drop k)).length = (ps.length - k) * 3 := by rw [rowsB_length, List.length_drop]
  have hb : (rowB p).length = 3 := rfl
  have h3 : xs.take (k * 3) = rowsB (ps.take k) := List.take_left' h1
  have hxl : xs.length = (ps.length + 1) * 3 := by show (rowsB (ps.take k) ++ Z).length = _; rw [List.length_append, h1, hz]; omega
  have h4 : (rowsB (ps.take k) ++ rowB p).length = (k + 1) * 3 := by rw [List.length_append, h1, hb]; omega
  have h5 : xs2.take ((k + 1) * 3) = rowsB (ps.take k) ++ rowB p := by
    show (xs.take (k * 3) ++ rowB p ++ _).take _ = _
    rw [h3]; exact List.take_left' h4
  have h6 : xs2.drop ((k + 1) * 3 + (rowsB (ps.drop k)).length) = [] := List.drop_eq_nil_of_le (by
    show (xs.take (k * 3) ++ rowB p ++ xs.drop (k * 3 + (rowB p).length)).length ≤ _
    rw [List.length_append, h3, h4, List.length_drop, hxl, hb, h2]; omega)
  rw [h5, h6, rowsB_append]
  simp [rowsB]
set_option maxHeartbeats 2000000 in
theorem insert_runs2 (ps : List Bv) (p : Bv) (k g c base vb : Nat) (w : World) (hk : k < ps.length) (hn : ps.length ≤ 100) (hroom : c < ps.length + 1) (hrow : w.ownsRow base 45 3 (.slice (some ⟨g, 0, none⟩) ps.length c) ps.length (rowsB ps)) (hone : ∀ u ∈ rowsB ps, u.oneCell' = true) (hB : NewB w vb p) (hop : ∀ u ∈ rowB p, u.oneCell' = true) (hz : base ≤ w.heap.size) :
    ∃ G W1 W2 w', (∀ ty, (Builtin.append_ #[28, 3] ty #[.slice (some ⟨g, 0, none⟩) k c, .int .i64 ((ps.length : Int) + 1 - (k : Int))]).run Tryz.prog w = .ok (.slice (some ⟨w.heap.size, 0, none⟩) (ps.length + 1) G) W1) ∧
      (∀ ty dc, (Builtin.copy_ #[28, 28] ty #[.slice (some ⟨w.heap.size, k * 3, none⟩) (ps.length + 1 - k) dc, .slice (some ⟨vb, 0, none⟩) 1 1]).run Tryz.prog W1 = .ok (goInt ((1 : Nat) : Int)) W2) ∧
      (∀ ty dc sc, (Builtin.copy_ #[28, 28] ty #[.slice (some ⟨w.heap.size, (k + 1) * 3, none⟩) (ps.length - k) dc, .slice (some ⟨g, k * 3, none⟩) (ps.length - k) sc]).run Tryz.prog W2.drew = .ok (goInt ((ps.length - k : Nat) : Int)) w') ∧
      w'.ownsRow base 45 3 (.slice (some ⟨w.heap.size, 0, none⟩) (ps.length + 1) G) (ps.length + 1) (rowsB (ps.take k ++ p :: ps.drop k)) ∧ Below w.heap.size w W2 ∧ Below w.heap.size w w' ∧ ps.length + 1 ≤ G ∧ G ≤ 9223372036854775807 ∧ c = ps.length := by
  obtain ⟨ii, hi, iz0, iz1, iz2⟩ := info_parts infoBat1
  have hsz : (Tryz.prog.info? 45).map (·.size) = some 3 := by kernel_rfl
  obtain ⟨hcn, hcm⟩ := own_cap2 hrow
  obtain rfl : c = ps.length := by omega
  have hgl := (hrow.lt g rfl).2
  have hl1 : (rowsB (ps.take k)).length = k * 3 := by rw [rowsB_length, List.length_take]; omega
  have hld : (rowsB (ps.drop k)).length = (ps.length - k) * 3 := by rw [rowsB_length, List.length_drop]
  have hold : (Builtin.firstCells ii.size k (.slice (some ⟨g, 0, none⟩) k ps.length)).run Tryz.prog w.drew = .ok (rowsB (ps.take k)).toArray w.drew := by
    rw [iz1]
    exact run_firstCells_some w.drew 3 k ⟨g, 0, none⟩ k ps.length (rowsB (ps.take k)) hl1 (by
      have h := rows_cells hrow 0 (ps.take k) (take_at ps k)
      intro j v hj
      have h2 := h j v hj
      simpa using h2)
  have hG1 := grownCap_ge w (ps.length + 1) ps.length 45
  have hG2 := grownCap_le_maxLen w (ps.length + 1) ps.length 45 (by unfold maxLen; omega)
  have hkk : (ps.length : Int) + 1 - (k : Int) = ((ps.length + 1 - k : Nat) : Int) := by omega
  have hsum : k + (ps.length + 1 - k) = ps.length + 1 := by omega
  obtain ⟨z, hz0⟩ : ∃ z : Value, z = .agg #[.string ⟨#[]⟩, .slice none 0 0, .slice none 0 0] := ⟨_, rfl⟩
  have hzc : z.cells.size = 3 := by rw [hz0]; rfl
  have hap : ∀ ty, (Builtin.append_ #[28, 3] ty #[.slice (some ⟨g, 0, none⟩) k ps.length, .int .i64 ((ps.length : Int) + 1 - (k : Int))]).run Tryz.prog w =
      .ok (.slice (some ⟨w.heap.size, 0, none⟩) (ps.length + 1) (grownCap w (ps.length + 1) ps.length 45)) (w.drew.alloc (.cells ((rowsB (ps.take k)).toArray ++ Builtin.zeroCells z.cells (ps.length + 1 - k) ++ Builtin.zeroCells z.cells (grownCap w (ps.length + 1) ps.length 45 - (ps.length + 1))) 45)) := fun ty => by
    have h := Lib.run_append_grow_zeros (P := Tryz.prog) w 28 3 ty 45 ii z .i64 .i64 Tryz.underlying28 Tryz.underlying3 hi (by rw [hz0]; exact iz0) (some ⟨g, 0, none⟩) k ps.length (rowsB (ps.take k)) hold (ps.length + 1 - k) (by omega) (by rw [iz1]; omega) (by omega) (by omega) (by rw [iz2]; omega) (by rw [iz2, hsum]; exact growslice_fits (by omega) (by omega))
    rw [hsum] at h
    rw [hkk]
    exact h
  generalize grownCap w (ps.length + 1) ps.length 45 = G at *
  obtain ⟨Z, hZ⟩ : ∃ Z, Z = (Builtin.zeroCells z.cells (ps.length + 1 - k)).toList := ⟨_, rfl⟩
  have hZl : Z.length = (ps.length + 1 - k) * 3 := by rw [hZ, Array.length_toList, size_zeroCells, hzc]
  have hrow1 : (w.drew.alloc (.cells ((rowsB (ps.take k)).toArray ++ Builtin.zeroCells z.cells (ps.length + 1 - k) ++ Builtin.zeroCells z.cells (G - (ps.length + 1))) 45)).ownsRow w.heap.size 45 3 (.slice (some ⟨w.heap.size, 0, none⟩) (ps.length + 1) G) (ps.length + 1) (rowsB (ps.take k) ++ Z) := by
    refine ⟨by rw [List.length_append, hl1, hZl]; omega, .inr ⟨_, _, _, rfl, Nat.le_refl _, heap_alloc_new _ _, hG1, hG2, ?_, ?_⟩⟩
    · rw [Array.size_append, Array.size_append, size_zeroCells, size_zeroCells, hzc]
      simp only [List.size_toArray, hl1]
      omega
    · rw [Array.toList_append, Array.toList_append, List.toList_toArray, ← hZ]
      exact List.take_left' (by rw [List.length_append, hl1, hZl]; omega)
  have hbW : Below w.heap.size w (w.drew.alloc (.cells ((rowsB (ps.take k)).toArray ++ Builtin.zeroCells z.cells (ps.length + 1 - k) ++ Builtin.zeroCells z.cells (G - (ps.length + 1))) 45)) := (Below.refl _ _).drew.alloc (by simp) _
  generalize w.drew.alloc (.cells ((rowsB (ps.take k)).toArray ++ Builtin.zeroCells z.cells (ps.length + 1 - k) ++ Builtin.zeroCells z.cells (G - (ps.length + 1))) 45) = W1 at *
  have hvl : vb < w.heap.size := (Array.getElem?_eq_some_iff.1 (show w.heap[vb]? = _ from hB)).1
  have hB1 : NewB W1 vb p := by unfold NewB; rw [hbW.block vb hvl]; exact hB
  have hxl : (rowsB (ps.take k) ++ Z).length = (ps.length + 1) * 3 := hrow1.1
  have hbp : (rowB p).length = 3 := rfl
  obtain ⟨t1, t2⟩ := own_splice (rowB p) (k * 3) W1 (rowsB (ps.take k) ++ Z) hrow1 (by rw [hxl, hbp]; omega)
  have hxl2 := t1.1
  have t1d : (W1.setCells w.heap.size (k * 3) (rowB p)).drew.ownsRow w.heap.size 45 3 (.slice (some ⟨w.heap.size, 0, none⟩) (ps.length + 1) G) (ps.length + 1) _ := t1
  obtain ⟨s1, s2⟩ := own_splice (rowsB (ps.drop k)) ((k + 1) * 3) (W1.setCells w.heap.size (k * 3) (rowB p)).drew _ t1d (by rw [hxl2, hld]; omega)
  rw [ins_rows2 ps p k Z hk hZl] at s1
  have hb2 : Below w.heap.size w (W1.setCells w.heap.size (k * 3) (rowB p)) := below_own hbW hrow1 t2 (Nat.le_refl _)
  have hb3 := below_own (W := (W1.setCells w.heap.size (k * 3) (rowB p)).drew) hb2.drew t1d s2 (Nat.le_refl _)
  have hrow2 : (W1.setCells w.heap.size (k * 3) (rowB p)).drew.ownsRow base 45 3 (.slice (some ⟨g, 0, none⟩) ps.length ps.length) ps.length (rowsB ps) := own_up hrow hb2.drew
  refine ⟨G, W1, _, _, hap, fun ty dc => ?_, fun ty dc sc => ?_, own_low s1 hz, hb2, hb3, hG1, by unfold maxLen at hG2; omega, rfl⟩
  · have h := run_copyN (P := Tryz.prog) W1 28 28 ty 45 3 w.heap.size (k * 3) (ps.length + 1 - k) dc ⟨vb, 0, none⟩ 1 1 (rowB p) Tryz.underlying28 hsz (by rw [show Nat.min 1 (ps.length + 1 - k) = 1 from Nat.min_eq_left (by omega)]; rfl)
      hB1.cell (fun j hj => ?_) (fun j hj => hrow1.frozenAt _) hop
    · rw [h, show Nat.min 1 (ps.length + 1 - k) = 1 from Nat.min_eq_left (by omega)]
    · have hj3 : j < 3 := hj
      rw [hrow1.cellAt _ (by omega), List.getElem?_eq_getElem (by rw [hxl]; omega)]; rfl
  · have h := run_copyN (P := Tryz.prog) (W1.setCells w.heap.size (k * 3) (rowB p)).drew 28 28 ty 45 3 w.heap.size ((k + 1) * 3) (ps.length - k) dc ⟨g, k * 3, none⟩ (ps.length - k) sc (rowsB (ps.drop k)) Tryz.underlying28 hsz (by rw [hld, show Nat.min (ps.length - k) (ps.length - k) = ps.length - k from Nat.min_self _])
      (rows_cells hrow2 k (ps.drop k) (drop_at ps k)) (fun j hj => ?_) (fun j hj => t1d.frozenAt _) (fun u hu => hone u (by
        rw [← List.take_append_drop k ps, rowsB_append]
        exact List.mem_append_right _ hu))
    · rw [h, show Nat.min (ps.length - k) (ps.length - k) = ps.length - k from Nat.min_self _]
    · rw [t1d.cellAt _ (by rw [hld] at hj; omega), List.getElem?_eq_getElem (by rw [hxl2]; rw [hld] at hj; omega)]; rfl
set_option maxRecDepth 20000 in
set_option maxHeartbeats 4000000 in
theorem insert_grow (ps : List Bv) (p : Bv) (k g c base vb : Nat) (w : World) (hk : k < ps.length) (hn : ps.length ≤ 100) (hroom : c < ps.length + 1) (hrow : w.ownsRow base 45 3 (.slice (some ⟨g, 0, none⟩) ps.length c) ps.length (rowsB ps)) (hone : ∀ u ∈ rowsB ps, u.oneCell' = true) (hB : NewB w vb p) (hop : ∀ u ∈ rowB p, u.oneCell' = true) (hz : base ≤ w.heap.size) :
    Calls Tryz.prog 59 #[(.slice (some ⟨g, 0, none⟩) ps.length c), .int .i64 k, .slice (some ⟨vb, 0, none⟩) 1 1] w
      fun e w' => ∃ u, e = .returned u ∧ w'.ownsRow base 45 3 u (ps.length + 1) (rowsB (ps.take k ++ p :: ps.drop k)) ∧ Below w.heap.size w w' ∧ ∀ g', u.ownBlock = some g' → w.heap.size ≤ g' := by
  obtain ⟨G, W1, W2, w4, hap, hc1, hc2, hown, hb2, hb4, hG1, hG2, rfl⟩ := insert_runs2 ps p k g c base vb w hk hn hroom hrow hone hB hop hz
  have hS2 : Below w.heap.size w W2.drew := hb2.drew
  have hq1 : ¬ ((k : Int) = (ps.length : Int)) := by omega
  have hq2 : ¬ (G = k + 1) := by omega
  have hq3 : ¬ (G = k) := by omega
  have hq4 : ¬ (ps.length = k) := by omega
  have hq5 : k ≤ ps.length := by omega
  have hq6 : (k : Int) ≤ (ps.length : Int) := by omega
  have hq7 : (ps.length : Int) < (ps.length : Int) + 1 := by omega
  have hw1 : IntKind.i64.wrap ((k : Int) + 1) = (k : Int) + 1 := by rw [IntKind.wrap_i64]; omega
  have hw3 : 0 ≤ (k : Int) + 1 := by omega
  have hw4 : (k : Int) + 1 ≤ (ps.length : Int) + 1 := by omega
  have hw5 : (k : Int) ≤ (ps.length : Int) + 1 := by omega
  have hn1 : ((k : Int) + 1).toNat = k + 1 := by omega
  have hb9 : ((ps.length + 1 : Nat) : Int) = (ps.length : Int) + 1 := by omega
  clear hrow hone hB hop hroom
  go_enter Tryz.func59, Tryz.ntmps59
  go_wp2_with (first
    | (at_builtin; refine wpList_append_run _ rfl _ _ _ _ rfl _ _ _ _ rfl rfl (hap _) ?_)
    | (at_builtin; refine wpList_copy_runI _ rfl _ _ 28 28 rfl _ _ rfl rfl (hc1 _ _) ?_))
  refine wp_region_x 99 (fun w' => Below w.heap.size w w') (by kernel_rfl) ?_
  refine anyX_take (i := 0) (v := ?_) rfl (by kernel_rfl) (by kernel_rfl) (by kernel_rfl) (by kernel_rfl) (fun _ _ _ h => h) (by rfl) hS2 ?_ ?_; rotate_left; focus (intro w hSw; (try dsimp only at hSw); go_simp; try with_reducible rfl); (try simp only [Act.put, List.setIfInBounds_toArray, List.set_cons_zero, List.set_cons_succ])
  refine anyX_take (i := 1) (v := ?_) rfl (by kernel_rfl) (by kernel_rfl) (by kernel_rfl) (by kernel_rfl) (fun _ _ _ h => h) (by rfl) hS2 ?_ ?_; rotate_left; focus (intro w hSw; (try dsimp only at hSw); go_simp; try with_reducible rfl); (try simp only [Act.put, List.setIfInBounds_toArray, List.set_cons_zero, List.set_cons_succ])
  refine anyX_take (i := 2) (v := ?_) rfl (by kernel_rfl) (by kernel_rfl) (by kernel_rfl) (by kernel_rfl) (fun _ _ _ h => h) (by rfl) hS2 ?_ ?_; rotate_left; focus (intro w hSw; (try dsimp only at hSw); go_simp; try with_reducible rfl); (try simp only [Act.put, List.setIfInBounds_toArray, List.set_cons_zero, List.set_cons_succ])
  refine anyX_take (i := 3) (v := ?_) rfl (by kernel_rfl) (by kernel_rfl) (by kernel_rfl) (by kernel_rfl) (fun _ _ _ h => h) (by rfl) hS2 ?_ ?_; rotate_left; focus (intro w hSw; (try dsimp only at hSw); go_simp; try with_reducible rfl); (try simp only [Act.put, List.setIfInBounds_toArray, List.set_cons_zero, List.set_cons_succ])
  refine anyX_take (i := 4) (v := ?_) rfl (by kernel_rfl) (by kernel_rfl) (by kernel_rfl) (by kernel_rfl) (fun _ _ _ h => h) (by rfl) hS2 ?_ ?_; rotate_left; focus (intro w hSw; (try dsimp only at hSw); go_simp; try with_reducible rfl); (try simp only [Act.put, List.setIfInBounds_toArray, List.set_cons_zero, List.set_cons_succ])
  refine anyX_take (i := 5) (v := ?_) rfl (by kernel_rfl) (by kernel_rfl) (by kernel_rfl) (by kernel_rfl) (fun _ _ _ h => h) (by rfl) hS2 ?_ ?_; rotate_left; focus (intro w hSw; (try dsimp only at hSw); go_simp; try with_reducible rfl); (try simp only [Act.put, List.setIfInBounds_toArray, List.set_cons_zero, List.set_cons_succ])
  refine anyX_take (i := 6) (v := ?_) rfl (by kernel_rfl) (by kernel_rfl) (by kernel_rfl) (by kernel_rfl) (fun _ _ _ h => h) (by rfl) hS2 ?_ ?_; rotate_left; focus (intro w hSw; (try dsimp only at hSw); go_simp; try with_reducible rfl); (try simp only [Act.put, List.setIfInBounds_toArray, List.set_cons_zero, List.set_cons_succ])
  refine anyX_take (i := 7) (v := ?_) rfl (by kernel_rfl) (by kernel_rfl) (by kernel_rfl) (by kernel_rfl) (fun _ _ _ h => h) (by rfl) hS2 ?_ ?_; rotate_left; focus (intro w hSw; (try dsimp only at hSw); go_simp; try with_reducible rfl); (try simp only [Act.put, List.setIfInBounds_toArray, List.set_cons_zero, List.set_cons_succ])
  refine anyX_one (i := 8) (by kernel_rfl) rfl (fun K hK => ?_)
  refine step_copy_runI rfl _ _ 28 28 rfl (.slice (some ⟨w.heap.size, (k + 1) * 3, none⟩) (ps.length - k) (G - (k + 1))) (.slice (some ⟨g, k * 3, none⟩) (ps.length - k) (ps.length - k)) (by simp [Act.eval, Act.put]) (by simp [Act.eval, Act.put]) (hc2 _ _ _) ?_
  refine hK.out _ _ (fun _ => hb4) ?_; clear hK K; (try simp only [Act.put, List.setIfInBounds_toArray])
  refine anyX_done (by kernel_rfl) ?_ _
  go_wp2_with fail
  go_ret
  exact ⟨_, rfl, hown, hb4, fun g' hg' => by simp [Value.ownBlock] at hg'; omega⟩
end Go.Proofs.YtialglmnfchfmadGreatDoor
