/- The program's chapter 13: a batch put into a row (slices.Insert) where there is no room. -/
import Derived.Test.YtkgbdjdgcacblaaGreatDoorJ45
import Derived.Lib.AppendZerosOnto
import Derived.Test.YtkgbdjdgcacblaaGreatDoorJ12
import Derived.Test.YtkgbdjdgcacblaaGreatDoorJ0
namespace Go.Proofs.YtkgbdjdgcacblaaGreatDoor
open Go.RowKit Go.Shelf Go.Lib

theorem ins_rows2 (ps : List Bv) (p : Bv) (k : Nat) (Z : List Value) (hk : k < ps.length) (hz : Z.length = (ps.length + 1 - k) * 3) :
    let xs := rowsB (ps.take k) ++ Z
    let xs2 := xs.take (k * 3) ++ rowB p ++ xs.drop (k * 3 + (rowB p).length)
    xs2.take ((k + 1) * 3) ++ rowsB (ps.drop k) ++ xs2.drop ((k + 1) * 3 + (rowsB (ps.drop k)).length) = rowsB (ps.take k ++ p :: ps.drop k) := by
  intro xs xs2
  have h1 : (rowsB (ps.take k)).length = k * 3 := by rw [rowsB_length, List.length_take]; omega
  have h2 : (rowsB (ps.drop k)).length = (ps.length - k) * 3 := by rw [rowsB_length, List.length_drop]
  have hb : (rowB p).length = 3 := rfl
  have h3 : xs.take (k * 3) = rowsB (ps.take k) := List.take_left' h1
  have hxl : xs.length = (ps.length + 1) * 3 := by show (rowsB (ps.take k) ++ Z).length = _; rw [List.length_append, h1, hz]; omega
  have h4 : (rowsB (ps.take k) ++ rowB p).length = (k + 1) * 3 := by rw [List.length_append, h1, hb]; omega
  have h5 : xs2.take ((k + 1) * 3) = rowsB (ps.take k) ++ rowB p := by
    show (xs.take (k * 3) ++ rowB p ++ _).take _ = _
    rw [h3]; exact List.take_left' h4
  have h6 : xs2.drop ((k + 1) * 3 + (rowsB (ps.drop k)).length) = [] := List.drop_eq_nil_of_le (by
    show (xs.take (k * 3) ++ rowB p ++ xs.drop (k * 3 + (rowB p).length)).length ≤ _
    rw [List.length_append, h3, h4, List.length_drop, hxl, hb, h2]; omega)
  rw [h5, h6, rowsB_append]
  simp [rowsB]
set_option maxHeartbeats 2000000 in
theorem insert_runs2 (ps : List Bv) (p : Bv) (k g c base vb : Nat) (w : World) (hk : k < ps.length) (hn : ps.length ≤ 100) (hroom : c < ps.length + 1) (hrow : w.ownsRow base 45 3 (.slice (some ⟨g, 0, none⟩) ps.length c) ps.length (rowsB ps)) (hone : ∀ u ∈ rowsB ps, u.oneCell' = true) (hB : NewB w vb p) (hop : ∀ u ∈ rowB p, u.oneCell' = true) (hz : base ≤ w.heap.size) :
    ∃ G W1 W2 w', (∀ ty, (Builtin.append_ #[24, 3] ty #[.slice (some ⟨g, 0, none⟩) k c, .int .i64 ((ps.length : Int) + 1 - (k : Int))]).run Tryz.prog w = .ok (.slice (some ⟨w.heap.size, 0, none⟩) (ps.length + 1) G) W1) ∧
      (∀ ty dc, (Builtin.copy_ #[24, 24] ty #[.slice (some ⟨w.heap.size, k * 3, none⟩) (ps.length + 1 - k) dc, .slice (some ⟨vb, 0, none⟩) 1 1]).run Tryz.prog W1 = .ok (goInt ((1 : Nat) : Int)) W2) ∧
      (∀ ty dc sc, (Builtin.copy_ #[24, 24] ty #[.slice (some ⟨w.heap.size, (k + 1) * 3, none⟩) (ps.length - k) dc, .slice (some ⟨g, k * 3, none⟩) (ps.length - k) sc]).run Tryz.prog W2.drew = .ok (goInt ((ps.length - k : Nat) : Int)) w') ∧
      w'.ownsRow base 45 3 (.slice (some ⟨w.heap.size, 0, none⟩) (ps.length + 1) G) (ps.length + 1) (rowsB (ps.take k ++ p :: ps.drop k)) ∧ Below w.heap.size w W2 ∧ Below w.heap.size w w' ∧ ps.length + 1 ≤ G ∧ G ≤ 9223372036854775807 ∧ c = ps.length := by
  obtain ⟨ii, hi, iz0, iz1, iz2⟩ := info_parts infoBat1
  have hsz : (Tryz.prog.info? 45).map (·.size) = some 3 := by kernel_rfl
  obtain ⟨hcn, hcm⟩ := own_cap2 hrow
  obtain rfl : c = ps.length := by omega
  have hgl := (hrow.lt g rfl).2
  have hl1 : (rowsB (ps.take k)).length = k * 3 := by rw [rowsB_length, List.length_take]; omega
  have hld : (rowsB (ps.drop k)).length = (ps.length - k) * 3 := by rw [rowsB_length, List.length_drop]
  have hold : (Builtin.firstCells ii.size k (.slice (some ⟨g, 0, none⟩) k ps.length)).run Tryz.prog w.drew = .ok (rowsB (ps.take k)).toArray w.drew := by
    rw [iz1]
    exact run_firstCells_some w.drew 3 k ⟨g, 0, none⟩ k ps.length (rowsB (ps.take k)) hl1 (by
      have h := rows_cells hrow 0 (ps.take k) (take_at ps k)
      intro j v hj
      have h2 := h j v hj
      simpa using h2)
  have hG1 := grownCap_ge w (ps.length + 1) ps.length 45
  have hG2 := grownCap_le_maxLen w (ps.length + 1) ps.length 45 (by unfold maxLen; omega)
  have hkk : (ps.length : Int) + 1 - (k : Int) = ((ps.length + 1 - k : Nat) : Int) := by omega
  have hsum : k + (ps.length + 1 - k) = ps.length + 1 := by omega
  obtain ⟨z, hz0⟩ : ∃ z : Value, z = .agg #[.string ⟨#[]⟩, .slice none 0 0, .slice none 0 0] := ⟨_, rfl⟩
  have hzc : z.cells.size = 3 := by rw [hz0]; rfl
  have hap : ∀ ty, (Builtin.append_ #[24, 3] ty #[.slice (some ⟨g, 0, none⟩) k ps.length, .int .i64 ((ps.length : Int) + 1 - (k : Int))]).run Tryz.prog w =
      .ok (.slice (some ⟨w.heap.size, 0, none⟩) (ps.length + 1) (grownCap w (ps.length + 1) ps.length 45)) (w.drew.alloc (.cells ((rowsB (ps.take k)).toArray ++ Builtin.zeroCells z.cells (ps.length + 1 - k) ++ Builtin.zeroCells z.cells (grownCap w (ps.length + 1) ps.length 45 - (ps.length + 1))) 45)) := fun ty => by
    have h := Lib.run_append_grow_zeros (P := Tryz.prog) w 24 3 ty 45 ii z .i64 .i64 Tryz.underlying24 Tryz.underlying3 hi (by rw [hz0]; exact iz0) (some ⟨g, 0, none⟩) k ps.length (rowsB (ps.take k)) hold (ps.length + 1 - k) (by omega) (by rw [iz1]; omega) (by omega) (by omega) (by rw [iz2]; omega) (by rw [iz2, hsum]; exact growslice_fits (by omega) (by omega))
    rw [hsum] at h
    rw [hkk]
    exact h
  generalize grownCap w (ps.length + 1) ps.length 45 = G at *
  obtain ⟨Z, hZ⟩ : ∃ Z, Z = (Builtin.zeroCells z.cells (ps.length + 1 - k)).toList := ⟨_, rfl⟩
  have hZl : Z.length = (ps.length + 1 - k) * 3 := by rw [hZ, Array.length_toList, size_zeroCells, hzc]
  have hrow1 : (w.drew.alloc (.cells ((rowsB (ps.take k)).toArray ++ Builtin.zeroCells z.cells (ps.length + 1 - k) ++ Builtin.zeroCells z.cells (G - (ps.length + 1))) 45)).ownsRow w.heap.size 45 3 (.slice (some ⟨w.heap.size, 0, none⟩) (ps.length + 1) G) (ps.length + 1) (rowsB (ps.take k) ++ Z) := by
    refine ⟨by rw [List.length_append, hl1, hZl]; omega, .inr ⟨_, _, _, rfl, Nat.le_refl _, heap_alloc_new _ _, hG1, hG2, ?_, ?_⟩⟩
    · rw [Array.size_append, Array.size_append, size_zeroCells, size_zeroCells, hzc]
      simp only [List.size_toArray, hl1]
      omega
    · rw [Array.toList_append, Array.toList_append, List.toList_toArray, ← hZ]
      exact List.take_left' (by rw [List.length_append, hl1, hZl]; omega)
  have hbW : Below w.heap.size w (w.drew.alloc (.cells ((rowsB (ps.take k)).toArray ++ Builtin.zeroCells z.cells (ps.length + 1 - k) ++ Builtin.zeroCells z.cells (G - (ps.length + 1))) 45)) := (Below.refl _ _).drew.alloc (by simp) _
  generalize w.drew.alloc (.cells ((rowsB (ps.take k)).toArray ++ Builtin.zeroCells z.cells (ps.length + 1 - k) ++ Builtin.zeroCells z.cells (G - (ps.length + 1))) 45) = W1 at *
  have hvl : vb < w.heap.size := (Array.getElem?_eq_some_iff.1 (show w.heap[vb]? = _ from hB)).1
  have hB1 : NewB W1 vb p := by unfold NewB; rw [hbW.block vb hvl]; exact hB
  have hxl : (rowsB (ps.take k) ++ Z).length = (ps.length + 1) * 3 := hrow1.1
  have hbp : (rowB p).length = 3 := rfl
  obtain ⟨t1, t2⟩ := own_splice (rowB p) (k * 3) W1 (rowsB (ps.take k) ++ Z) hrow1 (by rw [hxl, hbp]; omega)
  have hxl2 := t1.1
  have t1d : (W1.setCells w.heap.size (k * 3) (rowB p)).drew.ownsRow w.heap.size 45 3 (.slice (some ⟨w.heap.size, 0, none⟩) (ps.length + 1) G) (ps.length + 1) _ := t1
  obtain ⟨s1, s2⟩ := own_splice (rowsB (ps.drop k)) ((k + 1) * 3) (W1.setCells w.heap.size (k * 3) (rowB p)).drew _ t1d (by rw [hxl2, hld]; omega)
  rw [ins_rows2 ps p k Z hk hZl] at s1
  have hb2 : Below w.heap.size w (W1.setCells w.heap.size (k * 3) (rowB p)) := below_own hbW hrow1 t2 (Nat.le_refl _)
  have hb3 := below_own (W := (W1.setCells w.heap.size (k * 3) (rowB p)).drew) hb2.drew t1d s2 (Nat.le_refl _)
  have hrow2 : (W1.setCells w.heap.size (k * 3) (rowB p)).drew.ownsRow base 45 3 (.slice (some ⟨g, 0, none⟩) ps.length ps.length) ps.length (rowsB ps) := own_up hrow hb2.drew
  refine ⟨G, W1, _, _, hap, fun ty dc => ?_, fun ty dc sc => ?_, own_low s1 hz, hb2, hb3, hG1, by unfold maxLen at hG2; omega, rfl⟩
  · have h := run_copyN (P := Tryz.prog) W1 24 24 ty 45 3 w.heap.size (k * 3) (ps.length + 1 - k) dc ⟨vb, 0, none⟩ 1 1 (rowB p) Tryz.underlying24 hsz (by rw [show Nat.min 1 (ps.length + 1 - k) = 1 from Nat.min_eq_left (by omega)]; rfl)
      hB1.cell (fun j hj => ?_) (fun j hj => hrow1.frozenAt _) hop
    · rw [h, show Nat.min 1 (ps.length + 1 - k) = 1 from Nat.min_eq_left (by omega)]
    · have hj3 : j < 3 := hj
      rw [hrow1.cellAt _ (by omega), List.getElem?_eq_getElem (by rw [hxl]; omega)]; rfl
  · have h := run_copyN (P := Tryz.prog) (W1.setCells w.heap.size (k * 3) (rowB p)).drew 24 24 ty 45 3 w.heap.size ((k + 1) * 3) (ps.length - k) dc ⟨g, k * 3, none⟩ (ps.length - k) sc (rowsB (ps.drop k)) Tryz.underlying24 hsz (by rw [hld, show Nat.min (ps.length - k) (ps.length - k) = ps.length - k from Nat.min_self _])
      (rows_cells hrow2 k (ps.drop k) (drop_at ps k)) (fun j hj => ?_) (fun j hj => t1d.frozenAt _) (fun u hu => hone u (by
        rw [← List.take_append_drop k ps, rowsB_append]
        exact List.mem_append_right _ hu))
    · rw [h, show Nat.min (ps.length - k) (ps.length - k) = ps.length - k from Nat.min_self _]
    · rw [t1d.cellAt _ (by rw [hld] at hj; omega), List.getElem?_eq_getElem (by rw [hxl2]; rw [hld] at hj; omega)]; rfl
set_option maxRecDepth 20000 in
set_option maxHeartbeats 4000000 in
theorem insert_grow (ps : List Bv) (p : Bv) (k g c base vb : Nat) (w : World) (hk : k < ps.length) (hn : ps.length ≤ 100) (hroom : c < ps.length + 1) (hrow : w.ownsRow base 45 3 (.slice (some ⟨g, 0, none⟩) ps.length c) ps.length (rowsB ps)) (hone : ∀ u ∈ rowsB ps, u.oneCell' = true) (hB : NewB w vb p) (hop : ∀ u ∈ rowB p, u.oneCell' = true) (hz : base ≤ w.heap.size) :
    Calls Tryz.prog 61 #[(.slice (some ⟨g, 0, none⟩) ps.length c), .int .i64 k, .slice (some ⟨vb, 0, none⟩) 1 1] w
      fun e w' => ∃ u, e = .returned u ∧ w'.ownsRow base 45 3 u (ps.length + 1) (rowsB (ps.take k ++ p :: ps.drop k)) ∧ Below w.heap.size w w' ∧ ∀ g', u.ownBlock = some g' → w.heap.size ≤ g' := by
  obtain ⟨G, W1, W2, w4, hap, hc1, hc2, hown, hb2, hb4, hG1, hG2, rfl⟩ := insert_runs2 ps p k g c base vb w hk hn hroom hrow hone hB hop hz
  have hS2 : Below w.heap.size w W2.drew := hb2.drew
  have hq1 : ¬ ((k : Int) = (ps.length : Int)) := by omega
  have hq2 : ¬ (G = k + 1) := by omega
  have hq3 : ¬ (G = k) := by omega
  have hq4 : ¬ (ps.length = k) := by omega
  have hq5 : k ≤ ps.length := by omega
  have hq6 : (k : Int) ≤ (ps.length : Int) := by omega
  have hq7 : (ps.length : Int) < (ps.length : Int) + 1 := by omega
  have hw1 : IntKind.i64.wrap ((k : Int) + 1) = (k : Int) + 1 := by rw [IntKind.wrap_i64]; omega
  have hw3 : 0 ≤ (k : Int) + 1 := by omega
  have hw4 : (k : Int) + 1 ≤ (ps.length : Int) + 1 := by omega
  have hw5 : (k : Int) ≤ (ps.length : Int) + 1 := by omega
  have hn1 : ((k : Int) + 1).toNat = k + 1 := by omega
  have hb9 : ((ps.length + 1 : Nat) : Int) = (ps.length : Int) + 1 := by omega
  clear hrow hone hB hop hroom
  go_enter Tryz.func61, Tryz.ntmps61
  go_wp2_with (first
    | (at_builtin; refine wpList_append_run _ rfl _ _ _ _ rfl _ _ _ _ rfl rfl (hap _) ?_)
    | (at_builtin; refine wpList_copy_runI _ rfl _ _ 24 24 rfl _ _ rfl rfl (hc1 _ _) ?_))
  refine wp_region_x 99 (fun w' => Below w.heap.size w w') (by kernel_rfl) ?_
  refine anyX_take (i := 0) (v := ?_) rfl (by kernel_rfl) (by kernel_rfl) (by kernel_rfl) (by kernel_rfl) (fun _ _ _ h => h) (by rfl) hS2 ?_ ?_; rotate_left; focus (intro w hSw; (try dsimp only at hSw); go_simp; try with_reducible rfl); (try simp only [Act.put, List.setIfInBounds_toArray, List.set_cons_zero, List.set_cons_succ])
  refine anyX_take (i := 1) (v := ?_) rfl (by kernel_rfl) (by kernel_rfl) (by kernel_rfl) (by kernel_rfl) (fun _ _ _ h => h) (by rfl) hS2 ?_ ?_; rotate_left; focus (intro w hSw; (try dsimp only at hSw); go_simp; try with_reducible rfl); (try simp only [Act.put, List.setIfInBounds_toArray, List.set_cons_zero, List.set_cons_succ])
  refine anyX_take (i := 2) (v := ?_) rfl (by kernel_rfl) (by kernel_rfl) (by kernel_rfl) (by kernel_rfl) (fun _ _ _ h => h) (by rfl) hS2 ?_ ?_; rotate_left; focus (intro w hSw; (try dsimp only at hSw); go_simp; try with_reducible rfl); (try simp only [Act.put, List.setIfInBounds_toArray, List.set_cons_zero, List.set_cons_succ])
  refine anyX_take (i := 3) (v := ?_) rfl (by kernel_rfl) (by kernel_rfl) (by kernel_rfl) (by kernel_rfl) (fun _ _ _ h => h) (by rfl) hS2 ?_ ?_; rotate_left; focus (intro w hSw; (try dsimp only at hSw); go_simp; try with_reducible rfl); (try simp only [Act.put, List.setIfInBounds_toArray, List.set_cons_zero, List.set_cons_succ])
  refine anyX_take (i := 4) (v := ?_) rfl (by kernel_rfl) (by kernel_rfl) (by kernel_rfl) (by kernel_rfl) (fun _ _ _ h => h) (by rfl) hS2 ?_ ?_; rotate_left; focus (intro w hSw; (try dsimp only at hSw); go_simp; try with_reducible rfl); (try simp only [Act.put, List.setIfInBounds_toArray, List.set_cons_zero, List.set_cons_succ])
  refine anyX_take (i := 5) (v := ?_) rfl (by kernel_rfl) (by kernel_rfl) (by kernel_rfl) (by kernel_rfl) (fun _ _ _ h => h) (by rfl) hS2 ?_ ?_; rotate_left; focus (intro w hSw; (try dsimp only at hSw); go_simp; try with_reducible rfl); (try simp only [Act.put, List.setIfInBounds_toArray, List.set_cons_zero, List.set_cons_succ])
  refine anyX_take (i := 6) (v := ?_) rfl (by kernel_rfl) (by kernel_rfl) (by kernel_rfl) (by kernel_rfl) (fun _ _ _ h => h) (by rfl) hS2 ?_ ?_; rotate_left; focus (intro w hSw; (try dsimp only at hSw); go_simp; try with_reducible rfl); (try simp only [Act.put, List.setIfInBounds_toArray, List.set_cons_zero, List.set_cons_succ])
  refine anyX_take (i := 7) (v := ?_) rfl (by kernel_rfl) (by kernel_rfl) (by kernel_rfl) (by kernel_rfl) (fun _ _ _ h => h) (by rfl) hS2 ?_ ?_; rotate_left; focus (intro w hSw; (try dsimp only at hSw); go_simp; try with_reducible rfl); (try simp only [Act.put, List.setIfInBounds_toArray, List.set_cons_zero, List.set_cons_succ])
  refine anyX_one (i := 8) (by kernel_rfl) rfl (fun K hK => ?_)
  refine step_copy_runI rfl _ _ 24 24 rfl (.slice (some ⟨w.heap.size, (k + 1) * 3, none⟩) (ps.length - k) (G - (k + 1))) (.slice (some ⟨g, k * 3, none⟩) (ps.length - k) (ps.length - k)) (by simp [Act.eval, Act.put]) (by simp [Act.eval, Act.put]) (hc2 _ _ _) ?_
  refine hK.out _ _ (fun _ => hb4) ?_; clear hK K; (try simp only [Act.put, List.setIfInBounds_toArray])
  refine anyX_done (by kernel_rfl) ?_ _
  go_wp2_with fail
  go_ret
  exact ⟨_, rfl, hown, hb4, fun g' hg' => by simp [Value.ownBlock] at hg'; omega⟩
end Go.Proofs.YtkgbdjdgcacblaaGreatDoor

/- The program's chapter 13: a batch put into a row, by whatever road; why coming in is refused. -/
namespace Go.Proofs.YtkgbdjdgcacblaaGreatDoor
open Go.RowKit

theorem insert_any (ps : List Bv) (p : Bv) (k : Nat) (v : Value) (base vb : Nat) (w : World) (hk : k ≤ ps.length) (hn : ps.length ≤ 100) (hrow : w.ownsRow base 45 3 v ps.length (rowsB ps)) (hone : ∀ u ∈ rowsB ps, u.oneCell' = true) (hB : NewB w vb p) (hop : ∀ u ∈ rowB p, u.oneCell' = true) (hne : v.ownBlock ≠ some vb) (hz : base ≤ w.heap.size) :
    Calls Tryz.prog 61 #[v, .int .i64 k, .slice (some ⟨vb, 0, none⟩) 1 1] w
      fun e w' => ∃ u, e = .returned u ∧ w'.ownsRow base 45 3 u (ps.length + 1) (rowsB (ps.take k ++ p :: ps.drop k)) ∧ w.grownBy w' v.ownBlock ∧ Where w v u := by
  by_cases h0 : k = ps.length
  · subst h0
    rw [List.take_length, List.drop_length]
    exact insert_end ps p v base vb w hn hrow hB hop hz
  · obtain ⟨g, c, rfl⟩ := own_ptr2 hrow (by omega)
    have hne' : vb ≠ g := fun e => hne (by rw [e]; rfl)
    by_cases hr : ps.length + 1 ≤ c
    · refine (insert_room ps p k g c base vb w (by omega) hn hr hrow hone hB hop hne').mono ?_
      rintro e w' ⟨rfl, h1, h2⟩
      exact ⟨_, rfl, h1, h2, fun g' hg' => .inl hg'⟩
    · refine (insert_grow ps p k g c base vb w (by omega) hn (by omega) hrow hone hB hop hz).mono ?_
      rintro e w' ⟨u, rfl, h1, h2, h3⟩
      exact ⟨u, rfl, h1, grown_below h2, fun g' hg' => .inr (h3 g' hg')⟩
/-- What a book that is ok is told of coming in. -/
noncomputable def entR (b : Bk) (nm : ByteArray) (ls : List ByteArray) : Int := if (nameB nm && pB (PartOk ls b.things)) = false then 2 else if memS (nms b.bs) nm = true then 3 else if 5 ≤ b.bs.length then 4 else 0
theorem enter_asked (b : Bk) (nm : ByteArray) (ls : List ByteArray) : askedC b (entR b nm ls) = enterC b nm ls ∧ askedB b (entR b nm ls) ⟨b.things, b.bs.take (inN b nm) ++ ⟨nm, [], ls⟩ :: b.bs.drop (inN b nm)⟩ = enterB b nm ls := by
  cases hb : bookB b
  · exact ⟨by simp [askedC, enterC, hb], by simp [askedB, enterB, hb]⟩
  · have e : enterC b nm ls = entR b nm ls := by simp [enterC, entR, hb]
    exact ⟨by rw [e]; simp [askedC, hb], by unfold enterB; rw [e]; simp [askedB, hb]⟩
set_option maxRecDepth 20000 in
set_option maxHeartbeats 2000000 in
theorem enterRef_any (b : Bk) (v : Value) (nm : ByteArray) (lv : Value) (ls : List ByteArray) (w : World) (h : BkV w v b) (hok : BookOk b) (hl : Ls w lv ls) (hnz : nm.size ≤ maxLen) :
    Calls Tryz.prog 116 #[.agg #[.string nm, lv], v] w fun e w' => e = .returned (refV (entR b nm ls)) ∧ Below w.heap.size w w' := by
  obtain ⟨a1, c1, a2, c2, rfl, ht, -⟩ := h.parts
  obtain ⟨la, lc, rfl, -⟩ := id hl
  have hn5 : b.bs.length ≤ 5 := hok.2.1
  obtain ⟨W1, hW1, kA, kB, hB1, hs1⟩ : ∃ W1, (w.alloc (.cells #[.string nm, .slice la ls.length lc] 58)).alloc (.cells #[.slice a1 (b).things.length c1, .slice a2 (b).bs.length c2] 26) = W1 ∧ CB W1 w.heap.size [.string nm, .slice la ls.length lc] ∧ CB W1 (w.heap.size + 1) [.slice a1 b.things.length c1, .slice a2 b.bs.length c2] ∧ Below w.heap.size w W1 ∧ W1.heap.size = w.heap.size + 2 := ⟨_, rfl, cb2 w _ _ _ _⟩
  go_enter Tryz.func116, Tryz.ntmps116
  go_upto_region 1 with fail
  try rw [hW1]
  clear hW1
  have hk1 := h.up hB1
  have hl1 := hl.up hB1
  have ht1 := ht.up hB1
  obtain ⟨e0, e1⟩ := kA.c2'
  obtain ⟨d0, d1⟩ := kB.c2'
  go_wp2_with fail
  refine (shName_any nm _ hnz).mono ?_
  rintro e w2 ⟨rfl, hB2⟩
  have hz2 := hB2.size
  have kA2 := kA.up hB2 (by omega)
  have kB2 := kB.up hB2 (by omega)
  have hk2 := hk1.up hB2
  have hl2 := hl1.up hB2
  have ht2 := ht1.up hB2
  have hB02 := up_trans hB1 hB2
  clear e0 e1 d0 d1 kA kB hk1 hl1 ht1 hB1 hB2 h hl ht
  cases hnm : nameB nm
  · have HV : Hid (refV (entR b nm ls) = .iface 70 (.agg #[.int .i64 2])) := by show _ = _; simp [entR, hnm, refV]
    go_wp2_with fail
    go_ret
    exact ⟨ret_ref HV.out, hB02⟩
  obtain ⟨e0, e1⟩ := kA2.c2'
  obtain ⟨d0, d1⟩ := kB2.c2'
  go_wp2_with fail
  refine (partOf_any ls b.things _ _ _ hl2 ht2).mono ?_
  rintro e w3 ⟨rfl, hB3⟩
  have hz3 := hB3.size
  have kA3 := kA2.up hB3 (by omega)
  have kB3 := kB2.up hB3 (by omega)
  have hk3 := hk2.up hB3
  have hB03 := up_trans hB02 hB3
  clear e0 e1 d0 d1 kA2 kB2 hk2 hl2 ht2 hB02 hB3
  cases hpt : pB (PartOk ls b.things)
  · have HV : Hid (refV (entR b nm ls) = .iface 70 (.agg #[.int .i64 2])) := by show _ = _; simp [entR, hnm, hpt, refV]
    go_wp2_with fail
    go_ret
    exact ⟨ret_ref HV.out, hB03⟩
  obtain ⟨e0, e1⟩ := kA3.c2'
  obtain ⟨d0, d1⟩ := kB3.c2'
  go_wp2_with fail
  refine (find_any b _ nm _ hk3 hok).mono ?_
  rintro e w4 ⟨rfl, hB4⟩
  have hz4 := hB4.size
  have kB4 := kB3.up hB4 (by omega)
  have hB04 := up_trans hB03 hB4
  clear e0 e1 d0 d1 kA3 kB3 hk3 hB03 hB4
  generalize lowN (nms b.bs) nm = q at *
  cases hm : memS (nms b.bs) nm
  · obtain ⟨d0, d1⟩ := kB4.c2'
    by_cases h5 : b.bs.length = 5
    · have HV : Hid (refV (entR b nm ls) = .iface 70 (.agg #[.int .i64 4])) := by show _ = _; simp [entR, hnm, hpt, hm, h5, refV]
      rw [h5] at d1
      go_wp2_with fail
      go_ret
      exact ⟨ret_ref HV.out, hB04⟩
    · have HV : Hid (refV (entR b nm ls) = .nilIface) := by show _ = _; simp [entR, hnm, hpt, hm, refV]; omega
      have h5' : ¬ ((b.bs.length : Int) = 5) := by omega
      go_wp2_with fail
      go_ret
      exact ⟨ret_ref HV.out, hB04⟩
  · have HV : Hid (refV (entR b nm ls) = .iface 70 (.agg #[.int .i64 3])) := by show _ = _; simp [entR, hnm, hpt, hm, refV]
    go_wp2_with fail
    go_ret
    exact ⟨ret_ref HV.out, hB04⟩
end Go.Proofs.YtkgbdjdgcacblaaGreatDoor
