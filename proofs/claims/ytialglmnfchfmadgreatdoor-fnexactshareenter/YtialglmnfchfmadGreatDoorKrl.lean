/- The program's chapter 13: a batch put into a row (slices.Insert): at its end; where there is room. -/
import Derived.Test.YtialglmnfchfmadGreatDoorKrk
import Derived.Test.YtialglmnfchfmadGreatDoorK10
import Derived.Test.YtialglmnfchfmadGreatDoorKf
import Derived.Shelf.Spec.SlicesInsert
namespace Go.Proofs.YtialglmnfchfmadGreatDoor
open Go.RowKit Go.Shelf Go.Lib

/-- The batch to be put in, in a block of its own. -/
def NewB (w : World) (vb : Nat) (p : Bv) : Prop := w.heap[vb]? = some (.cells #[.string p.1.nm, p.2.1, p.2.2] 45 (0, 0))
theorem NewB.cell {w : World} {vb : Nat} {p : Bv} (h : NewB w vb p) : ∀ (j : Nat) (u : Value), (rowB p)[j]? = some u → w.cell? ((⟨vb, 0, none⟩ : Addr).add j) = some u := fun j u hu => by
  rw [Addr.add_mid, Nat.zero_add, cell_of_row w vb j _ 45 (0, 0) h]
  match j, hu with
  | 0, hu => simpa [rowB] using hu
  | 1, hu => simpa [rowB] using hu
  | 2, hu => simpa [rowB] using hu
theorem NewB.frozen {w : World} {vb : Nat} {p : Bv} (h : NewB w vb p) (j : Nat) : w.frozen? ⟨vb, j, none⟩ = false := by
  simp [World.frozen?, show w.heap[vb]? = _ from h]
theorem NewB.shape {w : World} {vb : Nat} {p : Bv} (h : NewB w vb p) : w.shape? vb = some (45, 3) := by
  simp [World.shape?, show w.heap[vb]? = _ from h]
theorem own_shapeB {w : World} {base e size n c g : Nat} {xs : List Value} (h : w.ownsRow base e size (.slice (some ⟨g, 0, none⟩) n c) n xs) : w.shape? g = some (e, c * size) := by
  rcases h.2 with ⟨h0, _⟩ | ⟨g', cap, cur, h', h1, h2, h3, h4, h5, h6⟩
  · simp at h0
  · obtain ⟨e1, -, rfl⟩ := Value.slice.inj h'
    obtain rfl : g = g' := by simpa using e1
    simp [World.shape?, h2, h5]
theorem sizeBat3 (w : World) : (Go.sizeOf 45).run Tryz.prog w = .ok 3 w := by kernel_rfl
set_option maxRecDepth 20000 in
set_option maxHeartbeats 2000000 in
theorem insert_end (ps : List Bv) (p : Bv) (v : Value) (base vb : Nat) (w : World) (hn : ps.length ≤ 100) (hrow : w.ownsRow base 45 3 v ps.length (rowsB ps)) (hB : NewB w vb p) (hone : ∀ u ∈ rowB p, u.oneCell' = true) (hz : base ≤ w.heap.size) :
    Calls Tryz.prog 59 #[v, .int .i64 ps.length, .slice (some ⟨vb, 0, none⟩) 1 1] w
      fun e w' => ∃ u, e = .returned u ∧ w'.ownsRow base 45 3 u (ps.length + 1) (rowsB (ps ++ [p])) ∧ w.grownBy w' v.ownBlock ∧ Where w v u := by
  obtain ⟨ii, hi, iz0, iz1, iz2⟩ := info_parts infoBat1
  obtain ⟨v1, w1, hr, hown1, hgr1, -⟩ := run_append_own (P := Tryz.prog) w base 28 28 45 ii _ 3 64 Tryz.underlying28 hi iz0 iz1 iz2 rfl (by decide) v ps.length (rowsB ps) hrow ⟨vb, 0, none⟩ 1 1 (rowB p) rfl hB.cell hone (by unfold maxLen; omega) (by omega) hz
  have hwh : Where w v v1 := append_where base 28 28 45 ii _ 3 64 Tryz.underlying28 hi iz0 iz1 iz2 v ps.length (rowsB ps) hrow ⟨vb, 0, none⟩ 1 1 (rowB p) rfl hB.cell hone (by omega) (by unfold maxLen; omega) (by omega) hr
  have hown2 : w1.ownsRow base 45 3 v1 (ps.length + 1) (rowsB (ps ++ [p])) := by
    rw [rowsB_snoc]; exact hown1
  obtain ⟨a, c, hv⟩ := own_shape hrow
  subst hv
  have hc : ps.length ≤ c ∧ c ≤ 9223372036854775807 := by
    rcases hrow.2 with ⟨h0, h1⟩ | ⟨g', cap, cur, h', h1, h2, h3, h4, h5, h6⟩
    · obtain ⟨-, -, rfl⟩ := Value.slice.inj h0
      omega
    · obtain ⟨-, -, rfl⟩ := Value.slice.inj h'
      unfold maxLen at h4
      omega
  obtain ⟨hc1, hc2⟩ := hc
  obtain ⟨b1, d1, hv1⟩ := own_shape hown1
  subst hv1
  clear hown1
  go_enter Tryz.func59, Tryz.ntmps59
  go_wp2_with (at_builtin; refine wpList_append_run _ rfl _ _ _ _ rfl _ _ _ _ rfl rfl hr ?_)
  all_goals
    go_ret
    exact ⟨_, rfl, hown2, by cases a <;> exact hgr1, by cases a <;> exact hwh⟩
theorem ins_rows (ps : List Bv) (p : Bv) (k : Nat) (ys : List Value) (hk : k < ps.length) (hy : ys.length = 3) :
    let xs := rowsB ps ++ ys
    let xs2 := xs.take ((k + 1) * 3) ++ rowsB (ps.drop k) ++ xs.drop ((k + 1) * 3 + (rowsB (ps.drop k)).length)
    xs2.take (k * 3) ++ rowB p ++ xs2.drop (k * 3 + (rowB p).length) = rowsB (ps.take k ++ p :: ps.drop k) := by
  intro xs xs2
  have h1 : (rowsB ps).length = ps.length * 3 := rowsB_length ps
  have h2 : (rowsB (ps.drop k)).length = (ps.length - k) * 3 := by rw [rowsB_length, List.length_drop]
  have hxl : xs.length = (ps.length + 1) * 3 := by show (rowsB ps ++ ys).length = _; rw [List.length_append, h1, hy]; omega
  have h3 : xs.drop ((k + 1) * 3 + (rowsB (ps.drop k)).length) = [] := List.drop_eq_nil_of_le (by rw [hxl, h2]; omega)
  have h4 : xs2 = xs.take ((k + 1) * 3) ++ rowsB (ps.drop k) := by show _ ++ _ ++ _ = _; rw [h3, List.append_nil]
  have h5 : (xs.take ((k + 1) * 3)).length = (k + 1) * 3 := by rw [List.length_take, hxl]; omega
  have h6 : xs2.take (k * 3) = rowsB (ps.take k) := by
    rw [h4, List.take_append_of_le_length (by rw [h5]; omega), List.take_take, Nat.min_eq_left (by omega)]
    show (rowsB ps ++ ys).take (k * 3) = _
    rw [List.take_append_of_le_length (by rw [h1]; omega), rowsB_take ps k (by omega)]
  have h7 : xs2.drop (k * 3 + (rowB p).length) = rowsB (ps.drop k) := by
    have hb : (rowB p).length = 3 := rfl
    rw [h4, hb, show k * 3 + 3 = (k + 1) * 3 by omega]
    exact List.drop_left' h5
  rw [h6, h7, rowsB_append]
  simp [rowsB]
set_option maxHeartbeats 1000000 in
theorem insert_runs (ps : List Bv) (p : Bv) (k g c base vb : Nat) (w : World) (hk : k < ps.length) (_ : ps.length ≤ 100) (hroom : ps.length + 1 ≤ c) (hrow : w.ownsRow base 45 3 (.slice (some ⟨g, 0, none⟩) ps.length c) ps.length (rowsB ps)) (hone : ∀ u ∈ rowsB ps, u.oneCell' = true) (hB : NewB w vb p) (hop : ∀ u ∈ rowB p, u.oneCell' = true) (hne : vb ≠ g) :
    (∀ lb cb, (callFunc 70 #[.slice (some ⟨vb, 0, none⟩) 1 1, .slice (some ⟨g, (k + 1) * 3, none⟩) lb cb]).run Tryz.prog w = .ok (.value (.bool false)) w) ∧
    ∃ W w', (∀ ty dc sc, (Builtin.copy_ #[28, 28] ty #[.slice (some ⟨g, (k + 1) * 3, none⟩) (ps.length - k) dc, .slice (some ⟨g, k * 3, none⟩) (ps.length + 1 - k) sc]).run Tryz.prog w.drew = .ok (goInt ((ps.length - k : Nat) : Int)) W) ∧
      (∀ ty dc, (Builtin.copy_ #[28, 28] ty #[.slice (some ⟨g, k * 3, none⟩) (ps.length + 1 - k) dc, .slice (some ⟨vb, 0, none⟩) 1 1]).run Tryz.prog W = .ok (goInt ((1 : Nat) : Int)) w') ∧
      w'.ownsRow base 45 3 (.slice (some ⟨g, 0, none⟩) (ps.length + 1) c) (ps.length + 1) (rowsB (ps.take k ++ p :: ps.drop k)) ∧ w.grownBy W (some g) ∧ w.grownBy w' (some g) ∧ c ≤ 9223372036854775807 := by
  have hsz : (Tryz.prog.info? 45).map (·.size) = some 3 := by kernel_rfl
  obtain ⟨ys, hyl, hrow1⟩ := own_more hrow (Nat.le_succ _) hroom
  have hy3 : ys.length = 3 := by rw [hyl]; omega
  have hrowd : w.drew.ownsRow base 45 3 (.slice (some ⟨g, 0, none⟩) (ps.length + 1) c) (ps.length + 1) (rowsB ps ++ ys) := hrow1
  have hl1 : (rowsB ps).length = ps.length * 3 := rowsB_length ps
  have hld : (rowsB (ps.drop k)).length = (ps.length - k) * 3 := by rw [rowsB_length, List.length_drop]
  have hxl : (rowsB ps ++ ys).length = (ps.length + 1) * 3 := by rw [List.length_append, hl1, hy3]; omega
  obtain ⟨t1, t2⟩ := own_splice (rowsB (ps.drop k)) ((k + 1) * 3) w.drew (rowsB ps ++ ys) hrowd (by rw [hxl, hld]; omega)
  have hxl2 : ((rowsB ps ++ ys).take ((k + 1) * 3) ++ rowsB (ps.drop k) ++ (rowsB ps ++ ys).drop ((k + 1) * 3 + (rowsB (ps.drop k)).length)).length = (ps.length + 1) * 3 := t1.1
  obtain ⟨s1, s2⟩ := own_splice (rowB p) (k * 3) (w.drew.setCells g ((k + 1) * 3) (rowsB (ps.drop k))) _ t1 (by rw [hxl2]; show k * 3 + 3 ≤ _; omega)
  rw [ins_rows ps p k ys hk hy3] at s1
  have hBd : NewB (w.drew.setCells g ((k + 1) * 3) (rowsB (ps.drop k))) vb p := by
    have := t2.block vb (Array.getElem?_eq_some_iff.1 (show w.heap[vb]? = _ from hB)).1 (by simpa using hne)
    unfold NewB
    rw [this]; exact hB
  refine ⟨fun lb cb => ?_, _, _, fun ty dc sc => ?_, fun ty dc => ?_, s1, grown_trans (grown_drew (grown_refl w _)) t2, grown_trans (grown_drew (grown_refl w _)) (grown_trans t2 s2), ?_⟩
  · rw [run_callFunc_extern Tryz.func70 (by kernel_rfl) (by kernel_rfl) (by kernel_rfl) (e := Extern.SlicesOverlaps.overlaps #[28, 28] #[4]) (by kernel_rfl),
      Lib.run_overlaps_apart w 28 4 45 Tryz.underlying28 3 sizeBat3 ⟨vb, 0, none⟩ ⟨g, (k + 1) * 3, none⟩ 1 1 lb cb hne _ _ _ _ hB.shape (own_shapeB hrow) (by omega) (hB.frozen 0) (hB.frozen 3)]
    rfl
  · have h := run_copyN (P := Tryz.prog) w.drew 28 28 ty 45 3 g ((k + 1) * 3) (ps.length - k) dc ⟨g, k * 3, none⟩ (ps.length + 1 - k) sc (rowsB (ps.drop k)) Tryz.underlying28 hsz (by rw [hld, show Nat.min (ps.length + 1 - k) (ps.length - k) = ps.length - k from Nat.min_eq_right (by omega)])
      (rows_cells hrow k (ps.drop k) (drop_at ps k)) (fun j hj => ?_) (fun j hj => hrowd.frozenAt _) (fun u hu => hone u (by
        rw [← List.take_append_drop k ps, rowsB_append]
        exact List.mem_append_right _ hu))
    · rw [h, show Nat.min (ps.length + 1 - k) (ps.length - k) = ps.length - k from Nat.min_eq_right (by omega)]
    · rw [hrowd.cellAt _ (by rw [hld] at hj; omega), List.getElem?_eq_getElem (by rw [hxl]; rw [hld] at hj; omega)]; rfl
  · have h := run_copyN (P := Tryz.prog) (w.drew.setCells g ((k + 1) * 3) (rowsB (ps.drop k))) 28 28 ty 45 3 g (k * 3) (ps.length + 1 - k) dc ⟨vb, 0, none⟩ 1 1 (rowB p) Tryz.underlying28 hsz (by rw [show Nat.min 1 (ps.length + 1 - k) = 1 from Nat.min_eq_left (by omega)]; rfl)
      hBd.cell (fun j hj => ?_) (fun j hj => t1.frozenAt _) hop
    · rw [h, show Nat.min 1 (ps.length + 1 - k) = 1 from Nat.min_eq_left (by omega)]
    · have hj3 : j < 3 := hj
      rw [t1.cellAt _ (by omega), List.getElem?_eq_getElem (by rw [hxl2]; omega)]; rfl
  · have := (own_cap2 hrow).2
    unfold maxLen at this
    omega
end Go.Proofs.YtialglmnfchfmadGreatDoor
