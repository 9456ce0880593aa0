/- The program's chapter 13: the answer and its code; ShareLeave. -/
import Derived.Test.YtialglmnfchfmadGreatDoorKr9
import Derived.Test.YtialglmnfchfmadGreatDoorRows
import Derived.Test.YtialglmnfchfmadGreatDoorK1
import Derived.LaidHandle
namespace Go.Proofs.YtialglmnfchfmadGreatDoor
open Go.RowKit

/-- The errors package knows what an error is. -/
def ErrT (w : World) : Prop := w.cell? ⟨0, 0, none⟩ = some (Value.iface 115 (.agg #[(Value.pointer (some ⟨1, 69, none⟩))]))
theorem ErrT.up {w w' : World} (h : ErrT w) (hb : Below w.heap.size w w') : ErrT w' := (hb.cell (p := ⟨0, 0, none⟩) (World.block_lt_of_cell? w ⟨0, 0, none⟩ h)).trans h
set_option maxRecDepth 20000 in
set_option maxHeartbeats 4000000 in
theorem answer_any (b : Bk) (v : Value) (nm : ByteArray) (D : TypeId) (av : Value) (cd : Int) (bk : Bk) (w : World) (h : BkV w v b) (hg : ErrT w)
    (Htry : ∀ W, Below w.heap.size w W → Calls Tryz.prog 41 #[v, .iface D av] W fun e w' => (∃ u, e = .returned (.tuple #[u, errV nm cd]) ∧ BkF w' W.heap.size u bk) ∧ Below W.heap.size W w') :
    Calls Tryz.prog 26 #[v, .iface D av] w fun e w' => (∃ u, e = .returned (.tuple #[u, .int .i64 cd]) ∧ BkF w' w.heap.size u bk) ∧ Below w.heap.size w w' := by
  obtain ⟨a1, c1, a2, c2, rfl, -, -⟩ := h.parts
  clear h
  obtain ⟨W1, hW1, kA, kR, hB1, hs1⟩ : ∃ W1, (w.alloc (.cells #[.slice a1 (b).things.length c1, .slice a2 (b).bs.length c2] 30)).alloc (.cells #[.slice none 0 0, .slice none 0 0] 30) = W1 ∧ CB W1 w.heap.size [.slice a1 b.things.length c1, .slice a2 b.bs.length c2] ∧ CB W1 (w.heap.size + 1) [.slice none 0 0, .slice none 0 0] ∧ Below w.heap.size w W1 ∧ W1.heap.size = w.heap.size + 2 := ⟨_, rfl, cb2 w _ _ _ _⟩
  have HT := Htry W1 hB1
  clear Htry
  have HG : Hid (ErrT w) := hg
  clear hg
  go_enter Tryz.func26, Tryz.ntmps26
  go_upto_region 1 with fail
  try rw [hW1]
  clear hW1
  obtain ⟨e0, e1⟩ := kA.c2'
  go_wp2_with fail
  refine HT.mono ?_
  rintro e w2 ⟨⟨u, rfl, hu⟩, hb2⟩
  have hz2 := hb2.size
  have kR2 := kR.up hb2 (by omega)
  have hB2 := up_trans hB1 hb2
  obtain ⟨i1, j1, i2, j2, rfl⟩ := hu.shape
  clear e0 e1 kA kR hB1 hb2 HT
  go_upto_region 3 with fail
  obtain ⟨W4, hW4, kX, kT, hb4, hs4⟩ : ∃ W4, (w2.alloc (.cells #[.slice i1 bk.things.length j1, .slice i2 bk.bs.length j2] 30)).alloc (.cells #[.int .i64 0] 73) = W4 ∧ CB W4 w2.heap.size [.slice i1 bk.things.length j1, .slice i2 bk.bs.length j2] ∧ CB W4 (w2.heap.size + 1) [.int .i64 0] ∧ Below w2.heap.size w2 W4 ∧ W4.heap.size = w2.heap.size + 2 := ⟨_, rfl, cb2 w2 _ _ _ _⟩
  try rw [hW4]
  clear hW4
  have kR4 := kR2.up hb4 (by omega)
  have hB4 := up_trans hB2 hb4
  have hu4 := hu.up hb4
  clear kR2 hB2
  by_cases hc : cd = 0
  · subst hc
    rw [errV_zero]
    go_wp2_with fail
    refine (as_nil _ _).mono ?_
    rintro e w5 ⟨rfl, hw5⟩
    obtain rfl := hw5.symm
    obtain ⟨⟨x0, x1⟩, -⟩ := kX.c2
    obtain ⟨⟨y0, y1⟩, q0, q1⟩ := kR4.c2
    go_wp2_with fail
    refine end_cb2b Tryz.results26 Tryz.underlying30 rfl sizeBk1 kR4 rfl rfl ?_
    exact ⟨⟨_, rfl, ((hu4.set (by omega)).set (by omega)).low (by omega)⟩, below_set2 hB4 (Nat.le_succ _) _ _⟩
  · rw [errV_some hc]
    have t0 : W4.cell? ⟨w2.heap.size + 1, 0, none⟩ = some (.int .i64 0) := kT.1 0 _ rfl
    have t1 : W4.frozen? ⟨w2.heap.size + 1, 0, none⟩ = false := (kT.2.1 0 (by simp)).2
    have HE : Hid (ErrT W4) := HG.out.up hB4
    go_wp2_with fail
    refine (as_refused nm cd _ _ _ HE.out t0 t1).mono ?_
    rintro e w5 ⟨rfl, W5, hb5, rfl⟩
    have kX5 := (kX.up hb5 (by omega)).other (q := w2.heap.size + 1) (j := 0) (u := .int .i64 cd) (by omega)
    have kR5 := (kR4.up hb5 (by omega)).other (q := w2.heap.size + 1) (j := 0) (u := .int .i64 cd) (by omega)
    have kT5 := (kT.up hb5 (by omega)).set (j := 0) (u := .int .i64 cd) (by simp)
    have hB5 : Below w.heap.size w (W5.setCell ⟨w2.heap.size + 1, 0, none⟩ (.int .i64 cd)) := (up_trans hB4 hb5).setCell (p := ⟨w2.heap.size + 1, 0, none⟩) (by show _ ≤ w2.heap.size + 1; omega) _
    have hu5 : BkF (W5.setCell ⟨w2.heap.size + 1, 0, none⟩ (.int .i64 cd)) W1.heap.size _ bk := hu.up ((up_trans hb4 hb5).setCell (p := ⟨w2.heap.size + 1, 0, none⟩) (by show _ ≤ w2.heap.size + 1; omega) _)
    clear kX kR4 kT hB4 hu4 hu t0 t1 HE hb4 hb5
    generalize W5.setCell ⟨w2.heap.size + 1, 0, none⟩ (.int .i64 cd) = W6 at *
    obtain ⟨⟨x0, x1⟩, -⟩ := kX5.c2
    obtain ⟨⟨y0, y1⟩, q0, q1⟩ := kR5.c2
    have t0 : W6.cell? ⟨w2.heap.size + 1, 0, none⟩ = some (.int .i64 cd) := kT5.1 0 _ rfl
    have kR6 := kR5.up (Below.refl _ _).drew kR5.2.2
    have hu6 := hu5.up (Below.refl _ _).drew
    go_wp2_with fail
    go_region
    all_goals
      go_wp2_with fail
      refine end_cb2b Tryz.results26 Tryz.underlying30 rfl sizeBk1 kR6 rfl rfl ?_
      exact ⟨⟨_, rfl, ((hu6.set (by omega)).set (by omega)).low (by omega)⟩, below_set2 hB5.drew (Nat.le_succ _) _ _⟩
end Go.Proofs.YtialglmnfchfmadGreatDoor

/- What the row's list gives: the errors package's handle of the type error; a world for the witness. -/
namespace Go.Proofs.YtialglmnfchfmadGreatDoor
open Go.ChangeShapes Go.WideShapes Go.ChangeAt Go.RowKit

theorem etN : Tryz.prog.globalNamed "errors.errorType" = some 0 := by kernel_rfl
theorem rtN : (Tryz.prog.cutTypes.find? (·.1 == "internal/reflectlite.rtype")).map (·.2) = some 115 := by kernel_rfl
theorem oneRow : ((List.range Tryz.prog.types.size).filter fun t => Tryz.prog.rowNamed t [101, 114, 114, 111, 114]) = [69] := by kernel_rfl
theorem ErrT.of_laid {W : World} (h : laidMetH Tryz.prog [("errors.errorType", Rows.laid_errors_errorType)] W) : ErrT W := by
  have h' : laidMet Tryz.prog [] W ∧ handlesMet Tryz.prog [("errors.errorType", Rows.laid_errors_errorType)] W := h
  obtain ⟨name, u, ty, e1, e2, e3, e4, e5⟩ := h'.2 _ (List.mem_singleton.2 rfl)
  have en : name = [101, 114, 114, 111, 114] := (Option.some.inj e1).symm
  subst en
  obtain rfl := Option.some.inj (rtN.symm.trans e2)
  have hm : ty ∈ (List.range Tryz.prog.types.size).filter fun t => Tryz.prog.rowNamed t [101, 114, 114, 111, 114] := List.mem_filter.2 ⟨List.mem_range.2 e3, e4⟩
  rw [oneRow] at hm
  obtain rfl := List.mem_singleton.1 hm
  have hh : typeHandle Tryz.prog 69 = (Value.pointer (some ⟨1, 69, none⟩)) := by kernel_rfl
  rw [hh] at e5
  unfold ErrT
  simpa using World.var?_cell etN e5 0
noncomputable def laidWorldE (os : Os) : World :=
  { World.holding Tryz.prog os ⟨#[], #[], []⟩ with heap := (World.holding Tryz.prog os ⟨#[], #[], []⟩).heap.modify 0 fun
      | .cells _ t frozen => .cells #[(Value.iface 115 (.agg #[(Value.pointer (some ⟨1, 69, none⟩))]))] t frozen
      | o => o }
theorem laidE_met (os : Os) (args : Array Value) : laidMetH Tryz.prog [("errors.errorType", Rows.laid_errors_errorType)] ((laidWorldE os).forCall (fun _ _ => 0) ⟨#[], args, []⟩).memory :=
  laidMetH_of_parts (laidMet_nil _ _) (by kernel_rfl)
end Go.Proofs.YtialglmnfchfmadGreatDoor
