/- Refusals asked with errors.As: a refusal with who asked wrapped around it. -/
import Derived.Test.YtkgbdjdgcacblaaGreatDoorEa
namespace Go.Proofs.YtkgbdjdgcacblaaGreatDoor
open Go.RowKit Go.Extern.Stop Go.Stop Go.Extern

theorem ea_meth (z : Sem Value) (f : TypeId → Addr → Nat → Nat → Sem Value) (v : Value) : ReflectliteValue.method z f #[v] = (do match ← ReflectliteValue.parts v with | none => z | some (t, a, fl) => f t a fl (fl % 32)) := rfl
theorem ea_isNil (a p : Addr) (W : World) (ha : W.cell? a = some (.pointer (some p))) :
    (ReflectliteValue.method (ReflectliteValue.valueError "reflectlite.Value.IsNil" 0) ReflectliteValue.isNil #[(Value.agg #[(Value.pointer (some ⟨1, 72, none⟩)), .pointer (some a), .int .u64 150])]).run Tryz.prog W = .ok (.bool false) W := by
  rw [ea_meth]
  simp only [Sem.run_bind, ea_partsP, Result.andThen]
  simp [ReflectliteValue.isNil, loadVar, isAgg, underlying, Tryz.underlying72, ha, Result.andThen]
theorem ea_elemV (a p : Addr) (W : World) (ha : W.cell? a = some (.pointer (some p))) :
    (ReflectliteValue.method (ReflectliteValue.valueError "reflectlite.Value.Elem" 0) ReflectliteValue.elem #[(Value.agg #[(Value.pointer (some ⟨1, 72, none⟩)), .pointer (some a), .int .u64 150])]).run Tryz.prog W = .ok (.agg #[(Value.pointer (some ⟨1, 70, none⟩)), .pointer (some p), .int .u64 409]) W := by
  rw [ea_meth]
  simp only [Sem.run_bind, ea_partsP, Result.andThen]
  simp [ReflectliteValue.elem, loadVar, isAgg, underlying, Tryz.underlying72, ha, Result.andThen, ea_elemOf, ea_mkR]
theorem ea_set (tb to_ bb bo : Nat) (c : Int) (old : Value) (W : World) (hb : W.cell? ⟨bb, bo, none⟩ = some (.int .i64 c)) (ht : W.cell? ⟨tb, to_, none⟩ = some old) (hf : W.frozen? ⟨tb, to_, none⟩ = false) :
    (ReflectliteValue.set #[.agg #[(Value.pointer (some ⟨1, 70, none⟩)), .pointer (some ⟨tb, to_, none⟩), .int .u64 409], .agg #[(Value.pointer (some ⟨1, 70, none⟩)), .pointer (some ⟨bb, bo, none⟩), .int .u64 153]]).run Tryz.prog W = .ok (.tuple #[]) (W.setCell ⟨tb, to_, none⟩ (.int .i64 c)) := by
  refine (show Sem.run Tryz.prog (bind (ReflectliteValue.parts (.agg #[(Value.pointer (some ⟨1, 70, none⟩)), .pointer (some ⟨tb, to_, none⟩), .int .u64 409])) fun _ => bind (ReflectliteValue.parts (.agg #[(Value.pointer (some ⟨1, 70, none⟩)), .pointer (some ⟨bb, bo, none⟩), .int .u64 153])) _) W = _ from ?_)
  simp only [Sem.run_bind, ea_partsA, ea_partsR, Result.andThen]
  simp [ReflectliteValue.flagAddr, loadVar, isAgg, underlying, Tryz.underlying70, Result.andThen, ea_direct, storeVar, Value.cells]
  have hl : (loadCells ⟨bb, bo, none⟩ 1).run Tryz.prog W = .ok #[.int .i64 c] W := by simp [loadCells, loadCellsFrom, Addr.add, hb, Result.andThen]
  have hs : (storeCells ⟨tb, to_, none⟩ [.int .i64 c]).run Tryz.prog W = .ok () (W.setCell ⟨tb, to_, none⟩ (.int .i64 c)) := by
    simp [storeCells, Addr.add]
    rw [run_store Tryz.prog W ⟨tb, to_, none⟩ _ _ (by rfl)]
    simp [ht, hf]
  rw [hl]
  simp [hs]
theorem ea_noAs (v : Value) (xT : TypeId) (w : World) : (Instr.typeAssert (.iface 84 v) xT 132 true).run Tryz.prog w = .ok (.tuple #[.nilIface, .bool false]) w := run_typeAssert_lacksB Tryz.underlying132 (by kernel_rfl) (by kernel_rfl) v xT w
theorem ea_unw (v : Value) (xT : TypeId) (w : World) : (Instr.typeAssert (.iface 84 v) xT 135 true).run Tryz.prog w = .ok (.tuple #[.iface 84 v, .bool true]) w := run_typeAssert_hasB Tryz.underlying135 (by kernel_rfl) v xT w
theorem ea_mUnw (a b : Value) (w : World) : (Go.method 135 84 (.agg #[a, b]) "Unwrap").run Tryz.prog w = .ok (119, .agg #[a, b]) w := by kernel_rfl
theorem unwrap_any (a b : Value) (w : World) : Calls Tryz.prog 119 #[.agg #[a, b]] w fun e w' => e = .returned b ∧ Below w.heap.size w w' := by
  go_enter Tryz.func119, Tryz.ntmps119
  go_wp2_with fail
  go_ret
  exact ⟨rfl, (Below.refl _ _).alloc (Nat.le_refl _) _⟩
set_option maxRecDepth 20000 in
set_option maxHeartbeats 4000000 in
theorem as_in (who : ByteArray) (c : Int) (tb vb : Nat) (old tgt : Value) (w : World) (hv : w.cell? ⟨vb, 0, none⟩ = some (.pointer (some ⟨tb, 0, none⟩))) (ht0 : w.cell? ⟨tb, 0, none⟩ = some old) (hf0 : w.frozen? ⟨tb, 0, none⟩ = false) :
    Calls Tryz.prog 46 #[.iface 84 (.agg #[.string who, .iface 70 (.agg #[.int .i64 c])]), tgt, (Value.agg #[(Value.pointer (some ⟨1, 72, none⟩)), .pointer (some ⟨vb, 0, none⟩), .int .u64 150]), (Value.iface 127 (.agg #[(Value.pointer (some ⟨1, 70, none⟩))]))] w
      fun e w' => e = .returned (.bool true) ∧ ∃ W, Below w.heap.size w W ∧ w' = W.setCell ⟨tb, 0, none⟩ (.int .i64 c) := by
  have x1 := @run_callFunc_extern Tryz.prog 43 _ (fun args => ReflectliteValue.unpack (args.getD 0 (.tuple #[]))) Tryz.func43 (by kernel_rfl) (by kernel_rfl) (by kernel_rfl) (by kernel_rfl)
  have x2 := @run_callFunc_extern Tryz.prog 44 _ (ReflectliteValue.methodAny (ReflectliteValue.valueError "reflectlite.Value.Type" 0) (fun t _ _ _ => ReflectliteType.toType t)) Tryz.func44 (by kernel_rfl) (by kernel_rfl) (by kernel_rfl) (by kernel_rfl)
  have x3 := @run_callFunc_extern Tryz.prog 45 _ (ReflectliteValue.method (ReflectliteValue.valueError "reflectlite.Value.IsNil" 0) ReflectliteValue.isNil) Tryz.func45 (by kernel_rfl) (by kernel_rfl) (by kernel_rfl) (by kernel_rfl)
  have x4 := @run_callFunc_extern Tryz.prog 109 _ (ReflectliteType.abiMethod fun t => do pure (.int .u8 (← Rtype.kind t))) Tryz.func109 (by kernel_rfl) (by kernel_rfl) (by kernel_rfl) (by kernel_rfl)
  have x5 := @run_callFunc_extern Tryz.prog 128 _ (ReflectliteType.method ReflectliteType.elem) Tryz.func128 (by kernel_rfl) (by kernel_rfl) (by kernel_rfl) (by kernel_rfl)
  have x6 := @run_callFunc_extern Tryz.prog 129 _ (ReflectliteType.relation "Implements" ReflectliteType.implements_) Tryz.func129 (by kernel_rfl) (by kernel_rfl) (by kernel_rfl) (by kernel_rfl)
  have x7 := @run_callFunc_extern Tryz.prog 64 _ ReflectliteType.typeOf Tryz.func64 (by kernel_rfl) (by kernel_rfl) (by kernel_rfl) (by kernel_rfl)
  have x8 := @run_callFunc_extern Tryz.prog 126 _ (ReflectliteType.relation "AssignableTo" ReflectliteType.assignableTo) Tryz.func126 (by kernel_rfl) (by kernel_rfl) (by kernel_rfl) (by kernel_rfl)
  have x9 := @run_callFunc_extern Tryz.prog 65 _ (ReflectliteValue.method (ReflectliteValue.valueError "reflectlite.Value.Elem" 0) ReflectliteValue.elem) Tryz.func65 (by kernel_rfl) (by kernel_rfl) (by kernel_rfl) (by kernel_rfl)
  have x10 := @run_callFunc_extern Tryz.prog 66 _ ReflectliteValue.set Tryz.func66 (by kernel_rfl) (by kernel_rfl) (by kernel_rfl) (by kernel_rfl)
  have y1 := ea_valueP
  have y2 := ea_typeP
  have y3 := ea_mKind
  have y4 := ea_mElem
  have y5 := ea_mImpl
  have y6 := ea_mAssign
  have y7 := ea_kindP
  have y8 := ea_kindR
  have y9 := ea_elemP
  have y10 := ea_implR
  have y11 := ea_typeR
  have y12 := ea_typeD
  have y13 := ea_assignR
  have y14 := ea_assignD
  have y15 := ea_valueR
  have y16 := ea_noAs
  have y17 := ea_unw
  have y18 := ea_mUnw
  have htl : tb < w.heap.size := World.block_lt_of_cell? w ⟨tb, 0, none⟩ ht0
  have hvl : vb < w.heap.size := World.block_lt_of_cell? w ⟨vb, 0, none⟩ hv
  obtain ⟨W1, hW1, kB, hb1, hs1⟩ : ∃ W1, w.alloc (.cells #[(Value.pointer (some ⟨1, 72, none⟩)), .pointer (some ⟨vb, 0, none⟩), .int .u64 150] 90) = W1 ∧ CB W1 w.heap.size [(Value.pointer (some ⟨1, 72, none⟩)), .pointer (some ⟨vb, 0, none⟩), .int .u64 150] ∧ Below w.heap.size w W1 ∧ W1.heap.size = w.heap.size + 1 := ⟨_, rfl, cb1 w _ _⟩
  go_enter Tryz.func46, Tryz.ntmps46
  go_wp2_with fail
  try rw [hW1]
  clear hW1 hs1
  refine wp_loop_rounds 2 ?_
  rw [rounds_succ]
  go_wp2_with fail
  refine (unwrap_any _ _ _).mono ?_
  rintro e W2 ⟨rfl, hb2⟩
  have kB2 := kB.up hb2 kB.2.2
  have hB2 := up_trans hb1 hb2
  have hv2 := (hB2.cell (p := ⟨vb, 0, none⟩) hvl).trans hv
  have ht2 := (hB2.cell (p := ⟨tb, 0, none⟩) htl).trans ht0
  have hf2 := (hB2.frozen (p := ⟨tb, 0, none⟩) htl).trans hf0
  obtain ⟨⟨j0, j1, j2⟩, -⟩ := kB2.c3
  have el := ea_elemV ⟨vb, 0, none⟩ ⟨tb, 0, none⟩ W2 hv2
  obtain ⟨W3, hW3, kR, hb3, hs3⟩ : ∃ W3, W2.alloc (.cells #[.int .i64 c] 70) = W3 ∧ CB W3 W2.heap.size [.int .i64 c] ∧ Below W2.heap.size W2 W3 ∧ W3.heap.size = W2.heap.size + 1 := ⟨_, rfl, cb1 W2 _ _⟩
  have hz2 := hB2.size
  have st := ea_set tb 0 W2.heap.size 0 c old W3 (kR.1 0 _ rfl) ((hb3.cell (p := ⟨tb, 0, none⟩) (by show tb < _; omega)).trans ht2) ((hb3.frozen (p := ⟨tb, 0, none⟩) (by show tb < _; omega)).trans hf2)
  have hB3 := up_trans hB2 hb3
  clear hv2 ht2 hf2 hb3 hs3 kR
  go_wp2_with fail
  rw [rounds_succ]
  go_wp2_with fail
  go_ret
  exact ⟨rfl, W3, hB3, rfl⟩
set_option maxRecDepth 20000 in
set_option maxHeartbeats 4000000 in
theorem as_refused (who : ByteArray) (c : Int) (tb : Nat) (old : Value) (w : World) (hg : w.cell? ⟨0, 0, none⟩ = some (Value.iface 127 (.agg #[(Value.pointer (some ⟨1, 66, none⟩))]))) (ht0 : w.cell? ⟨tb, 0, none⟩ = some old) (hf0 : w.frozen? ⟨tb, 0, none⟩ = false) :
    Calls Tryz.prog 32 #[.iface 84 (.agg #[.string who, .iface 70 (.agg #[.int .i64 c])]), .iface 72 (.pointer (some ⟨tb, 0, none⟩))] w
      fun e w' => e = .returned (.bool true) ∧ ∃ W, Below w.heap.size w W ∧ w' = W.setCell ⟨tb, 0, none⟩ (.int .i64 c) := by
  have x1 := @run_callFunc_extern Tryz.prog 43 _ (fun args => ReflectliteValue.unpack (args.getD 0 (.tuple #[]))) Tryz.func43 (by kernel_rfl) (by kernel_rfl) (by kernel_rfl) (by kernel_rfl)
  have x2 := @run_callFunc_extern Tryz.prog 44 _ (ReflectliteValue.methodAny (ReflectliteValue.valueError "reflectlite.Value.Type" 0) (fun t _ _ _ => ReflectliteType.toType t)) Tryz.func44 (by kernel_rfl) (by kernel_rfl) (by kernel_rfl) (by kernel_rfl)
  have x3 := @run_callFunc_extern Tryz.prog 45 _ (ReflectliteValue.method (ReflectliteValue.valueError "reflectlite.Value.IsNil" 0) ReflectliteValue.isNil) Tryz.func45 (by kernel_rfl) (by kernel_rfl) (by kernel_rfl) (by kernel_rfl)
  have x4 := @run_callFunc_extern Tryz.prog 109 _ (ReflectliteType.abiMethod fun t => do pure (.int .u8 (← Rtype.kind t))) Tryz.func109 (by kernel_rfl) (by kernel_rfl) (by kernel_rfl) (by kernel_rfl)
  have x5 := @run_callFunc_extern Tryz.prog 128 _ (ReflectliteType.method ReflectliteType.elem) Tryz.func128 (by kernel_rfl) (by kernel_rfl) (by kernel_rfl) (by kernel_rfl)
  have x6 := @run_callFunc_extern Tryz.prog 129 _ (ReflectliteType.relation "Implements" ReflectliteType.implements_) Tryz.func129 (by kernel_rfl) (by kernel_rfl) (by kernel_rfl) (by kernel_rfl)
  have x7 := @run_callFunc_extern Tryz.prog 64 _ ReflectliteType.typeOf Tryz.func64 (by kernel_rfl) (by kernel_rfl) (by kernel_rfl) (by kernel_rfl)
  have x8 := @run_callFunc_extern Tryz.prog 126 _ (ReflectliteType.relation "AssignableTo" ReflectliteType.assignableTo) Tryz.func126 (by kernel_rfl) (by kernel_rfl) (by kernel_rfl) (by kernel_rfl)
  have x9 := @run_callFunc_extern Tryz.prog 65 _ (ReflectliteValue.method (ReflectliteValue.valueError "reflectlite.Value.Elem" 0) ReflectliteValue.elem) Tryz.func65 (by kernel_rfl) (by kernel_rfl) (by kernel_rfl) (by kernel_rfl)
  have x10 := @run_callFunc_extern Tryz.prog 66 _ ReflectliteValue.set Tryz.func66 (by kernel_rfl) (by kernel_rfl) (by kernel_rfl) (by kernel_rfl)
  have y1 := ea_valueP
  have y2 := ea_typeP
  have y3 := ea_mKind
  have y4 := ea_mElem
  have y5 := ea_mImpl
  have y6 := ea_mAssign
  have y7 := ea_kindP
  have y8 := ea_kindR
  have y9 := ea_elemP
  have y10 := ea_implR
  have y11 := ea_typeR
  have y12 := ea_typeD
  have y13 := ea_assignR
  have y14 := ea_assignD
  have y15 := ea_valueR
  have hlt : 0 < w.heap.size := World.block_lt_of_cell? w ⟨0, 0, none⟩ hg
  have htl : tb < w.heap.size := World.block_lt_of_cell? w ⟨tb, 0, none⟩ ht0
  obtain ⟨W2, hW2, kV, kB, hb2, hs2⟩ : ∃ W2, (w.alloc (.cells #[.pointer (some ⟨tb, 0, none⟩)] 72)).alloc (.cells #[(Value.pointer (some ⟨1, 72, none⟩)), .pointer (some ⟨w.heap.size, 0, none⟩), .int .u64 150] 90) = W2 ∧ CB W2 w.heap.size [.pointer (some ⟨tb, 0, none⟩)] ∧ CB W2 (w.heap.size + 1) [(Value.pointer (some ⟨1, 72, none⟩)), .pointer (some ⟨w.heap.size, 0, none⟩), .int .u64 150] ∧ Below w.heap.size w W2 ∧ W2.heap.size = w.heap.size + 2 := ⟨_, rfl, cb2 w _ _ _ _⟩
  have kv := kV.1 0 _ rfl
  have n8 := ea_isNil ⟨w.heap.size, 0, none⟩ ⟨tb, 0, none⟩ W2 kv
  have hg2 := (hb2.cell (p := ⟨0, 0, none⟩) hlt).trans hg
  have ht2 := (hb2.cell (p := ⟨tb, 0, none⟩) htl).trans ht0
  have hf2 := (hb2.frozen (p := ⟨tb, 0, none⟩) htl).trans hf0
  obtain ⟨⟨j0, j1, j2⟩, -⟩ := kB.c3
  go_enter Tryz.func32, Tryz.ntmps32
  go_wp2_with fail
  refine (as_in who c tb w.heap.size old _ W2 kv ht2 hf2).mono ?_
  rintro e w' ⟨rfl, W3, hb3, rfl⟩
  have hB3 := up_trans hb2 hb3
  go_wp2_with fail
  go_ret
  exact ⟨rfl, W3, hB3, rfl⟩
end Go.Proofs.YtkgbdjdgcacblaaGreatDoor
