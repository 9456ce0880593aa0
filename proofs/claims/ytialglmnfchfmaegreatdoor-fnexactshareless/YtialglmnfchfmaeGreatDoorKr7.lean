/- The program's chapter 13: what is asked, behind its interface. -/
import Derived.Test.YtialglmnfchfmaeGreatDoorKr6
namespace Go.Proofs.YtialglmnfchfmaeGreatDoor
open Go.RowKit

theorem as_whoV (n : Nat) (nm : Value) (w : World) : (Go.method (n + 1) 73 (.agg #[nm]) "loop.example/maltrun/impl.who").run Tryz.prog w = .ok (174, .agg #[nm]) w := by kernel_rfl
theorem as_whoL (n : Nat) (nm x : Value) (w : World) : (Go.method (n + 1) 68 (.agg #[nm, x]) "loop.example/maltrun/impl.who").run Tryz.prog w = .ok (174, .agg #[nm]) w := by kernel_rfl
theorem as_whoE (n : Nat) (nm x : Value) (w : World) : (Go.method (n + 1) 180 (.agg #[nm, x]) "loop.example/maltrun/impl.who").run Tryz.prog w = .ok (174, .agg #[nm]) w := by kernel_rfl
theorem as_whoA (n : Nat) (nm x : Value) (w : World) : (Go.method (n + 1) 183 (.agg #[nm, x]) "loop.example/maltrun/impl.who").run Tryz.prog w = .ok (174, .agg #[nm]) w := by kernel_rfl
theorem as_refV (n : Nat) (nm : Value) (w : World) : (Go.method (n + 1) 73 (.agg #[nm]) "loop.example/maltrun/impl.refusal").run Tryz.prog w = .ok (177, .agg #[nm]) w := by kernel_rfl
theorem as_refL (n : Nat) (nm x : Value) (w : World) : (Go.method (n + 1) 68 (.agg #[nm, x]) "loop.example/maltrun/impl.refusal").run Tryz.prog w = .ok (175, .agg #[nm, x]) w := by kernel_rfl
theorem as_refE (n : Nat) (nm x : Value) (w : World) : (Go.method (n + 1) 180 (.agg #[nm, x]) "loop.example/maltrun/impl.refusal").run Tryz.prog w = .ok (186, .agg #[nm, x]) w := by kernel_rfl
theorem as_refA (n : Nat) (nm x : Value) (w : World) : (Go.method (n + 1) 183 (.agg #[nm, x]) "loop.example/maltrun/impl.refusal").run Tryz.prog w = .ok (187, .agg #[nm, x]) w := by kernel_rfl
theorem ta_VE (v : Value) (w : World) : (Instr.typeAssert (.iface 73 v) 94 180 true).run Tryz.prog w = .ok (.tuple #[.agg #[.string ⟨#[]⟩, .slice none 0 0], .bool false]) w := by kernel_rfl
theorem ta_VA (v : Value) (w : World) : (Instr.typeAssert (.iface 73 v) 94 183 true).run Tryz.prog w = .ok (.tuple #[.agg #[.string ⟨#[]⟩, .slice none 0 0], .bool false]) w := by kernel_rfl
theorem ta_VL (v : Value) (w : World) : (Instr.typeAssert (.iface 73 v) 94 68 true).run Tryz.prog w = .ok (.tuple #[.agg #[.string ⟨#[]⟩, .slice none 0 0], .bool false]) w := by kernel_rfl
theorem ta_VV (v : Value) (w : World) : (Instr.typeAssert (.iface 73 v) 94 73 true).run Tryz.prog w = .ok (.tuple #[v, .bool true]) w := by kernel_rfl
theorem ta_LE (v : Value) (w : World) : (Instr.typeAssert (.iface 68 v) 94 180 true).run Tryz.prog w = .ok (.tuple #[.agg #[.string ⟨#[]⟩, .slice none 0 0], .bool false]) w := by kernel_rfl
theorem ta_LA (v : Value) (w : World) : (Instr.typeAssert (.iface 68 v) 94 183 true).run Tryz.prog w = .ok (.tuple #[.agg #[.string ⟨#[]⟩, .slice none 0 0], .bool false]) w := by kernel_rfl
theorem ta_LL (v : Value) (w : World) : (Instr.typeAssert (.iface 68 v) 94 68 true).run Tryz.prog w = .ok (.tuple #[v, .bool true]) w := by kernel_rfl
theorem ta_AE (v : Value) (w : World) : (Instr.typeAssert (.iface 183 v) 94 180 true).run Tryz.prog w = .ok (.tuple #[.agg #[.string ⟨#[]⟩, .slice none 0 0], .bool false]) w := by kernel_rfl
theorem ta_AA (v : Value) (w : World) : (Instr.typeAssert (.iface 183 v) 94 183 true).run Tryz.prog w = .ok (.tuple #[v, .bool true]) w := by kernel_rfl
theorem ta_EE (v : Value) (w : World) : (Instr.typeAssert (.iface 180 v) 94 180 true).run Tryz.prog w = .ok (.tuple #[v, .bool true]) w := by kernel_rfl
theorem ru_V (args : Array Value) (w : World) : (callFunc 177 args).run Tryz.prog w = .ok (.enter 177 args) w := by kernel_rfl
theorem ru_L (args : Array Value) (w : World) : (callFunc 175 args).run Tryz.prog w = .ok (.enter 175 args) w := by kernel_rfl
theorem ru_E (args : Array Value) (w : World) : (callFunc 186 args).run Tryz.prog w = .ok (.enter 186 args) w := by kernel_rfl
theorem ru_A (args : Array Value) (w : World) : (callFunc 187 args).run Tryz.prog w = .ok (.enter 187 args) w := by kernel_rfl
set_option maxRecDepth 20000 in
set_option maxHeartbeats 1000000 in
theorem leaveRef_any (b : Bk) (v : Value) (nm : ByteArray) (w : World) (h : BkV w v b) (hok : BookOk b) :
    Calls Tryz.prog 177 #[.agg #[.string nm], v] w fun e w' => e = .returned (refV (ofC b nm [])) ∧ Below w.heap.size w w' := by
  obtain ⟨a1, c1, a2, c2, rfl, -, -⟩ := h.parts
  obtain ⟨W1, hW1, kA, kB, hB1, hs1⟩ : ∃ W1, (w.alloc (.cells #[.string nm] 73)).alloc (.cells #[.slice a1 (b).things.length c1, .slice a2 (b).bs.length c2] 30) = W1 ∧ CB W1 w.heap.size [.string nm] ∧ CB W1 (w.heap.size + 1) [.slice a1 b.things.length c1, .slice a2 b.bs.length c2] ∧ Below w.heap.size w W1 ∧ W1.heap.size = w.heap.size + 2 := ⟨_, rfl, cb2 w _ _ _ _⟩
  go_enter Tryz.func177, Tryz.ntmps177
  go_upto_region 1 with fail
  try rw [hW1]
  clear hW1
  have hk := h.up hB1
  have e0 : W1.cell? ⟨w.heap.size, 0, none⟩ = some (.string nm) := kA.1 0 _ rfl
  obtain ⟨d0, d1⟩ := kB.c2'
  go_wp2_with fail
  refine (ofNeeds_any b _ nm _ [] _ hk hok (Ls.nil _ _ _)).mono ?_
  rintro e w2 ⟨rfl, hB2⟩
  clear d0 d1 e0
  go_wp2_with fail
  go_ret
  exact ⟨rfl, up_trans hB1 hB2⟩
set_option maxRecDepth 20000 in
set_option maxHeartbeats 1000000 in
theorem lessRef_any (b : Bk) (v : Value) (nm : ByteArray) (lv : Value) (ls : List ByteArray) (w : World) (h : BkV w v b) (hok : BookOk b) (hl : Ls w lv ls) :
    Calls Tryz.prog 175 #[.agg #[.string nm, lv], v] w fun e w' => e = .returned (refV (ofC b nm ls)) ∧ Below w.heap.size w w' := by
  obtain ⟨a1, c1, a2, c2, rfl, -, -⟩ := h.parts
  obtain ⟨la, lc, rfl, -⟩ := id hl
  obtain ⟨W1, hW1, kA, kB, hB1, hs1⟩ : ∃ W1, (w.alloc (.cells #[.string nm, .slice la ls.length lc] 68)).alloc (.cells #[.slice a1 (b).things.length c1, .slice a2 (b).bs.length c2] 30) = W1 ∧ CB W1 w.heap.size [.string nm, .slice la ls.length lc] ∧ CB W1 (w.heap.size + 1) [.slice a1 b.things.length c1, .slice a2 b.bs.length c2] ∧ Below w.heap.size w W1 ∧ W1.heap.size = w.heap.size + 2 := ⟨_, rfl, cb2 w _ _ _ _⟩
  go_enter Tryz.func175, Tryz.ntmps175
  go_upto_region 1 with fail
  try rw [hW1]
  clear hW1
  have hk := h.up hB1
  have hl1 := hl.up hB1
  obtain ⟨e0, e1⟩ := kA.c2'
  obtain ⟨d0, d1⟩ := kB.c2'
  go_wp2_with fail
  refine (ofNeeds_any b _ nm _ ls _ hk hok hl1).mono ?_
  rintro e w2 ⟨rfl, hB2⟩
  clear d0 d1 e0 e1
  go_wp2_with fail
  go_ret
  exact ⟨rfl, up_trans hB1 hB2⟩
end Go.Proofs.YtialglmnfchfmaeGreatDoor
