/- The program's chapter 13: who asks; whether a list is of what they need. -/
import Derived.Test.YtialglmnfchfmadGreatDoorKr5
import Derived.Test.YtialglmnfchfmadGreatDoorKc2
namespace Go.Proofs.YtialglmnfchfmadGreatDoor
open Go.RowKit

theorem low_pl {b : Bk} {nm : ByteArray} (ha : Asc (nms b.bs)) (hm : memS (nms b.bs) nm = true) : lowN (nms b.bs) nm = plN b nm := by
  obtain ⟨hi, hlt⟩ := plN_lt hm
  obtain ⟨k, hk, hkl, hkn⟩ := idxI_at (l := nms b.bs) (s := nm) (by omega)
  obtain rfl : plN b nm = k := by omega
  refine lowN_at (Nat.le_of_lt hkl) (fun j x hj hx => ?_) (fun j x hj hx => ?_)
  · exact asc_lt ha (plN b nm - j - 1) j x nm hx (by rw [show j + 1 + (plN b nm - j - 1) = plN b nm by omega, List.getElem?_eq_getElem hkl, hkn])
  · by_cases e : j = plN b nm
    · subst e
      rw [List.getElem?_eq_getElem hkl, hkn] at hx
      obtain rfl := Option.some.inj hx
      exact ltS_irrefl _
    · have h1 := asc_lt ha (j - plN b nm - 1) (plN b nm) nm x (by rw [List.getElem?_eq_getElem hkl, hkn]) (by rw [show plN b nm + 1 + (j - plN b nm - 1) = j by omega]; exact hx)
      cases hq : ltS x nm
      · rfl
      · have := ltS_trans h1 hq
        rw [ltS_irrefl] at this; cases this
/-- A refusal with its code, or none. -/
def refV (c : Int) : Value := if c = 0 then .nilIface else .iface 73 (.agg #[.int .i64 c])
theorem refV_zero : refV 0 = .nilIface := rfl
theorem refV_some {c : Int} (h : c ≠ 0) : refV c = .iface 73 (.agg #[.int .i64 c]) := by simp [refV, h]
noncomputable def ofC (b : Bk) (nm : ByteArray) (ls : List ByteArray) : Int := if memS (nms b.bs) nm = false then 3 else if pB (PartOk ls (needsAt b nm)) = false then 2 else 0
theorem of_none {b : Bk} {nm : ByteArray} {ls : List ByteArray} (hm : memS (nms b.bs) nm = false) : ofC b nm ls = 3 := by simp [ofC, hm]
theorem of_two {b : Bk} {nm : ByteArray} {ls : List ByteArray} (hm : memS (nms b.bs) nm = true) (hp : pB (PartOk ls (needsAt b nm)) = false) : ofC b nm ls = 2 := by simp [ofC, hm, hp]
theorem of_yes {b : Bk} {nm : ByteArray} {ls : List ByteArray} (hm : memS (nms b.bs) nm = true) (hp : pB (PartOk ls (needsAt b nm)) = true) : ofC b nm ls = 0 := by simp [ofC, hm, hp]
theorem part_nil (all : List ByteArray) : pB (PartOk [] all) = true := pB_yes ⟨fun i x hi hx => by simp at hx, fun i a b hi ha => by simp at ha⟩
theorem ret_ref {v : Value} {c : Int} (h : refV c = v) : Ending.returned v = .returned (refV c) := by rw [h]
theorem asker_any (nm : ByteArray) (w : World) : Calls Tryz.prog 101 #[.agg #[.string nm]] w fun e w' => e = .returned (.string nm) ∧ Below w.heap.size w w' := by
  go_enter Tryz.func101, Tryz.ntmps101
  go_wp2
  go_ret
  exact ⟨rfl, by go_grown⟩
set_option maxRecDepth 20000 in
set_option maxHeartbeats 2000000 in
theorem ofNeeds_any (b : Bk) (v : Value) (nm : ByteArray) (lv : Value) (ls : List ByteArray) (w : World) (h : BkV w v b) (hok : BookOk b) (hl : Ls w lv ls) :
    Calls Tryz.prog 104 #[v, .string nm, lv] w fun e w' => e = .returned (refV (ofC b nm ls)) ∧ Below w.heap.size w w' := by
  obtain ⟨a1, c1, a2, c2, rfl, -, h2⟩ := h.parts
  obtain ⟨la, lc, rfl, hln, -⟩ := id hl
  unfold maxLen at hln
  have hn5 : b.bs.length ≤ 5 := hok.2.1
  have hC : CB (w.alloc (.cells #[.slice a1 (b).things.length c1, .slice a2 (b).bs.length c2] 30)) w.heap.size [.slice a1 b.things.length c1, .slice a2 b.bs.length c2] := cb_alloc w _ _
  have hB0 := (Below.refl w.heap.size w).alloc (Nat.le_refl _) (.cells #[.slice a1 (b).things.length c1, .slice a2 (b).bs.length c2] 30)
  go_enter Tryz.func104, Tryz.ntmps104
  go_upto_region 1 with fail
  generalize w.alloc (.cells #[.slice a1 (b).things.length c1, .slice a2 (b).bs.length c2] 30) = W1 at *
  have hlt := hC.2.2
  have hk := h.up hB0
  obtain ⟨d0, d1⟩ := hC.c2'
  go_wp2_with fail
  refine (find_any b _ nm _ hk hok).mono ?_
  rintro e w2 ⟨rfl, hB2⟩
  have hB02 := up_trans hB0 hB2
  clear d0 d1
  cases hm : memS (nms b.bs) nm
  · have HC : Hid (refV (ofC b nm ls) = .iface 73 (.agg #[.int .i64 3])) := by show _ = _; rw [of_none hm]; rfl
    generalize lowN (nms b.bs) nm = q at *
    go_wp2_with fail
    go_ret
    exact ⟨ret_ref HC.out, hB02⟩
  obtain ⟨-, hpl⟩ := plN_lt hm
  rw [low_pl hok.2.2.2.1 hm]
  have HN : Hid (needsAt b nm = (b.bs[plN b nm]).needs) := needsAt_at (List.getElem?_eq_getElem hpl)
  have HT : Hid (pB (PartOk ls (needsAt b nm)) = false → refV (ofC b nm ls) = .iface 73 (.agg #[.int .i64 2])) := fun hp => by rw [of_two hm hp]; rfl
  have HY : Hid (pB (PartOk ls (needsAt b nm)) = true → refV (ofC b nm ls) = .nilIface) := fun hp => by rw [of_yes hm hp]; rfl
  generalize plN b nm = p at *
  obtain ⟨-, hpos⟩ := h2.at
  obtain ⟨bb, o, rfl, hS, hb⟩ := hpos (by omega)
  obtain ⟨a3, d3, a4, d4, c3, c4, c5, l3, l4, z0⟩ := ((hS.at hpl).up hB02 hb).cells
  obtain ⟨e0, e1⟩ := (hC.up hB2 hlt).c2'
  rw [HN.out] at HT HY
  have hl2 := hl.up hB02
  generalize b.bs[p] = x0 at *
  clear hm HN
  go_wp2_with fail
  refine (partOf_any ls x0.needs _ _ _ hl2 l4).mono ?_
  rintro e w3 ⟨rfl, hB3⟩
  have hB03 := up_trans hB02 hB3
  clear c3 c4 c5 e0 e1
  cases hp : pB (PartOk ls x0.needs)
  · have HC : Hid (refV (ofC b nm ls) = .iface 73 (.agg #[.int .i64 2])) := HT.out hp
    go_wp2_with fail
    go_ret
    exact ⟨ret_ref HC.out, hB03⟩
  · have HC : Hid (refV (ofC b nm ls) = .nilIface) := HY.out hp
    go_wp2_with fail
    go_ret
    exact ⟨ret_ref HC.out, hB03⟩
end Go.Proofs.YtialglmnfchfmadGreatDoor

/- The program's chapter 13: what is asked, behind its interface. -/
namespace Go.Proofs.YtialglmnfchfmadGreatDoor
open Go.RowKit

theorem as_whoV (n : Nat) (nm : Value) (w : World) : (Go.method (n + 1) 112 (.agg #[nm]) "loop.example/maltrun/impl.who").run Tryz.prog w = .ok (101, .agg #[nm]) w := by kernel_rfl
theorem as_whoL (n : Nat) (nm x : Value) (w : World) : (Go.method (n + 1) 110 (.agg #[nm, x]) "loop.example/maltrun/impl.who").run Tryz.prog w = .ok (101, .agg #[nm]) w := by kernel_rfl
theorem as_whoE (n : Nat) (nm x : Value) (w : World) : (Go.method (n + 1) 52 (.agg #[nm, x]) "loop.example/maltrun/impl.who").run Tryz.prog w = .ok (101, .agg #[nm]) w := by kernel_rfl
theorem as_whoA (n : Nat) (nm x : Value) (w : World) : (Go.method (n + 1) 59 (.agg #[nm, x]) "loop.example/maltrun/impl.who").run Tryz.prog w = .ok (101, .agg #[nm]) w := by kernel_rfl
theorem as_refV (n : Nat) (nm : Value) (w : World) : (Go.method (n + 1) 112 (.agg #[nm]) "loop.example/maltrun/impl.refusal").run Tryz.prog w = .ok (122, .agg #[nm]) w := by kernel_rfl
theorem as_refL (n : Nat) (nm x : Value) (w : World) : (Go.method (n + 1) 110 (.agg #[nm, x]) "loop.example/maltrun/impl.refusal").run Tryz.prog w = .ok (121, .agg #[nm, x]) w := by kernel_rfl
theorem as_refE (n : Nat) (nm x : Value) (w : World) : (Go.method (n + 1) 52 (.agg #[nm, x]) "loop.example/maltrun/impl.refusal").run Tryz.prog w = .ok (102, .agg #[nm, x]) w := by kernel_rfl
theorem as_refA (n : Nat) (nm x : Value) (w : World) : (Go.method (n + 1) 59 (.agg #[nm, x]) "loop.example/maltrun/impl.refusal").run Tryz.prog w = .ok (103, .agg #[nm, x]) w := by kernel_rfl
theorem ta_VE (v : Value) (w : World) : (Instr.typeAssert (.iface 112 v) 67 52 true).run Tryz.prog w = .ok (.tuple #[.agg #[.string ⟨#[]⟩, .slice none 0 0], .bool false]) w := by kernel_rfl
theorem ta_VA (v : Value) (w : World) : (Instr.typeAssert (.iface 112 v) 67 59 true).run Tryz.prog w = .ok (.tuple #[.agg #[.string ⟨#[]⟩, .slice none 0 0], .bool false]) w := by kernel_rfl
theorem ta_VL (v : Value) (w : World) : (Instr.typeAssert (.iface 112 v) 67 110 true).run Tryz.prog w = .ok (.tuple #[.agg #[.string ⟨#[]⟩, .slice none 0 0], .bool false]) w := by kernel_rfl
theorem ta_VV (v : Value) (w : World) : (Instr.typeAssert (.iface 112 v) 67 112 true).run Tryz.prog w = .ok (.tuple #[v, .bool true]) w := by kernel_rfl
theorem ta_LE (v : Value) (w : World) : (Instr.typeAssert (.iface 110 v) 67 52 true).run Tryz.prog w = .ok (.tuple #[.agg #[.string ⟨#[]⟩, .slice none 0 0], .bool false]) w := by kernel_rfl
theorem ta_LA (v : Value) (w : World) : (Instr.typeAssert (.iface 110 v) 67 59 true).run Tryz.prog w = .ok (.tuple #[.agg #[.string ⟨#[]⟩, .slice none 0 0], .bool false]) w := by kernel_rfl
theorem ta_LL (v : Value) (w : World) : (Instr.typeAssert (.iface 110 v) 67 110 true).run Tryz.prog w = .ok (.tuple #[v, .bool true]) w := by kernel_rfl
theorem ta_AE (v : Value) (w : World) : (Instr.typeAssert (.iface 59 v) 67 52 true).run Tryz.prog w = .ok (.tuple #[.agg #[.string ⟨#[]⟩, .slice none 0 0], .bool false]) w := by kernel_rfl
theorem ta_AA (v : Value) (w : World) : (Instr.typeAssert (.iface 59 v) 67 59 true).run Tryz.prog w = .ok (.tuple #[v, .bool true]) w := by kernel_rfl
theorem ta_EE (v : Value) (w : World) : (Instr.typeAssert (.iface 52 v) 67 52 true).run Tryz.prog w = .ok (.tuple #[v, .bool true]) w := by kernel_rfl
theorem ru_V (args : Array Value) (w : World) : (callFunc 122 args).run Tryz.prog w = .ok (.enter 122 args) w := by kernel_rfl
theorem ru_L (args : Array Value) (w : World) : (callFunc 121 args).run Tryz.prog w = .ok (.enter 121 args) w := by kernel_rfl
theorem ru_E (args : Array Value) (w : World) : (callFunc 102 args).run Tryz.prog w = .ok (.enter 102 args) w := by kernel_rfl
theorem ru_A (args : Array Value) (w : World) : (callFunc 103 args).run Tryz.prog w = .ok (.enter 103 args) w := by kernel_rfl
set_option maxRecDepth 20000 in
set_option maxHeartbeats 1000000 in
theorem leaveRef_any (b : Bk) (v : Value) (nm : ByteArray) (w : World) (h : BkV w v b) (hok : BookOk b) :
    Calls Tryz.prog 122 #[.agg #[.string nm], v] w fun e w' => e = .returned (refV (ofC b nm [])) ∧ Below w.heap.size w w' := by
  obtain ⟨a1, c1, a2, c2, rfl, -, -⟩ := h.parts
  obtain ⟨W1, hW1, kA, kB, hB1, hs1⟩ : ∃ W1, (w.alloc (.cells #[.string nm] 112)).alloc (.cells #[.slice a1 (b).things.length c1, .slice a2 (b).bs.length c2] 30) = W1 ∧ CB W1 w.heap.size [.string nm] ∧ CB W1 (w.heap.size + 1) [.slice a1 b.things.length c1, .slice a2 b.bs.length c2] ∧ Below w.heap.size w W1 ∧ W1.heap.size = w.heap.size + 2 := ⟨_, rfl, cb2 w _ _ _ _⟩
  go_enter Tryz.func122, Tryz.ntmps122
  go_upto_region 1 with fail
  try rw [hW1]
  clear hW1
  have hk := h.up hB1
  have e0 : W1.cell? ⟨w.heap.size, 0, none⟩ = some (.string nm) := kA.1 0 _ rfl
  obtain ⟨d0, d1⟩ := kB.c2'
  go_wp2_with fail
  refine (ofNeeds_any b _ nm _ [] _ hk hok (Ls.nil _ _ _)).mono ?_
  rintro e w2 ⟨rfl, hB2⟩
  clear d0 d1 e0
  go_wp2_with fail
  go_ret
  exact ⟨rfl, up_trans hB1 hB2⟩
set_option maxRecDepth 20000 in
set_option maxHeartbeats 1000000 in
theorem lessRef_any (b : Bk) (v : Value) (nm : ByteArray) (lv : Value) (ls : List ByteArray) (w : World) (h : BkV w v b) (hok : BookOk b) (hl : Ls w lv ls) :
    Calls Tryz.prog 121 #[.agg #[.string nm, lv], v] w fun e w' => e = .returned (refV (ofC b nm ls)) ∧ Below w.heap.size w w' := by
  obtain ⟨a1, c1, a2, c2, rfl, -, -⟩ := h.parts
  obtain ⟨la, lc, rfl, -⟩ := id hl
  obtain ⟨W1, hW1, kA, kB, hB1, hs1⟩ : ∃ W1, (w.alloc (.cells #[.string nm, .slice la ls.length lc] 110)).alloc (.cells #[.slice a1 (b).things.length c1, .slice a2 (b).bs.length c2] 30) = W1 ∧ CB W1 w.heap.size [.string nm, .slice la ls.length lc] ∧ CB W1 (w.heap.size + 1) [.slice a1 b.things.length c1, .slice a2 b.bs.length c2] ∧ Below w.heap.size w W1 ∧ W1.heap.size = w.heap.size + 2 := ⟨_, rfl, cb2 w _ _ _ _⟩
  go_enter Tryz.func121, Tryz.ntmps121
  go_upto_region 1 with fail
  try rw [hW1]
  clear hW1
  have hk := h.up hB1
  have hl1 := hl.up hB1
  obtain ⟨e0, e1⟩ := kA.c2'
  obtain ⟨d0, d1⟩ := kB.c2'
  go_wp2_with fail
  refine (ofNeeds_any b _ nm _ ls _ hk hok hl1).mono ?_
  rintro e w2 ⟨rfl, hB2⟩
  clear d0 d1 e0 e1
  go_wp2_with fail
  go_ret
  exact ⟨rfl, up_trans hB1 hB2⟩
end Go.Proofs.YtialglmnfchfmadGreatDoor
