/- The program's ShareLess. -/
import Derived.Test.YtkgbdjdgcacblaaGreatDoorJ12
import Derived.Test.YtkgbdjdgcacblaaGreatDoorJ41
import Derived.Test.YtkgbdjdgcacblaaGreatDoorKre
import Derived.Test.YtkgbdjdgcacblaaGreatDoorKr4
import Derived.Laws.IdiomCopy
import Derived.Test.YtkgbdjdgcacblaaGreatDoorJ4
import Derived.Test.YtkgbdjdgcacblaaGreatDoorKf
import Derived.Shelf.Spec.SlicesInsert
namespace Go.Proofs.YtkgbdjdgcacblaaGreatDoor
open Go.RowKit

theorem less_asked (b : Bk) (nm : ByteArray) (ls : List ByteArray) : askedC b (ofC b nm ls) = lsnC b nm ls ∧ askedB b (ofC b nm ls) (chg b (plN b nm) (lessF ls)) = lsnB b nm ls := by
  cases hb : bookB b
  · obtain ⟨h1, h2⟩ := less_no (nm := nm) (needs := ls) hb
    exact ⟨by rw [h1]; simp [askedC, hb], by rw [h2]; simp [askedB, hb]⟩
  · cases hm : memS (nms b.bs) nm
    · obtain ⟨h1, h2⟩ := less_none (needs := ls) hb hm
      exact ⟨by rw [h1]; simp [askedC, hb, ofC, hm], by rw [h2]; simp [askedB, hb, ofC, hm]⟩
    · cases hp : pB (PartOk ls (needsAt b nm))
      · obtain ⟨h1, h2⟩ := less_two hb hm hp
        exact ⟨by rw [h1]; simp [askedC, hb, ofC, hm, hp], by rw [h2]; simp [askedB, hb, ofC, hm, hp]⟩
      · obtain ⟨h1, h2⟩ := less_yes hb hm hp
        exact ⟨by rw [h1]; simp [askedC, hb, ofC, hm, hp], by rw [h2]; simp [askedB, hb, ofC, hm, hp]⟩
set_option maxRecDepth 20000 in
set_option maxHeartbeats 2000000 in
theorem lessP_any (b : Bk) (v : Value) (nm : ByteArray) (lv : Value) (ls : List ByteArray) (w : World) (h : BkV w v b) (hl : Ls w lv ls) (hg : ErrT w) :
    Calls Tryz.prog 5 #[v, .string nm, lv] w fun e w' => (∃ u, e = .returned (.tuple #[u, .int .i64 (lsnC b nm ls)]) ∧ BkF w' w.heap.size u (lsnB b nm ls)) ∧ Below w.heap.size w w' := by
  have hA : ∀ W, Below w.heap.size w W → Calls Tryz.prog 15 #[v, .iface 40 (.agg #[.string nm, lv])] W fun e w' => (∃ u, e = .returned (.tuple #[u, .int .i64 (lsnC b nm ls)]) ∧ BkF w' W.heap.size u (lsnB b nm ls)) ∧ Below W.heap.size W w' := fun W hW => by
    refine answer_any b v nm _ _ (lsnC b nm ls) (lsnB b nm ls) W (h.up hW) (hg.up hW) fun X hX => ?_
    obtain ⟨e1, e2⟩ := less_asked b nm ls
    rw [← e1, ← e2]
    exact try_any b v nm _ _ 113 (ofC b nm ls) _ X ((h.up hW).up hX) (fun n w => as_whoL n _ _ w) (fun n w => as_refL n _ _ w) ru_L
      (fun hok Y hY => lessRef_any b v nm lv ls Y (((h.up hW).up hX).up hY) hok (((hl.up hW).up hX).up hY))
      (fun hok hc Y hY => doneLess_any b v nm lv ls Y (((h.up hW).up hX).up hY) (((hl.up hW).up hX).up hY) (by have := of_short hok hc; omega) hok (of_part hc).2 (of_mem hc))
  obtain ⟨a1, c1, a2, c2, rfl, -, -⟩ := h.parts
  obtain ⟨la, lc, rfl, -⟩ := id hl
  have HA : Hid (∀ W, Below w.heap.size w W → Calls Tryz.prog 15 #[.agg #[.slice a1 b.things.length c1, .slice a2 b.bs.length c2], .iface 40 (.agg #[.string nm, .slice la ls.length lc])] W fun e w' => (∃ u, e = .returned (.tuple #[u, .int .i64 (lsnC b nm ls)]) ∧ BkF w' W.heap.size u (lsnB b nm ls)) ∧ Below W.heap.size W w') := hA
  clear hA h hg hl
  obtain ⟨W1, hW1, kA, kR, hB1, hs1⟩ : ∃ W1, (w.alloc (.cells #[.slice a1 (b).things.length c1, .slice a2 (b).bs.length c2] 26)).alloc (.cells #[.slice none 0 0, .slice none 0 0] 26) = W1 ∧ CB W1 w.heap.size [.slice a1 b.things.length c1, .slice a2 b.bs.length c2] ∧ CB W1 (w.heap.size + 1) [.slice none 0 0, .slice none 0 0] ∧ Below w.heap.size w W1 ∧ W1.heap.size = w.heap.size + 2 := ⟨_, rfl, cb2 w _ _ _ _⟩
  go_enter Tryz.func5, Tryz.ntmps5
  go_upto_region 1 with fail
  try rw [hW1]
  clear hW1
  obtain ⟨e0, e1⟩ := kA.c2'
  go_wp2_with fail
  refine (HA.out _ hB1).mono ?_
  rintro e w2 ⟨⟨u, rfl, hu⟩, hb2⟩
  have kR2 := kR.up hb2 (by omega)
  have hB2 := up_trans hB1 hb2
  obtain ⟨i1, j1, i2, j2, rfl⟩ := hu.shape
  clear e0 e1 kA kR hB1 hb2 HA
  obtain ⟨⟨y0, y1⟩, q0, q1⟩ := kR2.c2
  go_wp2_with fail
  refine end_cb2b Tryz.results5 Tryz.underlying26 rfl sizeBk1 kR2 rfl rfl ?_
  exact ⟨⟨_, rfl, ((hu.set (by omega)).set (by omega)).low (by omega)⟩, below_set2 hB2 (Nat.le_succ _) _ _⟩
end Go.Proofs.YtkgbdjdgcacblaaGreatDoor

/- The program's ShareLeave. -/
namespace Go.Proofs.YtkgbdjdgcacblaaGreatDoor
open Go.RowKit

theorem leave_asked (b : Bk) (nm : ByteArray) : askedC b (ofC b nm []) = leaveC b nm ∧ askedB b (ofC b nm []) ⟨b.things, b.bs.take (plN b nm) ++ b.bs.drop (plN b nm + 1)⟩ = leaveB b nm := by
  cases hb : bookB b
  · obtain ⟨h1, h2⟩ := leave_no (nm := nm) hb
    exact ⟨by rw [h1]; simp [askedC, hb], by rw [h2]; simp [askedB, hb]⟩
  · cases hm : memS (nms b.bs) nm
    · obtain ⟨h1, h2⟩ := leave_none hb hm
      exact ⟨by rw [h1]; simp [askedC, hb, ofC, hm], by rw [h2]; simp [askedB, hb, ofC, hm]⟩
    · obtain ⟨h1, h2⟩ := leave_yes hb hm
      exact ⟨by rw [h1]; simp [askedC, hb, ofC, hm, part_nil], by rw [h2]; simp [askedB, hb, ofC, hm, part_nil]⟩
set_option maxRecDepth 20000 in
set_option maxHeartbeats 2000000 in
theorem leaveP_any (b : Bk) (v : Value) (nm : ByteArray) (w : World) (h : BkV w v b) (hg : ErrT w) :
    Calls Tryz.prog 9 #[v, .string nm] w fun e w' => (∃ u, e = .returned (.tuple #[u, .int .i64 (leaveC b nm)]) ∧ BkF w' w.heap.size u (leaveB b nm)) ∧ Below w.heap.size w w' := by
  have hA : ∀ W, Below w.heap.size w W → Calls Tryz.prog 15 #[v, .iface 51 (.agg #[.string nm])] W fun e w' => (∃ u, e = .returned (.tuple #[u, .int .i64 (leaveC b nm)]) ∧ BkF w' W.heap.size u (leaveB b nm)) ∧ Below W.heap.size W w' := fun W hW => by
    refine answer_any b v nm _ _ (leaveC b nm) (leaveB b nm) W (h.up hW) (hg.up hW) fun X hX => ?_
    obtain ⟨e1, e2⟩ := leave_asked b nm
    rw [← e1, ← e2]
    exact try_any b v nm _ _ 115 (ofC b nm []) _ X ((h.up hW).up hX) (fun n w => as_whoV n _ w) (fun n w => as_refV n _ w) ru_V
      (fun hok Y hY => leaveRef_any b v nm Y (((h.up hW).up hX).up hY) hok)
      (fun hok hc Y hY => doneLeave_any b v nm Y (((h.up hW).up hX).up hY) hok (of_mem hc))
  obtain ⟨a1, c1, a2, c2, rfl, -, -⟩ := h.parts
  have HA : Hid (∀ W, Below w.heap.size w W → Calls Tryz.prog 15 #[.agg #[.slice a1 b.things.length c1, .slice a2 b.bs.length c2], .iface 51 (.agg #[.string nm])] W fun e w' => (∃ u, e = .returned (.tuple #[u, .int .i64 (leaveC b nm)]) ∧ BkF w' W.heap.size u (leaveB b nm)) ∧ Below W.heap.size W w') := hA
  clear hA h hg
  obtain ⟨W1, hW1, kA, kR, hB1, hs1⟩ : ∃ W1, (w.alloc (.cells #[.slice a1 (b).things.length c1, .slice a2 (b).bs.length c2] 26)).alloc (.cells #[.slice none 0 0, .slice none 0 0] 26) = W1 ∧ CB W1 w.heap.size [.slice a1 b.things.length c1, .slice a2 b.bs.length c2] ∧ CB W1 (w.heap.size + 1) [.slice none 0 0, .slice none 0 0] ∧ Below w.heap.size w W1 ∧ W1.heap.size = w.heap.size + 2 := ⟨_, rfl, cb2 w _ _ _ _⟩
  go_enter Tryz.func9, Tryz.ntmps9
  go_upto_region 1 with fail
  try rw [hW1]
  clear hW1
  obtain ⟨e0, e1⟩ := kA.c2'
  go_wp2_with fail
  refine (HA.out _ hB1).mono ?_
  rintro e w2 ⟨⟨u, rfl, hu⟩, hb2⟩
  have kR2 := kR.up hb2 (by omega)
  have hB2 := up_trans hB1 hb2
  obtain ⟨i1, j1, i2, j2, rfl⟩ := hu.shape
  clear e0 e1 kA kR hB1 hb2 HA
  obtain ⟨⟨y0, y1⟩, q0, q1⟩ := kR2.c2
  go_wp2_with fail
  refine end_cb2b Tryz.results9 Tryz.underlying26 rfl sizeBk1 kR2 rfl rfl ?_
  exact ⟨⟨_, rfl, ((hu.set (by omega)).set (by omega)).low (by omega)⟩, below_set2 hB2 (Nat.le_succ _) _ _⟩
end Go.Proofs.YtkgbdjdgcacblaaGreatDoor

/- The program's chapter 13: a batch put into a row: cells copied, a row spliced. -/
namespace Go.Proofs.YtkgbdjdgcacblaaGreatDoor
open Go.RowKit

/-- A copy of elements of several cells: all is read before anything is written. -/
theorem run_copyN {P : Program} (w : World) (dT sT ty elem : TypeId) (size b o dLen dCap : Nat) (a : Addr) (sLen sCap : Nat) (cs : List Value)
    (hu : P.underlying dT = some (.slice elem)) (hs : (P.info? elem).map (·.size) = some size) (hn : cs.length = Nat.min sLen dLen * size)
    (hsrc : ∀ j v, cs[j]? = some v → w.cell? (a.add j) = some v) (hc : ∀ j, j < cs.length → (w.cell? ⟨b, o + j, none⟩).isSome = true) (hf : ∀ j, j < cs.length → w.frozen? ⟨b, o + j, none⟩ = false) (h1 : ∀ v ∈ cs, v.oneCell' = true) :
    (Builtin.copy_ #[dT, sT] ty #[.slice (some ⟨b, o, none⟩) dLen dCap, .slice (some a) sLen sCap]).run P w = .ok (goInt (Nat.min sLen dLen)) (w.setCells b o cs) := by
  have hl := run_loadCells_list (P := P) w a cs hsrc
  have hst := run_storeCells_cells (P := P) b o cs 0 w (by simpa using hc) (by simpa using hf) h1
  cases hq : P.info? elem with
  | none => simp [hq] at hs
  | some i =>
    have hi : i.size = size := by simpa [hq] using hs
    simp [Builtin.copy_, run_underlying hu, Builtin.lenOf, Builtin.firstCells, sizeOf, typeInfo, hq, hi, ← hn, hl, hst]
/-- A row of one's own, with more of its room. -/
theorem own_more {w : World} {base e size n m c g : Nat} {xs : List Value} (h : w.ownsRow base e size (.slice (some ⟨g, 0, none⟩) n c) n xs) (hn : n ≤ m) (hm : m ≤ c) : ∃ ys, ys.length = (m - n) * size ∧ w.ownsRow base e size (.slice (some ⟨g, 0, none⟩) m c) m (xs ++ ys) := by
  have hl := h.1
  rcases h.2 with ⟨h0, _⟩ | ⟨g', cap, cur, h', h1, h2, h3, h4, h5, h6⟩
  · simp at h0
  · obtain ⟨e1, -, rfl⟩ := Value.slice.inj h'
    obtain rfl : g = g' := by simpa using e1
    have hmul : n * size ≤ m * size := Nat.mul_le_mul_right _ hn
    have hmul2 : m * size ≤ c * size := Nat.mul_le_mul_right _ hm
    have hcl : cur.toList.length = c * size := by simpa using h5
    refine ⟨(cur.toList.take (m * size)).drop (n * size), ?_, ?_, .inr ⟨g, c, cur, rfl, h1, h2, hm, h4, h5, ?_⟩⟩
    · rw [List.length_drop, List.length_take, hcl, Nat.min_eq_left hmul2, Nat.sub_mul]
    · rw [List.length_append, hl, List.length_drop, List.length_take, hcl, Nat.min_eq_left hmul2]; omega
    · rw [← h6]
      conv => lhs; rw [← List.take_append_drop (n * size) (cur.toList.take (m * size))]
      rw [List.take_take, Nat.min_eq_left hmul]
/-- Cells written over in a row of one's own. -/
theorem own_splice {base e size n c g : Nat} : ∀ (vs : List Value) (o : Nat) (w : World) (xs : List Value), w.ownsRow base e size (.slice (some ⟨g, 0, none⟩) n c) n xs → o + vs.length ≤ xs.length →
    (w.setCells g o vs).ownsRow base e size (.slice (some ⟨g, 0, none⟩) n c) n (xs.take o ++ vs ++ xs.drop (o + vs.length)) ∧ w.grownBy (w.setCells g o vs) (some g)
  | [], o, w, xs, h, _ => by
    refine ⟨?_, grown_refl _ _⟩
    simpa [World.setCells] using h
  | v :: r, o, w, xs, h, ho => by
    obtain ⟨s1, s2⟩ := World.ownsRow.stored h o v
    simp only [List.length_cons] at ho
    obtain ⟨t1, t2⟩ := own_splice r (o + 1) (w.setCell ⟨g, o, none⟩ v) (xs.set o v) s1 (by rw [List.length_set]; omega)
    refine ⟨?_, grown_trans s2 t2⟩
    have e : (xs.set o v).take (o + 1) ++ r ++ (xs.set o v).drop (o + 1 + r.length) = xs.take o ++ (v :: r) ++ xs.drop (o + (v :: r).length) := by
      have hlt : o < xs.length := by omega
      rw [List.take_set, List.drop_set_of_lt (by omega), List.take_succ_eq_append_getElem hlt, List.set_append_right _ _ (by rw [List.length_take]; omega), List.length_take, Nat.min_eq_left (by omega), Nat.sub_self]
      simp [Nat.add_assoc, Nat.add_comm 1]
    rw [e] at t1
    exact t1
end Go.Proofs.YtkgbdjdgcacblaaGreatDoor

/- The program's chapter 13: a batch put into a row (slices.Insert): at its end; where there is room. -/
namespace Go.Proofs.YtkgbdjdgcacblaaGreatDoor
open Go.RowKit Go.Shelf Go.Lib

/-- The batch to be put in, in a block of its own. -/
def NewB (w : World) (vb : Nat) (p : Bv) : Prop := w.heap[vb]? = some (.cells #[.string p.1.nm, p.2.1, p.2.2] 45 (0, 0))
theorem NewB.cell {w : World} {vb : Nat} {p : Bv} (h : NewB w vb p) : ∀ (j : Nat) (u : Value), (rowB p)[j]? = some u → w.cell? ((⟨vb, 0, none⟩ : Addr).add j) = some u := fun j u hu => by
  rw [Addr.add_mid, Nat.zero_add, cell_of_row w vb j _ 45 (0, 0) h]
  match j, hu with
  | 0, hu => simpa [rowB] using hu
  | 1, hu => simpa [rowB] using hu
  | 2, hu => simpa [rowB] using hu
theorem NewB.frozen {w : World} {vb : Nat} {p : Bv} (h : NewB w vb p) (j : Nat) : w.frozen? ⟨vb, j, none⟩ = false := by
  simp [World.frozen?, show w.heap[vb]? = _ from h]
theorem NewB.shape {w : World} {vb : Nat} {p : Bv} (h : NewB w vb p) : w.shape? vb = some (45, 3) := by
  simp [World.shape?, show w.heap[vb]? = _ from h]
theorem own_shapeB {w : World} {base e size n c g : Nat} {xs : List Value} (h : w.ownsRow base e size (.slice (some ⟨g, 0, none⟩) n c) n xs) : w.shape? g = some (e, c * size) := by
  rcases h.2 with ⟨h0, _⟩ | ⟨g', cap, cur, h', h1, h2, h3, h4, h5, h6⟩
  · simp at h0
  · obtain ⟨e1, -, rfl⟩ := Value.slice.inj h'
    obtain rfl : g = g' := by simpa using e1
    simp [World.shape?, h2, h5]
theorem sizeBat3 (w : World) : (Go.sizeOf 45).run Tryz.prog w = .ok 3 w := by kernel_rfl
set_option maxRecDepth 20000 in
set_option maxHeartbeats 2000000 in
theorem insert_end (ps : List Bv) (p : Bv) (v : Value) (base vb : Nat) (w : World) (hn : ps.length ≤ 100) (hrow : w.ownsRow base 45 3 v ps.length (rowsB ps)) (hB : NewB w vb p) (hone : ∀ u ∈ rowB p, u.oneCell' = true) (hz : base ≤ w.heap.size) :
    Calls Tryz.prog 61 #[v, .int .i64 ps.length, .slice (some ⟨vb, 0, none⟩) 1 1] w
      fun e w' => ∃ u, e = .returned u ∧ w'.ownsRow base 45 3 u (ps.length + 1) (rowsB (ps ++ [p])) ∧ w.grownBy w' v.ownBlock ∧ Where w v u := by
  obtain ⟨ii, hi, iz0, iz1, iz2⟩ := info_parts infoBat1
  obtain ⟨v1, w1, hr, hown1, hgr1, -⟩ := run_append_own (P := Tryz.prog) w base 24 24 45 ii _ 3 64 Tryz.underlying24 hi iz0 iz1 iz2 rfl (by decide) v ps.length (rowsB ps) hrow ⟨vb, 0, none⟩ 1 1 (rowB p) rfl hB.cell hone (by unfold maxLen; omega) (by omega) hz
  have hwh : Where w v v1 := append_where base 24 24 45 ii _ 3 64 Tryz.underlying24 hi iz0 iz1 iz2 v ps.length (rowsB ps) hrow ⟨vb, 0, none⟩ 1 1 (rowB p) rfl hB.cell hone (by omega) (by unfold maxLen; omega) (by omega) hr
  have hown2 : w1.ownsRow base 45 3 v1 (ps.length + 1) (rowsB (ps ++ [p])) := by
    rw [rowsB_snoc]; exact hown1
  obtain ⟨a, c, hv⟩ := own_shape hrow
  subst hv
  have hc : ps.length ≤ c ∧ c ≤ 9223372036854775807 := by
    rcases hrow.2 with ⟨h0, h1⟩ | ⟨g', cap, cur, h', h1, h2, h3, h4, h5, h6⟩
    · obtain ⟨-, -, rfl⟩ := Value.slice.inj h0
      omega
    · obtain ⟨-, -, rfl⟩ := Value.slice.inj h'
      unfold maxLen at h4
      omega
  obtain ⟨hc1, hc2⟩ := hc
  obtain ⟨b1, d1, hv1⟩ := own_shape hown1
  subst hv1
  clear hown1
  go_enter Tryz.func61, Tryz.ntmps61
  go_wp2_with (at_builtin; refine wpList_append_run _ rfl _ _ _ _ rfl _ _ _ _ rfl rfl hr ?_)
  all_goals
    go_ret
    exact ⟨_, rfl, hown2, by cases a <;> exact hgr1, by cases a <;> exact hwh⟩
theorem ins_rows (ps : List Bv) (p : Bv) (k : Nat) (ys : List Value) (hk : k < ps.length) (hy : ys.length = 3) :
    let xs := rowsB ps ++ ys
    let xs2 := xs.take ((k + 1) * 3) ++ rowsB (ps.drop k) ++ xs.drop ((k + 1) * 3 + (rowsB (ps.drop k)).length)
    xs2.take (k * 3) ++ rowB p ++ xs2.drop (k * 3 + (rowB p).length) = rowsB (ps.take k ++ p :: ps.drop k) := by
  intro xs xs2
  have h1 : (rowsB ps).length = ps.length * 3 := rowsB_length ps
  have h2 : (rowsB (ps.drop k)).length = (ps.length - k) * 3 := by rw [rowsB_length, List.length_drop]
  have hxl : xs.length = (ps.length + 1) * 3 := by show (rowsB ps ++ ys).length = _; rw [List.length_append, h1, hy]; omega
  have h3 : xs.drop ((k + 1) * 3 + (rowsB (ps.drop k)).length) = [] := List.drop_eq_nil_of_le (by rw [hxl, h2]; omega)
  have h4 : xs2 = xs.take ((k + 1) * 3) ++ rowsB (ps.drop k) := by show _ ++ _ ++ _ = _; rw [h3, List.append_nil]
  have h5 : (xs.take ((k + 1) * 3)).length = (k + 1) * 3 := by rw [List.length_take, hxl]; omega
  have h6 : xs2.take (k * 3) = rowsB (ps.take k) := by
    rw [h4, List.take_append_of_le_length (by rw [h5]; omega), List.take_take, Nat.min_eq_left (by omega)]
    show (rowsB ps ++ ys).take (k * 3) = _
    rw [List.take_append_of_le_length (by rw [h1]; omega), rowsB_take ps k (by omega)]
  have h7 : xs2.drop (k * 3 + (rowB p).length) = rowsB (ps.drop k) := by
    have hb : (rowB p).length = 3 := rfl
    rw [h4, hb, show k * 3 + 3 = (k + 1) * 3 by omega]
    exact List.drop_left' h5
  rw [h6, h7, rowsB_append]
  simp [rowsB]
set_option maxHeartbeats 1000000 in
theorem insert_runs (ps : List Bv) (p : Bv) (k g c base vb : Nat) (w : World) (hk : k < ps.length) (_ : ps.length ≤ 100) (hroom : ps.length + 1 ≤ c) (hrow : w.ownsRow base 45 3 (.slice (some ⟨g, 0, none⟩) ps.length c) ps.length (rowsB ps)) (hone : ∀ u ∈ rowsB ps, u.oneCell' = true) (hB : NewB w vb p) (hop : ∀ u ∈ rowB p, u.oneCell' = true) (hne : vb ≠ g) :
    (∀ lb cb, (callFunc 75 #[.slice (some ⟨vb, 0, none⟩) 1 1, .slice (some ⟨g, (k + 1) * 3, none⟩) lb cb]).run Tryz.prog w = .ok (.value (.bool false)) w) ∧
    ∃ W w', (∀ ty dc sc, (Builtin.copy_ #[24, 24] ty #[.slice (some ⟨g, (k + 1) * 3, none⟩) (ps.length - k) dc, .slice (some ⟨g, k * 3, none⟩) (ps.length + 1 - k) sc]).run Tryz.prog w.drew = .ok (goInt ((ps.length - k : Nat) : Int)) W) ∧
      (∀ ty dc, (Builtin.copy_ #[24, 24] ty #[.slice (some ⟨g, k * 3, none⟩) (ps.length + 1 - k) dc, .slice (some ⟨vb, 0, none⟩) 1 1]).run Tryz.prog W = .ok (goInt ((1 : Nat) : Int)) w') ∧
      w'.ownsRow base 45 3 (.slice (some ⟨g, 0, none⟩) (ps.length + 1) c) (ps.length + 1) (rowsB (ps.take k ++ p :: ps.drop k)) ∧ w.grownBy W (some g) ∧ w.grownBy w' (some g) ∧ c ≤ 9223372036854775807 := by
  have hsz : (Tryz.prog.info? 45).map (·.size) = some 3 := by kernel_rfl
  obtain ⟨ys, hyl, hrow1⟩ := own_more hrow (Nat.le_succ _) hroom
  have hy3 : ys.length = 3 := by rw [hyl]; omega
  have hrowd : w.drew.ownsRow base 45 3 (.slice (some ⟨g, 0, none⟩) (ps.length + 1) c) (ps.length + 1) (rowsB ps ++ ys) := hrow1
  have hl1 : (rowsB ps).length = ps.length * 3 := rowsB_length ps
  have hld : (rowsB (ps.drop k)).length = (ps.length - k) * 3 := by rw [rowsB_length, List.length_drop]
  have hxl : (rowsB ps ++ ys).length = (ps.length + 1) * 3 := by rw [List.length_append, hl1, hy3]; omega
  obtain ⟨t1, t2⟩ := own_splice (rowsB (ps.drop k)) ((k + 1) * 3) w.drew (rowsB ps ++ ys) hrowd (by rw [hxl, hld]; omega)
  have hxl2 : ((rowsB ps ++ ys).take ((k + 1) * 3) ++ rowsB (ps.drop k) ++ (rowsB ps ++ ys).drop ((k + 1) * 3 + (rowsB (ps.drop k)).length)).length = (ps.length + 1) * 3 := t1.1
  obtain ⟨s1, s2⟩ := own_splice (rowB p) (k * 3) (w.drew.setCells g ((k + 1) * 3) (rowsB (ps.drop k))) _ t1 (by rw [hxl2]; show k * 3 + 3 ≤ _; omega)
  rw [ins_rows ps p k ys hk hy3] at s1
  have hBd : NewB (w.drew.setCells g ((k + 1) * 3) (rowsB (ps.drop k))) vb p := by
    have := t2.block vb (Array.getElem?_eq_some_iff.1 (show w.heap[vb]? = _ from hB)).1 (by simpa using hne)
    unfold NewB
    rw [this]; exact hB
  refine ⟨fun lb cb => ?_, _, _, fun ty dc sc => ?_, fun ty dc => ?_, s1, grown_trans (grown_drew (grown_refl w _)) t2, grown_trans (grown_drew (grown_refl w _)) (grown_trans t2 s2), ?_⟩
  · rw [run_callFunc_extern Tryz.func75 (by kernel_rfl) (by kernel_rfl) (by kernel_rfl) (e := Extern.SlicesOverlaps.overlaps #[24, 24] #[4]) (by kernel_rfl),
      Lib.run_overlaps_apart w 24 4 45 Tryz.underlying24 3 sizeBat3 ⟨vb, 0, none⟩ ⟨g, (k + 1) * 3, none⟩ 1 1 lb cb hne _ _ _ _ hB.shape (own_shapeB hrow) (by omega) (hB.frozen 0) (hB.frozen 3)]
    rfl
  · have h := run_copyN (P := Tryz.prog) w.drew 24 24 ty 45 3 g ((k + 1) * 3) (ps.length - k) dc ⟨g, k * 3, none⟩ (ps.length + 1 - k) sc (rowsB (ps.drop k)) Tryz.underlying24 hsz (by rw [hld, show Nat.min (ps.length + 1 - k) (ps.length - k) = ps.length - k from Nat.min_eq_right (by omega)])
      (rows_cells hrow k (ps.drop k) (drop_at ps k)) (fun j hj => ?_) (fun j hj => hrowd.frozenAt _) (fun u hu => hone u (by
        rw [← List.take_append_drop k ps, rowsB_append]
        exact List.mem_append_right _ hu))
    · rw [h, show Nat.min (ps.length + 1 - k) (ps.length - k) = ps.length - k from Nat.min_eq_right (by omega)]
    · rw [hrowd.cellAt _ (by rw [hld] at hj; omega), List.getElem?_eq_getElem (by rw [hxl]; rw [hld] at hj; omega)]; rfl
  · have h := run_copyN (P := Tryz.prog) (w.drew.setCells g ((k + 1) * 3) (rowsB (ps.drop k))) 24 24 ty 45 3 g (k * 3) (ps.length + 1 - k) dc ⟨vb, 0, none⟩ 1 1 (rowB p) Tryz.underlying24 hsz (by rw [show Nat.min 1 (ps.length + 1 - k) = 1 from Nat.min_eq_left (by omega)]; rfl)
      hBd.cell (fun j hj => ?_) (fun j hj => t1.frozenAt _) hop
    · rw [h, show Nat.min 1 (ps.length + 1 - k) = 1 from Nat.min_eq_left (by omega)]
    · have hj3 : j < 3 := hj
      rw [t1.cellAt _ (by omega), List.getElem?_eq_getElem (by rw [hxl2]; omega)]; rfl
  · have := (own_cap2 hrow).2
    unfold maxLen at this
    omega
end Go.Proofs.YtkgbdjdgcacblaaGreatDoor

/- The program's chapter 13: a batch put into a row (slices.Insert) where there is room. -/
namespace Go.Proofs.YtkgbdjdgcacblaaGreatDoor
open Go.RowKit Go.Shelf Go.Lib

set_option maxRecDepth 20000 in
set_option maxHeartbeats 4000000 in
theorem insert_room (ps : List Bv) (p : Bv) (k g c base vb : Nat) (w : World) (hk : k < ps.length) (hn : ps.length ≤ 100) (hroom : ps.length + 1 ≤ c) (hrow : w.ownsRow base 45 3 (.slice (some ⟨g, 0, none⟩) ps.length c) ps.length (rowsB ps)) (hone : ∀ u ∈ rowsB ps, u.oneCell' = true) (hB : NewB w vb p) (hop : ∀ u ∈ rowB p, u.oneCell' = true) (hne : vb ≠ g) :
    Calls Tryz.prog 61 #[(.slice (some ⟨g, 0, none⟩) ps.length c), .int .i64 k, .slice (some ⟨vb, 0, none⟩) 1 1] w
      fun e w' => e = .returned (.slice (some ⟨g, 0, none⟩) (ps.length + 1) c) ∧ w'.ownsRow base 45 3 (.slice (some ⟨g, 0, none⟩) (ps.length + 1) c) (ps.length + 1) (rowsB (ps.take k ++ p :: ps.drop k)) ∧ w.grownBy w' (some g) := by
  obtain ⟨hov, W, w4, hc1, hc2, hown, hgW, hg4, hcm⟩ := insert_runs ps p k g c base vb w hk hn hroom hrow hone hB hop hne
  have hS1 : Below 0 w w.drew := (Below.refl _ _).drew
  have hS2 : Below 0 w W := below_ownB (Below.refl 0 w) (Nat.zero_le _) hrow hgW (Nat.zero_le _)
  have hb1 : ¬ ((k : Int) = (ps.length : Int)) := by omega
  have hb2 : ¬ (c = k + 1) := by omega
  have hb4 : ¬ (c = k) := by omega
  have hb5 : k ≤ ps.length := by omega
  have hb6 : (k : Int) ≤ (ps.length : Int) := by omega
  have hb7 : ¬ ((c : Int) < (ps.length : Int) + 1) := by omega
  have hb8 : (ps.length : Int) + 1 ≤ (c : Int) := by omega
  have hw1 : IntKind.i64.wrap ((k : Int) + 1) = (k : Int) + 1 := by rw [IntKind.wrap_i64]; omega
  have hw3 : 0 ≤ (k : Int) + 1 := by omega
  have hw4 : (k : Int) + 1 ≤ (ps.length : Int) + 1 := by omega
  have hw5 : (k : Int) ≤ (ps.length : Int) + 1 := by omega
  have hn1 : ((k : Int) + 1).toNat = k + 1 := by omega
  have hn2 : ((ps.length : Int) + 1).toNat = ps.length + 1 := by omega
  clear hrow hone hB hop hgW
  go_enter Tryz.func61, Tryz.ntmps61
  go_wp2_with (simp only [hov])
  refine wp_region_x 99 (fun w' => Below 0 w w') (by kernel_rfl) ?_
  refine anyX_take (i := 0) (v := ?_) rfl (by kernel_rfl) (by kernel_rfl) (by kernel_rfl) (by kernel_rfl) (fun _ _ _ h => h) (by rfl) hS1 ?_ ?_; rotate_left; focus (intro w hSw; (try dsimp only at hSw); go_simp; try with_reducible rfl); (try simp only [Act.put, List.setIfInBounds_toArray, List.set_cons_zero, List.set_cons_succ])
  refine anyX_take (i := 1) (v := ?_) rfl (by kernel_rfl) (by kernel_rfl) (by kernel_rfl) (by kernel_rfl) (fun _ _ _ h => h) (by rfl) hS1 ?_ ?_; rotate_left; focus (intro w hSw; (try dsimp only at hSw); go_simp; try with_reducible rfl); (try simp only [Act.put, List.setIfInBounds_toArray, List.set_cons_zero, List.set_cons_succ])
  refine anyX_take (i := 2) (v := ?_) rfl (by kernel_rfl) (by kernel_rfl) (by kernel_rfl) (by kernel_rfl) (fun _ _ _ h => h) (by rfl) hS1 ?_ ?_; rotate_left; focus (intro w hSw; (try dsimp only at hSw); go_simp; try with_reducible rfl); (try simp only [Act.put, List.setIfInBounds_toArray, List.set_cons_zero, List.set_cons_succ])
  refine anyX_take (i := 3) (v := ?_) rfl (by kernel_rfl) (by kernel_rfl) (by kernel_rfl) (by kernel_rfl) (fun _ _ _ h => h) (by rfl) hS1 ?_ ?_; rotate_left; focus (intro w hSw; (try dsimp only at hSw); go_simp; try with_reducible rfl); (try simp only [Act.put, List.setIfInBounds_toArray, List.set_cons_zero, List.set_cons_succ])
  refine anyX_take (i := 4) (v := ?_) rfl (by kernel_rfl) (by kernel_rfl) (by kernel_rfl) (by kernel_rfl) (fun _ _ _ h => h) (by rfl) hS1 ?_ ?_; rotate_left; focus (intro w hSw; (try dsimp only at hSw); go_simp; try with_reducible rfl); (try simp only [Act.put, List.setIfInBounds_toArray, List.set_cons_zero, List.set_cons_succ])
  refine anyX_take (i := 5) (v := ?_) rfl (by kernel_rfl) (by kernel_rfl) (by kernel_rfl) (by kernel_rfl) (fun _ _ _ h => h) (by rfl) hS1 ?_ ?_; rotate_left; focus (intro w hSw; (try dsimp only at hSw); go_simp; try with_reducible rfl); (try simp only [Act.put, List.setIfInBounds_toArray, List.set_cons_zero, List.set_cons_succ])
  refine anyX_take (i := 6) (v := ?_) rfl (by kernel_rfl) (by kernel_rfl) (by kernel_rfl) (by kernel_rfl) (fun _ _ _ h => h) (by rfl) hS1 ?_ ?_; rotate_left; focus (intro w hSw; (try dsimp only at hSw); go_simp; try with_reducible rfl); (try simp only [Act.put, List.setIfInBounds_toArray, List.set_cons_zero, List.set_cons_succ])
  refine anyX_take (i := 7) (v := ?_) rfl (by kernel_rfl) (by kernel_rfl) (by kernel_rfl) (by kernel_rfl) (fun _ _ _ h => h) (by rfl) hS1 ?_ ?_; rotate_left; focus (intro w hSw; (try dsimp only at hSw); go_simp; try with_reducible rfl); (try simp only [Act.put, List.setIfInBounds_toArray, List.set_cons_zero, List.set_cons_succ])
  refine anyX_one (i := 8) (by kernel_rfl) rfl (fun K hK => ?_)
  refine step_copy_runI rfl _ _ 24 24 rfl (.slice (some ⟨g, (k + 1) * 3, none⟩) (ps.length - k) (c - (k + 1))) (.slice (some ⟨g, k * 3, none⟩) (ps.length + 1 - k) (c - k)) (by simp [Act.eval, Act.put]) (by simp [Act.eval, Act.put]) (hc1 _ _ _) ?_
  refine hK.out _ _ (fun _ => hS2) ?_; clear hK K; (try simp only [Act.put, List.setIfInBounds_toArray])
  refine anyX_done (by kernel_rfl) ?_ _
  go_wp2_with (at_builtin; refine wpList_copy_runI _ rfl _ _ 24 24 rfl _ _ rfl rfl (hc2 _ _) ?_)
  go_ret
  exact ⟨rfl, hown, hg4⟩
end Go.Proofs.YtkgbdjdgcacblaaGreatDoor
