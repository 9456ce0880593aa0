/- The program's ShareLeave. -/
import Derived.Test.YtialglmnfchfmaeGreatDoorKra
namespace Go.Proofs.YtialglmnfchfmaeGreatDoor
open Go.RowKit

theorem leave_asked (b : Bk) (nm : ByteArray) : askedC b (ofC b nm []) = leaveC b nm ∧ askedB b (ofC b nm []) ⟨b.things, b.bs.take (plN b nm) ++ b.bs.drop (plN b nm + 1)⟩ = leaveB b nm := by
  cases hb : bookB b
  · obtain ⟨h1, h2⟩ := leave_no (nm := nm) hb
    exact ⟨by rw [h1]; simp [askedC, hb], by rw [h2]; simp [askedB, hb]⟩
  · cases hm : memS (nms b.bs) nm
    · obtain ⟨h1, h2⟩ := leave_none hb hm
      exact ⟨by rw [h1]; simp [askedC, hb, ofC, hm], by rw [h2]; simp [askedB, hb, ofC, hm]⟩
    · obtain ⟨h1, h2⟩ := leave_yes hb hm
      exact ⟨by rw [h1]; simp [askedC, hb, ofC, hm, part_nil], by rw [h2]; simp [askedB, hb, ofC, hm, part_nil]⟩
theorem of_mem {b : Bk} {nm : ByteArray} {ls : List ByteArray} (h : ofC b nm ls = 0) : memS (nms b.bs) nm = true := by
  cases hm : memS (nms b.bs) nm
  · rw [of_none hm] at h; omega
  · rfl
set_option maxRecDepth 20000 in
set_option maxHeartbeats 2000000 in
theorem leaveP_any (b : Bk) (v : Value) (nm : ByteArray) (w : World) (h : BkV w v b) (hg : ErrT w) :
    Calls Tryz.prog 18 #[v, .string nm] w fun e w' => (∃ u, e = .returned (.tuple #[u, .int .i64 (leaveC b nm)]) ∧ BkF w' w.heap.size u (leaveB b nm)) ∧ Below w.heap.size w w' := by
  have hA : ∀ W, Below w.heap.size w W → Calls Tryz.prog 34 #[v, .iface 73 (.agg #[.string nm])] W fun e w' => (∃ u, e = .returned (.tuple #[u, .int .i64 (leaveC b nm)]) ∧ BkF w' W.heap.size u (leaveB b nm)) ∧ Below W.heap.size W w' := fun W hW => by
    refine answer_any b v nm _ _ (leaveC b nm) (leaveB b nm) W (h.up hW) (hg.up hW) fun X hX => ?_
    obtain ⟨e1, e2⟩ := leave_asked b nm
    rw [← e1, ← e2]
    exact try_any b v nm _ _ 177 (ofC b nm []) _ X ((h.up hW).up hX) (fun n w => as_whoV n _ w) (fun n w => as_refV n _ w) ru_V
      (fun hok Y hY => leaveRef_any b v nm Y (((h.up hW).up hX).up hY) hok)
      (fun hok hc Y hY => doneLeave_any b v nm Y (((h.up hW).up hX).up hY) hok (of_mem hc))
  obtain ⟨a1, c1, a2, c2, rfl, -, -⟩ := h.parts
  have HA : Hid (∀ W, Below w.heap.size w W → Calls Tryz.prog 34 #[.agg #[.slice a1 b.things.length c1, .slice a2 b.bs.length c2], .iface 73 (.agg #[.string nm])] W fun e w' => (∃ u, e = .returned (.tuple #[u, .int .i64 (leaveC b nm)]) ∧ BkF w' W.heap.size u (leaveB b nm)) ∧ Below W.heap.size W w') := hA
  clear hA h hg
  obtain ⟨W1, hW1, kA, kR, hB1, hs1⟩ : ∃ W1, (w.alloc (.cells #[.slice a1 (b).things.length c1, .slice a2 (b).bs.length c2] 30)).alloc (.cells #[.slice none 0 0, .slice none 0 0] 30) = W1 ∧ CB W1 w.heap.size [.slice a1 b.things.length c1, .slice a2 b.bs.length c2] ∧ CB W1 (w.heap.size + 1) [.slice none 0 0, .slice none 0 0] ∧ Below w.heap.size w W1 ∧ W1.heap.size = w.heap.size + 2 := ⟨_, rfl, cb2 w _ _ _ _⟩
  go_enter Tryz.func18, Tryz.ntmps18
  go_upto_region 1 with fail
  try rw [hW1]
  clear hW1
  obtain ⟨e0, e1⟩ := kA.c2'
  go_wp2_with fail
  refine (HA.out _ hB1).mono ?_
  rintro e w2 ⟨⟨u, rfl, hu⟩, hb2⟩
  have kR2 := kR.up hb2 (by omega)
  have hB2 := up_trans hB1 hb2
  obtain ⟨i1, j1, i2, j2, rfl⟩ := hu.shape
  clear e0 e1 kA kR hB1 hb2 HA
  obtain ⟨⟨y0, y1⟩, q0, q1⟩ := kR2.c2
  go_wp2_with fail
  refine end_cb2b Tryz.results18 Tryz.underlying30 rfl sizeBk1 kR2 rfl rfl ?_
  exact ⟨⟨_, rfl, ((hu.set (by omega)).set (by omega)).low (by omega)⟩, below_set2 hB2 (Nat.le_succ _) _ _⟩
end Go.Proofs.YtialglmnfchfmaeGreatDoor
