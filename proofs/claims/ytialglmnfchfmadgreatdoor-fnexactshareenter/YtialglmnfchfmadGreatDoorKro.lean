/- The program's chapter 13: a batch put into a row, by whatever road; why coming in is refused. -/
import Derived.Test.YtialglmnfchfmadGreatDoorKrn
import Derived.Test.YtialglmnfchfmadGreatDoorK21
import Derived.Test.YtialglmnfchfmadGreatDoorK2
namespace Go.Proofs.YtialglmnfchfmadGreatDoor
open Go.RowKit

theorem insert_any (ps : List Bv) (p : Bv) (k : Nat) (v : Value) (base vb : Nat) (w : World) (hk : k ≤ ps.length) (hn : ps.length ≤ 100) (hrow : w.ownsRow base 45 3 v ps.length (rowsB ps)) (hone : ∀ u ∈ rowsB ps, u.oneCell' = true) (hB : NewB w vb p) (hop : ∀ u ∈ rowB p, u.oneCell' = true) (hne : v.ownBlock ≠ some vb) (hz : base ≤ w.heap.size) :
    Calls Tryz.prog 59 #[v, .int .i64 k, .slice (some ⟨vb, 0, none⟩) 1 1] w
      fun e w' => ∃ u, e = .returned u ∧ w'.ownsRow base 45 3 u (ps.length + 1) (rowsB (ps.take k ++ p :: ps.drop k)) ∧ w.grownBy w' v.ownBlock ∧ Where w v u := by
  by_cases h0 : k = ps.length
  · subst h0
    rw [List.take_length, List.drop_length]
    exact insert_end ps p v base vb w hn hrow hB hop hz
  · obtain ⟨g, c, rfl⟩ := own_ptr2 hrow (by omega)
    have hne' : vb ≠ g := fun e => hne (by rw [e]; rfl)
    by_cases hr : ps.length + 1 ≤ c
    · refine (insert_room ps p k g c base vb w (by omega) hn hr hrow hone hB hop hne').mono ?_
      rintro e w' ⟨rfl, h1, h2⟩
      exact ⟨_, rfl, h1, h2, fun g' hg' => .inl hg'⟩
    · refine (insert_grow ps p k g c base vb w (by omega) hn (by omega) hrow hone hB hop hz).mono ?_
      rintro e w' ⟨u, rfl, h1, h2, h3⟩
      exact ⟨u, rfl, h1, grown_below h2, fun g' hg' => .inr (h3 g' hg')⟩
/-- What a book that is ok is told of coming in. -/
noncomputable def entR (b : Bk) (nm : ByteArray) (ls : List ByteArray) : Int := if (nameB nm && pB (PartOk ls b.things)) = false then 2 else if memS (nms b.bs) nm = true then 3 else if 5 ≤ b.bs.length then 4 else 0
theorem enter_asked (b : Bk) (nm : ByteArray) (ls : List ByteArray) : askedC b (entR b nm ls) = enterC b nm ls ∧ askedB b (entR b nm ls) ⟨b.things, b.bs.take (inN b nm) ++ ⟨nm, [], ls⟩ :: b.bs.drop (inN b nm)⟩ = enterB b nm ls := by
  cases hb : bookB b
  · exact ⟨by simp [askedC, enterC, hb], by simp [askedB, enterB, hb]⟩
  · have e : enterC b nm ls = entR b nm ls := by simp [enterC, entR, hb]
    exact ⟨by rw [e]; simp [askedC, hb], by unfold enterB; rw [e]; simp [askedB, hb]⟩
set_option maxRecDepth 20000 in
set_option maxHeartbeats 2000000 in
theorem enterRef_any (b : Bk) (v : Value) (nm : ByteArray) (lv : Value) (ls : List ByteArray) (w : World) (h : BkV w v b) (hok : BookOk b) (hl : Ls w lv ls) (hnz : nm.size ≤ maxLen) :
    Calls Tryz.prog 102 #[.agg #[.string nm, lv], v] w fun e w' => e = .returned (refV (entR b nm ls)) ∧ Below w.heap.size w w' := by
  obtain ⟨a1, c1, a2, c2, rfl, ht, -⟩ := h.parts
  obtain ⟨la, lc, rfl, -⟩ := id hl
  have hn5 : b.bs.length ≤ 5 := hok.2.1
  obtain ⟨W1, hW1, kA, kB, hB1, hs1⟩ : ∃ W1, (w.alloc (.cells #[.string nm, .slice la ls.length lc] 52)).alloc (.cells #[.slice a1 (b).things.length c1, .slice a2 (b).bs.length c2] 30) = W1 ∧ CB W1 w.heap.size [.string nm, .slice la ls.length lc] ∧ CB W1 (w.heap.size + 1) [.slice a1 b.things.length c1, .slice a2 b.bs.length c2] ∧ Below w.heap.size w W1 ∧ W1.heap.size = w.heap.size + 2 := ⟨_, rfl, cb2 w _ _ _ _⟩
  go_enter Tryz.func102, Tryz.ntmps102
  go_upto_region 1 with fail
  try rw [hW1]
  clear hW1
  have hk1 := h.up hB1
  have hl1 := hl.up hB1
  have ht1 := ht.up hB1
  obtain ⟨e0, e1⟩ := kA.c2'
  obtain ⟨d0, d1⟩ := kB.c2'
  go_wp2_with fail
  refine (shName_any nm _ hnz).mono ?_
  rintro e w2 ⟨rfl, hB2⟩
  have hz2 := hB2.size
  have kA2 := kA.up hB2 (by omega)
  have kB2 := kB.up hB2 (by omega)
  have hk2 := hk1.up hB2
  have hl2 := hl1.up hB2
  have ht2 := ht1.up hB2
  have hB02 := up_trans hB1 hB2
  clear e0 e1 d0 d1 kA kB hk1 hl1 ht1 hB1 hB2 h hl ht
  cases hnm : nameB nm
  · have HV : Hid (refV (entR b nm ls) = .iface 73 (.agg #[.int .i64 2])) := by show _ = _; simp [entR, hnm, refV]
    go_wp2_with fail
    go_ret
    exact ⟨ret_ref HV.out, hB02⟩
  obtain ⟨e0, e1⟩ := kA2.c2'
  obtain ⟨d0, d1⟩ := kB2.c2'
  go_wp2_with fail
  refine (partOf_any ls b.things _ _ _ hl2 ht2).mono ?_
  rintro e w3 ⟨rfl, hB3⟩
  have hz3 := hB3.size
  have kA3 := kA2.up hB3 (by omega)
  have kB3 := kB2.up hB3 (by omega)
  have hk3 := hk2.up hB3
  have hB03 := up_trans hB02 hB3
  clear e0 e1 d0 d1 kA2 kB2 hk2 hl2 ht2 hB02 hB3
  cases hpt : pB (PartOk ls b.things)
  · have HV : Hid (refV (entR b nm ls) = .iface 73 (.agg #[.int .i64 2])) := by show _ = _; simp [entR, hnm, hpt, refV]
    go_wp2_with fail
    go_ret
    exact ⟨ret_ref HV.out, hB03⟩
  obtain ⟨e0, e1⟩ := kA3.c2'
  obtain ⟨d0, d1⟩ := kB3.c2'
  go_wp2_with fail
  refine (find_any b _ nm _ hk3 hok).mono ?_
  rintro e w4 ⟨rfl, hB4⟩
  have hz4 := hB4.size
  have kB4 := kB3.up hB4 (by omega)
  have hB04 := up_trans hB03 hB4
  clear e0 e1 d0 d1 kA3 kB3 hk3 hB03 hB4
  generalize lowN (nms b.bs) nm = q at *
  cases hm : memS (nms b.bs) nm
  · obtain ⟨d0, d1⟩ := kB4.c2'
    by_cases h5 : b.bs.length = 5
    · have HV : Hid (refV (entR b nm ls) = .iface 73 (.agg #[.int .i64 4])) := by show _ = _; simp [entR, hnm, hpt, hm, h5, refV]
      rw [h5] at d1
      go_wp2_with fail
      go_ret
      exact ⟨ret_ref HV.out, hB04⟩
    · have HV : Hid (refV (entR b nm ls) = .nilIface) := by show _ = _; simp [entR, hnm, hpt, hm, refV]; omega
      have h5' : ¬ ((b.bs.length : Int) = 5) := by omega
      go_wp2_with fail
      go_ret
      exact ⟨ret_ref HV.out, hB04⟩
  · have HV : Hid (refV (entR b nm ls) = .iface 73 (.agg #[.int .i64 3])) := by show _ = _; simp [entR, hnm, hpt, hm, refV]
    go_wp2_with fail
    go_ret
    exact ⟨ret_ref HV.out, hB04⟩
end Go.Proofs.YtialglmnfchfmadGreatDoor
