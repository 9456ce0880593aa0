/- The specification's walk of the place of a name. -/
import Derived.Test.YtialglmnfchfmadGreatDoorKs2
import Derived.Test.YtialglmnfchfmadGreatDoorJ7
import Derived.Test.YtialglmnfchfmadGreatDoorKt4
import Derived.Test.YtialglmnfchfmadGreatDoorJ12
namespace Go.Proofs.YtialglmnfchfmadGreatDoor
open Go.RowKit

set_option maxHeartbeats 2000000 in
theorem at11_any (b : Bk) (v : Value) (s : ByteArray) (w : World) (h : BkV w v b) :
    Calls Tryz.prog 23 #[v, .string s] w fun e w' => e = .returned (.int .i64 (idxI (nms b.bs) s)) ∧ Below w.heap.size w w' := by
  obtain ⟨a1, c1, a2, c2, rfl, h1, h2⟩ := h.parts
  have hC : CB (w.alloc (.cells #[.slice a1 (b).things.length c1, .slice a2 (b).bs.length c2] 30)) w.heap.size [.slice a1 b.things.length c1, .slice a2 b.bs.length c2] := cb_alloc w _ _
  have hB0 := (Below.refl w.heap.size w).alloc (Nat.le_refl _) (.cells #[.slice a1 (b).things.length c1, .slice a2 (b).bs.length c2] 30)
  have g2 := h2.at.1
  unfold maxLen at g2
  go_enter Tryz.func23, Tryz.ntmps23
  go_upto_region 1 with fail
  generalize w.alloc (.cells #[.slice a1 (b).things.length c1, .slice a2 (b).bs.length c2] 30) = W1 at *
  have l2 := h2.up hB0
  clear h h1 h2
  obtain ⟨e0, e1⟩ := hC.c2'
  obtain ⟨-, hpos⟩ := l2.at
  go_wp2_with fail
  go_loop [5] (fun i => ∃ k : Nat, k ≤ b.bs.length ∧ i = .int .i64 k ∧ memS ((nms b.bs).take k) s = false) (fun i => b.bs.length - (intOf i).toNat)
  case atStart => exact ⟨0, by omega, rfl, rfl⟩
  case round =>
    obtain ⟨k, hk, rfl, hal⟩ := hrel
    have Hal : Hid (memS ((nms b.bs).take k) s = false) := hal
    clear hal
    by_cases hp : k < b.bs.length
    · obtain ⟨bb, o, rfl, hS, hb⟩ := hpos (by omega)
      obtain ⟨a3, d3, a4, d4, c3, c4, c5, -, -, -⟩ := (hS.at hp).cells
      have hp' : k < (nms b.bs).length := by rw [nms_length]; exact hp
      have Hn : Hid ((nms b.bs)[k] = (b.bs[k]).nm) := nms_get b.bs k hp
      cases hq : ((b.bs[k]).nm.toList == s.toList)
      · have Hq : Hid (memS ((nms b.bs).take (k + 1)) s = false) := memS_take hp' Hal.out (by rw [Hn.out]; exact hq)
        generalize b.bs[k] = x0 at *
        go_wp2_with fail
        go_round
        case rel => exact ⟨k + 1, by omega, by go_num, Hq.out⟩
        case measure => simp [intOf]; omega
      · have Hq : Hid (idxI (nms b.bs) s = (k : Int)) := idxI_found hp' Hal.out (by rw [Hn.out]; exact hq)
        generalize b.bs[k] = x0 at *
        go_wp2_with fail
        go_ret
        exact ⟨ret_int Hq.out.symm, hB0⟩
    · have Hq : Hid (idxI (nms b.bs) s = -1) := idxI_none (memS_all (by rw [nms_length]; exact hp) Hal.out)
      go_wp2_with fail
      go_ret
      exact ⟨ret_int Hq.out.symm, hB0⟩
end Go.Proofs.YtialglmnfchfmadGreatDoor

/- Copies, as the specification's chapter 13 makes them. -/
namespace Go.Proofs.YtialglmnfchfmadGreatDoor
open Go.RowKit

theorem copyW_any (b : Bk) (v : Value) (w : World) (h : BkV w v b) (hok : BookOk b) :
    Calls Tryz.prog 20 #[v] w fun e w' => (∃ v', e = .returned v' ∧ BkW w' w.heap.size v' b) ∧ Below w.heap.size w w' := by
  obtain ⟨s1, s2, s3⟩ := ok_small hok
  refine (copy11_any b v w h (by omega) (by omega) (fun y hy => by have := s3 y hy; omega)).mono ?_
  rintro e w' ⟨⟨tu, bu, ps, rfl, h1, h2, h3, -⟩, hb⟩
  exact ⟨⟨_, rfl, tu, bu, ps, rfl, h1, h2, h3⟩, hb⟩
theorem copyS_any (b : Bk) (v : Value) (w : World) (h : BkV w v b) (h1 : b.things.length ≤ 100) (h2 : b.bs.length ≤ 100) (h3 : ∀ y ∈ b.bs, y.has.length ≤ 100 ∧ y.needs.length ≤ 100) :
    Calls Tryz.prog 20 #[v] w fun e w' => (∃ v', e = .returned v' ∧ BkW w' w.heap.size v' b) ∧ Below w.heap.size w w' := by
  refine (copy11_any b v w h (by omega) (by omega) (fun y hy => by have := h3 y hy; omega)).mono ?_
  rintro e w' ⟨⟨tu, bu, ps, rfl, h1, h2, h3, -⟩, hb⟩
  exact ⟨⟨_, rfl, tu, bu, ps, rfl, h1, h2, h3⟩, hb⟩
/-- A copy, its lists apart from each other. -/
theorem copyF_any (b : Bk) (v : Value) (w : World) (h : BkV w v b) (h1 : b.things.length ≤ 100) (h2 : b.bs.length ≤ 100) (h3 : ∀ y ∈ b.bs, y.has.length ≤ 100 ∧ y.needs.length ≤ 100) :
    Calls Tryz.prog 20 #[v] w fun e w' => (∃ a1 c1 a2 c2 ps, e = .returned (.agg #[.slice a1 b.things.length c1, .slice a2 b.bs.length c2]) ∧ BsW w' w.heap.size (.slice a2 b.bs.length c2) ps ∧ ps.map (·.1) = b.bs ∧ Fam w' w.heap.size none ((.slice a1 b.things.length c1, b.things) :: famB ps)) ∧ Below w.heap.size w w' := by
  refine (copy11_any b v w h (by omega) (by omega) (fun y hy => by have := h3 y hy; omega)).mono ?_
  rintro e w' ⟨⟨tu, bu, ps, rfl, h1, h2, h3, hF, -⟩, hb⟩
  obtain ⟨a1, c1, rfl⟩ := h1.lst.shape
  obtain ⟨a2, c2, rfl⟩ := own_shape h2.1
  have hl : ps.length = b.bs.length := by rw [← h3, List.length_map]
  rw [hl] at h2
  exact ⟨⟨a1, c1, a2, c2, ps, by rw [hl], h2, h3, hF⟩, hb⟩
end Go.Proofs.YtialglmnfchfmadGreatDoor

/- A row of batches, a list of one of them turned. -/
namespace Go.Proofs.YtialglmnfchfmadGreatDoor
open Go.RowKit

theorem rowsB_set1 : ∀ (ps : List Bv) (k : Nat) (p : Bv) (u : Value) (x : Ba), ps[k]? = some p → x.nm = p.1.nm → (rowsB ps).set (k * 3 + 1) u = rowsB (ps.set k (x, u, p.2.2))
  | q :: r, 0, p, u, x, hp, hx => by
    simp at hp; subst hp
    simp [rowsB, rowB, hx]
  | q :: r, k + 1, p, u, x, hp, hx => by
    have ih := rowsB_set1 r k p u x (by simpa using hp) hx
    have hl : (rowB q).length = 3 := rfl
    rw [List.set_cons_succ, rowsB, rowsB, ← ih, List.set_append_right _ _ (by rw [hl]; omega), hl, show (k + 1) * 3 + 1 - 3 = k * 3 + 1 by omega]
theorem rowsB_set2 : ∀ (ps : List Bv) (k : Nat) (p : Bv) (u : Value) (x : Ba), ps[k]? = some p → x.nm = p.1.nm → (rowsB ps).set (k * 3 + 2) u = rowsB (ps.set k (x, p.2.1, u))
  | q :: r, 0, p, u, x, hp, hx => by
    simp at hp; subst hp
    simp [rowsB, rowB, hx]
  | q :: r, k + 1, p, u, x, hp, hx => by
    have ih := rowsB_set2 r k p u x (by simpa using hp) hx
    have hl : (rowB q).length = 3 := rfl
    rw [List.set_cons_succ, rowsB, rowsB, ← ih, List.set_append_right _ _ (by rw [hl]; omega), hl, show (k + 1) * 3 + 2 - 3 = k * 3 + 2 by omega]

end Go.Proofs.YtialglmnfchfmadGreatDoor
