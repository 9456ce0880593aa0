/- The specification's walk of the place of a name. -/
import Derived.Test.YtialglmnfchfmadGreatDoorKs2
namespace Go.Proofs.YtialglmnfchfmadGreatDoor
open Go.RowKit

set_option maxHeartbeats 2000000 in
theorem at11_any (b : Bk) (v : Value) (s : ByteArray) (w : World) (h : BkV w v b) :
    Calls Tryz.prog 23 #[v, .string s] w fun e w' => e = .returned (.int .i64 (idxI (nms b.bs) s)) ∧ Below w.heap.size w w' := by
  obtain ⟨a1, c1, a2, c2, rfl, h1, h2⟩ := h.parts
  have hC : CB (w.alloc (.cells #[.slice a1 (b).things.length c1, .slice a2 (b).bs.length c2] 30)) w.heap.size [.slice a1 b.things.length c1, .slice a2 b.bs.length c2] := cb_alloc w _ _
  have hB0 := (Below.refl w.heap.size w).alloc (Nat.le_refl _) (.cells #[.slice a1 (b).things.length c1, .slice a2 (b).bs.length c2] 30)
  have g2 := h2.at.1
  unfold maxLen at g2
  go_enter Tryz.func23, Tryz.ntmps23
  go_upto_region 1 with fail
  generalize w.alloc (.cells #[.slice a1 (b).things.length c1, .slice a2 (b).bs.length c2] 30) = W1 at *
  have l2 := h2.up hB0
  clear h h1 h2
  obtain ⟨e0, e1⟩ := hC.c2'
  obtain ⟨-, hpos⟩ := l2.at
  go_wp2_with fail
  go_loop [5] (fun i => ∃ k : Nat, k ≤ b.bs.length ∧ i = .int .i64 k ∧ memS ((nms b.bs).take k) s = false) (fun i => b.bs.length - (intOf i).toNat)
  case atStart => exact ⟨0, by omega, rfl, rfl⟩
  case round =>
    obtain ⟨k, hk, rfl, hal⟩ := hrel
    have Hal : Hid (memS ((nms b.bs).take k) s = false) := hal
    clear hal
    by_cases hp : k < b.bs.length
    · obtain ⟨bb, o, rfl, hS, hb⟩ := hpos (by omega)
      obtain ⟨a3, d3, a4, d4, c3, c4, c5, -, -, -⟩ := (hS.at hp).cells
      have hp' : k < (nms b.bs).length := by rw [nms_length]; exact hp
      have Hn : Hid ((nms b.bs)[k] = (b.bs[k]).nm) := nms_get b.bs k hp
      cases hq : ((b.bs[k]).nm.toList == s.toList)
      · have Hq : Hid (memS ((nms b.bs).take (k + 1)) s = false) := memS_take hp' Hal.out (by rw [Hn.out]; exact hq)
        generalize b.bs[k] = x0 at *
        go_wp2_with fail
        go_round
        case rel => exact ⟨k + 1, by omega, by go_num, Hq.out⟩
        case measure => simp [intOf]; omega
      · have Hq : Hid (idxI (nms b.bs) s = (k : Int)) := idxI_found hp' Hal.out (by rw [Hn.out]; exact hq)
        generalize b.bs[k] = x0 at *
        go_wp2_with fail
        go_ret
        exact ⟨ret_int Hq.out.symm, hB0⟩
    · have Hq : Hid (idxI (nms b.bs) s = -1) := idxI_none (memS_all (by rw [nms_length]; exact hp) Hal.out)
      go_wp2_with fail
      go_ret
      exact ⟨ret_int Hq.out.symm, hB0⟩
end Go.Proofs.YtialglmnfchfmadGreatDoor
