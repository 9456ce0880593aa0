/- The specification's walk of who has a thing (chapter 11). -/
import Derived.Test.YthpcadlohahblabKs2
namespace Go.Proofs.Ythpcadlohahblab
open Go.RowKit

theorem ret_str {a b : ByteArray} (h : a = b) : Ending.returned (.string a) = .returned (.string b) := by rw [h]
theorem whoS_no {b : Bk} {s : ByteArray} (h : bookB b = false) : whoS b s = ⟨#[]⟩ := by rw [whoS, h]; rfl
theorem whoS_yes {b : Bk} {s : ByteArray} (h : bookB b = true) : whoS b s = whoB b.bs s := by rw [whoS, if_pos h]

set_option maxHeartbeats 2000000 in
theorem specWho_any (b : Bk) (v : Value) (s : ByteArray) (w : World) (h : BkV w v b) :
    Calls Try.prog 18 #[v, .string s] w fun e w' => e = .returned (.string (whoS b s)) ∧ Below w.heap.size w w' := by
  obtain ⟨a1, c1, a2, c2, rfl, h1, h2⟩ := h.parts
  have hC : CB (w.alloc (.cells #[.slice a1 (b).things.length c1, .slice a2 (b).bs.length c2] 26)) w.heap.size [.slice a1 b.things.length c1, .slice a2 b.bs.length c2] := cb_alloc w _ _
  have hB0 := (Below.refl w.heap.size w).alloc (Nat.le_refl _) (.cells #[.slice a1 (b).things.length c1, .slice a2 (b).bs.length c2] 26)
  have g2 := h2.at.1
  unfold maxLen at g2
  go_enter Try.func18, Try.ntmps18
  go_upto_region 1 with fail
  generalize w.alloc (.cells #[.slice a1 (b).things.length c1, .slice a2 (b).bs.length c2] 26) = W1 at *
  have l2 := h2.up hB0
  have hk := h.up hB0
  clear h h1 h2
  obtain ⟨e0, e1⟩ := hC.c2'
  have hlt := hC.2.2
  obtain ⟨-, hpos⟩ := l2.at
  have hB : Below W1.heap.size W1 W1 := Below.refl _ _
  go_wp2_with fail
  go_loopw [5] (fun i w' => ∃ k : Nat, k ≤ b.bs.length ∧ i = .int .i64 k ∧ FreeTo b.bs s k ∧ (0 < k → bookB b = true) ∧ Below W1.heap.size W1 w') (fun i _ => b.bs.length - (intOf i).toNat)
  case atStart => exact ⟨0, by omega, rfl, FreeTo.zero _ _, fun h => by omega, hB⟩
  case round =>
    clear hB
    obtain ⟨k, hk', rfl, hal, hok, hB⟩ := hrel
    have Hal : Hid (FreeTo b.bs s k ∧ (0 < k → bookB b = true)) := ⟨hal, hok⟩
    clear hal hok
    have f0 := (hB.cell (p := ⟨w.heap.size, 0, none⟩) hlt).trans e0
    have f1 := (hB.cell (p := ⟨w.heap.size, 1, none⟩) hlt).trans e1
    by_cases hp : k < b.bs.length
    · obtain ⟨bb, o, rfl, hS, hb⟩ := hpos (by omega)
      go_wp2_with fail
      refine (specBook_any b _ _ (hk.up hB)).mono ?_
      rintro e w2 ⟨rfl, hb2⟩
      have hB2 := up_trans hB hb2
      clear f0 f1 hB hb2
      cases hq : bookB b
      · have Hq : Hid (whoS b s = ⟨#[]⟩) := whoS_no hq
        go_wp2_with fail
        go_ret
        exact ⟨ret_str Hq.out.symm, up_trans hB0 hB2⟩
      have Hq : Hid (bookB b = true) := hq
      have f1 := (hB2.cell (p := ⟨w.heap.size, 1, none⟩) hlt).trans e1
      obtain ⟨a3, d3, a4, d4, c3, c4, c5, l3, -, -⟩ := ((hS.at hp).up hB2 hb).cells
      have HY : Hid (memS (b.bs[k]).has s = true → whoS b s = (b.bs[k]).nm) := fun h => by rw [whoS_yes Hq.out]; exact whoB_at hp Hal.out.1 h
      have HN : Hid (memS (b.bs[k]).has s = false → FreeTo b.bs s (k + 1)) := fun h => Hal.out.1.step hp h
      generalize b.bs[k] = x0 at *
      clear hS hq
      go_wp2_with fail
      refine (has11_any x0.has _ s _ l3).mono ?_
      rintro e w' ⟨rfl, hw⟩
      obtain rfl := hw.symm
      clear hw
      cases hm : memS x0.has s
      · have Hm : Hid (FreeTo b.bs s (k + 1)) := HN.out hm
        go_wp2_with fail
        go_roundw
        case rel => exact ⟨k + 1, by omega, by go_num, Hm.out, fun _ => Hq.out, hB2⟩
        case measure => simp [intOf]; omega
      · have Hm : Hid (whoS b s = x0.nm) := HY.out hm
        go_wp2_with fail
        go_ret
        exact ⟨ret_str Hm.out.symm, up_trans hB0 hB2⟩
    · have Hm : Hid (whoS b s = ⟨#[]⟩) := by
        show _ = _
        cases hq : bookB b
        · exact whoS_no hq
        · rw [whoS_yes hq]; exact whoB_none hp Hal.out.1
      go_wp2_with fail
      go_ret
      exact ⟨ret_str Hm.out.symm, up_trans hB0 hB⟩
end Go.Proofs.Ythpcadlohahblab
