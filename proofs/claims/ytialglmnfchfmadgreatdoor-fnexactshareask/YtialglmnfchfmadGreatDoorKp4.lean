/- The program's walk of who has a thing (chapter 11). -/
import Derived.Test.YtialglmnfchfmadGreatDoorJ3
namespace Go.Proofs.YtialglmnfchfmadGreatDoor
open Go.RowKit Go.Maps

theorem ret_strP {a b : ByteArray} (h : a = b) : Ending.returned (.string a) = .returned (.string b) := by rw [h]

set_option maxRecDepth 100000 in
set_option maxHeartbeats 2000000 in
theorem who_any (b : Bk) (v : Value) (s : ByteArray) (w : World) (h : BkV w v b) (hs : s.size ≤ maxLen) :
    Calls Tryz.prog 105 #[v, .string s] w fun e w' => e = .returned (.string (whoS b s)) ∧ Below w.heap.size w w' := by
  obtain ⟨a1, c1, a2, c2, rfl, h1, h2⟩ := h.parts
  have hC : CB (w.alloc (.cells #[.slice a1 (b).things.length c1, .slice a2 (b).bs.length c2] 30)) w.heap.size [.slice a1 b.things.length c1, .slice a2 b.bs.length c2] := cb_alloc w _ _
  have hB0 := (Below.refl w.heap.size w).alloc (Nat.le_refl _) (.cells #[.slice a1 (b).things.length c1, .slice a2 (b).bs.length c2] 30)
  go_enter Tryz.func105, Tryz.ntmps105
  go_upto_region 1 with fail
  generalize w.alloc (.cells #[.slice a1 (b).things.length c1, .slice a2 (b).bs.length c2] 30) = W1 at *
  have l2 := h2.up hB0
  have hk := h.up hB0
  clear h h1 h2
  obtain ⟨e0, e1⟩ := hC.c2'
  have hlt := hC.2.2
  go_wp2_with fail
  refine (bookOk_any b _ _ hk).mono ?_
  rintro e w2 ⟨rfl, hB2⟩
  cases hq : bookB b
  · have Hq : Hid (whoS b s = ⟨#[]⟩) := by show _ = _; rw [whoS, hq]; rfl
    go_wp2_with fail
    go_ret
    exact ⟨ret_strP Hq.out.symm, up_trans hB0 hB2⟩
  have Hq : Hid (whoS b s = whoB b.bs s) := by show _ = _; rw [whoS, if_pos hq]
  have hok : BookOk b := pB_iff.1 hq
  have h8 := bas_has hok.1.1 hok.2.2.2.2.1
  have h5 := hok.2.1
  have hA := hok.2.2.2.2.2
  clear hok hq
  have f1 := (hB2.cell (p := ⟨w.heap.size, 1, none⟩) hlt).trans e1
  go_wp2_with fail
  refine (holders_any b.bs _ _ (l2.up hB2) h5 h8).mono ?_
  rintro e w3 ⟨hh, hb3⟩
  have hB3 := up_trans hB2 hb3
  rcases hh with ⟨-, M, n, D, rfl, hmap, hD, -⟩ | ⟨hN, -⟩
  case inr => exact absurd hA hN
  clear f1 hb3 hB2
  have hkey : keyOf Tryz.prog 9 (.string s) = some (kl s) := WideMaps.keyOf_string_mk Tryz.underlying9 hs
  have f1 := (hB3.cell (p := ⟨w.heap.size, 1, none⟩) hlt).trans e1
  cases ht : Maps.has D (kl s)
  · have Hm : Hid (whoS b s = ⟨#[]⟩) := by show _ = _; rw [Hq.out]; exact hD.whoNone (by omega) ht
    go_wp2_with (at_lookup; refine wpList_lookup_own_ok_int _ rfl _ _ 101 rfl 9 3 .i64 keyLaw Tryz.underlying101 Tryz.underlying3 (zeroInt _) M n D rfl hmap _ _ rfl hkey ?_; intro cc _ _)
    go_ret
    exact ⟨ret_strP Hm.out.symm, up_trans hB0 hB3⟩
  · obtain ⟨i, hi, hz, hw⟩ := hD.who ht
    have Hm : Hid (whoS b s = (b.bs[i]).nm) := by show _ = _; rw [Hq.out]; exact hw
    have Hz : Hid (∀ cc : Int, D.atKey (kl s) (.lit (.int .i64 0)) = .lit (.int .i64 cc) → cc = (i : Int)) := fun cc h => by
      rw [hz] at h; simpa using h.symm
    obtain ⟨-, hpos⟩ := l2.at
    obtain ⟨bb, o, rfl, hS, hb⟩ := hpos (by omega)
    obtain ⟨a3, d3, a4, d4, c3, c4, c5, -, -, -⟩ := ((hS.at hi).up hB3 hb).cells
    generalize b.bs[i] = x0 at *
    clear hS hz hw hD Hq
    go_wp2_with (at_lookup; refine wpList_lookup_own_ok_int _ rfl _ _ 101 rfl 9 3 .i64 keyLaw Tryz.underlying101 Tryz.underlying3 (zeroInt _) M n D rfl hmap _ _ rfl hkey ?_; intro cc hcc _; obtain rfl := Hz.out cc hcc; clear hcc)
    go_ret
    exact ⟨ret_strP Hm.out.symm, up_trans hB0 hB3⟩
end Go.Proofs.YtialglmnfchfmadGreatDoor
