/- The specification's RunBatchOk, RunThings and RunOwn (chapter 21). -/
import Derived.Test.YtkapodkidlgkjafGreatDoorU5
namespace Go.Proofs.YtkapodkidlgkjafGreatDoor
open Go.RowKit

theorem specNameB (s : ByteArray) (w : World) (hs : s.size ≤ maxLen) : Calls Tryz.prog 75 #[.string s] w fun e w' => e = .returned (.bool (nameB s)) ∧ Below w.heap.size w w' :=
  (specName_any s w hs).mono fun _ _ h => ⟨h.1, by rw [h.2]; exact Below.refl _ _⟩
set_option maxRecDepth 20000 in
set_option maxHeartbeats 4000000 in
theorem batchOkS_any (x : Rb) (rv sv : Value) (w : World) (h : RbV w x rv sv) :
    Calls Tryz.prog 35 #[.agg #[.string x.nm, rv, sv, .string x.ad, .int .i64 x.si, .int .i64 x.st]] w fun e w' => e = .returned (.bool (pB (RbOk x))) ∧ Below w.heap.size w w' := by
  obtain ⟨b, o, c, rfl, hr, hb, hcap, hc9⟩ := h.r
  obtain ⟨g, q, d, rfl, hl, hg⟩ := h.s
  have zp := h.zp
  have zs := h.zs
  have zn := h.zn
  have np := h.np
  have ns := h.ns
  clear h
  have hC : CB (w.alloc (.cells #[.string x.nm, .slice (some ⟨b, o, none⟩) x.ps.length c, .slice (some ⟨g, q, none⟩) x.sl.length d, .string x.ad, .int .i64 x.si, .int .i64 x.st] 32)) w.heap.size [.string x.nm, .slice (some ⟨b, o, none⟩) x.ps.length c, .slice (some ⟨g, q, none⟩) x.sl.length d, .string x.ad, .int .i64 x.si, .int .i64 x.st] := cb_alloc w _ _
  have hB0 := (Below.refl w.heap.size w).alloc (Nat.le_refl _) (.cells #[.string x.nm, .slice (some ⟨b, o, none⟩) x.ps.length c, .slice (some ⟨g, q, none⟩) x.sl.length d, .string x.ad, .int .i64 x.si, .int .i64 x.st] 32)
  go_enter Tryz.func35, Tryz.ntmps35
  go_upto_region 1 with fail
  generalize w.alloc (.cells #[.string x.nm, .slice (some ⟨b, o, none⟩) x.ps.length c, .slice (some ⟨g, q, none⟩) x.sl.length d, .string x.ad, .int .i64 x.si, .int .i64 x.st] 32) = W1 at *
  obtain ⟨d0, d1, d2, d3, d4, d5⟩ := hC.c6
  have hlt := hC.2.2
  have hB : Below W1.heap.size W1 W1 := Below.refl _ _
  obtain ⟨hc, hf⟩ := bcell hB
  cases h1 : nameB x.nm
  · have HN : Hid (pB (RbOk x) = false) := pB_no fun h => by rw [h.1] at h1; cases h1
    go_wp2_with (first | (go_at_call 75; refine (specNameB _ _ zn).mono ?_; rintro e w1 ⟨rfl, hb1⟩; (first | (have hB' := up_trans hB hb1; clear hB; have hB := hB'; clear hB') | (have hB := hb1)); clear hb1; (try clear hc hf); obtain ⟨hc, hf⟩ := bcell hB))
    go_ret
    exact ⟨ret_bool HN.out.symm, up_trans hB0 hB⟩
  cases h3 : recB x.ps
  · have HN : Hid (pB (RbOk x) = false) := pB_no fun h => by rw [h.2.1] at h3; cases h3
    go_wp2_with (first | (go_at_call 75; refine (specNameB _ _ zn).mono ?_; rintro e w1 ⟨rfl, hb1⟩; (first | (have hB' := up_trans hB hb1; clear hB; have hB := hB'; clear hB') | (have hB := hb1)); clear hb1; (try clear hc hf); obtain ⟨hc, hf⟩ := bcell hB) | (go_at_call 73; refine (specOk_any x.ps b o c _ (hr.up (up_trans hB0 hB) hb) (Nat.lt_of_lt_of_le hb (up_trans hB0 hB).size) zp np).mono ?_; rintro e w1 ⟨rfl, hb1⟩; (first | (have hB' := up_trans hB hb1; clear hB; have hB := hB'; clear hB') | (have hB := hb1)); clear hb1; (try clear hc hf); obtain ⟨hc, hf⟩ := bcell hB))
    go_ret
    exact ⟨ret_bool HN.out.symm, up_trans hB0 hB⟩
  cases h4 : pB (SlotsOk x.ps x.sl)
  · have HN : Hid (pB (RbOk x) = false) := pB_no fun h => pB_not.1 h4 h.2.2.1
    go_wp2_with (first | (go_at_call 75; refine (specNameB _ _ zn).mono ?_; rintro e w1 ⟨rfl, hb1⟩; (first | (have hB' := up_trans hB hb1; clear hB; have hB := hB'; clear hB') | (have hB := hb1)); clear hb1; (try clear hc hf); obtain ⟨hc, hf⟩ := bcell hB) | (go_at_call 73; refine (specOk_any x.ps b o c _ (hr.up (up_trans hB0 hB) hb) (Nat.lt_of_lt_of_le hb (up_trans hB0 hB).size) zp np).mono ?_; rintro e w1 ⟨rfl, hb1⟩; (first | (have hB' := up_trans hB hb1; clear hB; have hB := hB'; clear hB') | (have hB := hb1)); clear hb1; (try clear hc hf); obtain ⟨hc, hf⟩ := bcell hB) | (go_at_call 74; refine (slotsOkS_any x.ps x.sl b o c g q d _ (hr.up (up_trans hB0 hB) hb) (Nat.lt_of_lt_of_le hb (up_trans hB0 hB).size) h3 (hl.up (up_trans hB0 hB) hg) (Nat.lt_of_lt_of_le hg (up_trans hB0 hB).size) ns zs).mono ?_; rintro e w1 ⟨rfl, hb1⟩; (first | (have hB' := up_trans hB hb1; clear hB; have hB := hB'; clear hB') | (have hB := hb1)); clear hb1; (try clear hc hf); obtain ⟨hc, hf⟩ := bcell hB))
    go_ret
    exact ⟨ret_bool HN.out.symm, up_trans hB0 hB⟩
  by_cases h2 : 1 ≤ x.st
  case neg =>
    have HN : Hid (pB (RbOk x) = false) := pB_no fun h => h2 h.2.2.2.1
    go_wp2_with (first | (go_at_call 75; refine (specNameB _ _ zn).mono ?_; rintro e w1 ⟨rfl, hb1⟩; (first | (have hB' := up_trans hB hb1; clear hB; have hB := hB'; clear hB') | (have hB := hb1)); clear hb1; (try clear hc hf); obtain ⟨hc, hf⟩ := bcell hB) | (go_at_call 73; refine (specOk_any x.ps b o c _ (hr.up (up_trans hB0 hB) hb) (Nat.lt_of_lt_of_le hb (up_trans hB0 hB).size) zp np).mono ?_; rintro e w1 ⟨rfl, hb1⟩; (first | (have hB' := up_trans hB hb1; clear hB; have hB := hB'; clear hB') | (have hB := hb1)); clear hb1; (try clear hc hf); obtain ⟨hc, hf⟩ := bcell hB) | (go_at_call 74; refine (slotsOkS_any x.ps x.sl b o c g q d _ (hr.up (up_trans hB0 hB) hb) (Nat.lt_of_lt_of_le hb (up_trans hB0 hB).size) h3 (hl.up (up_trans hB0 hB) hg) (Nat.lt_of_lt_of_le hg (up_trans hB0 hB).size) ns zs).mono ?_; rintro e w1 ⟨rfl, hb1⟩; (first | (have hB' := up_trans hB hb1; clear hB; have hB := hB'; clear hB') | (have hB := hb1)); clear hb1; (try clear hc hf); obtain ⟨hc, hf⟩ := bcell hB))
    go_ret
    exact ⟨ret_bool HN.out.symm, up_trans hB0 hB⟩
  have H123 : Hid (nameB x.nm = true ∧ recB x.ps = true ∧ SlotsOk x.ps x.sl ∧ 1 ≤ x.st) := ⟨h1, h3, pB_iff.1 h4, h2⟩
  go_upto_region 3 with (first | (go_at_call 75; refine (specNameB _ _ zn).mono ?_; rintro e w1 ⟨rfl, hb1⟩; (first | (have hB' := up_trans hB hb1; clear hB; have hB := hB'; clear hB') | (have hB := hb1)); clear hb1; (try clear hc hf); obtain ⟨hc, hf⟩ := bcell hB) | (go_at_call 73; refine (specOk_any x.ps b o c _ (hr.up (up_trans hB0 hB) hb) (Nat.lt_of_lt_of_le hb (up_trans hB0 hB).size) zp np).mono ?_; rintro e w1 ⟨rfl, hb1⟩; (first | (have hB' := up_trans hB hb1; clear hB; have hB := hB'; clear hB') | (have hB := hb1)); clear hb1; (try clear hc hf); obtain ⟨hc, hf⟩ := bcell hB) | (go_at_call 74; refine (slotsOkS_any x.ps x.sl b o c g q d _ (hr.up (up_trans hB0 hB) hb) (Nat.lt_of_lt_of_le hb (up_trans hB0 hB).size) h3 (hl.up (up_trans hB0 hB) hg) (Nat.lt_of_lt_of_le hg (up_trans hB0 hB).size) ns zs).mono ?_; rintro e w1 ⟨rfl, hb1⟩; (first | (have hB' := up_trans hB hb1; clear hB; have hB := hB'; clear hB') | (have hB := hb1)); clear hb1; (try clear hc hf); obtain ⟨hc, hf⟩ := bcell hB))
  clear h1 h2 h4
  cases h5 : hasB x.ps x.ad
  · have HN : Hid (pB (RbOk x) = false) := pB_no fun h => by rw [h.2.2.2.2.1] at h5; cases h5
    have hat := fun W (hW : RecAt W b o x.ps) => at_any x.ps b o c x.ad W hW np
    rw [atI_none x.ps x.ad h5] at hat
    clear h5
    go_wp2_with fail
    refine (hat _ (hr.up (up_trans hB0 hB) hb)).mono ?_
    rintro e w' ⟨rfl, hw⟩; obtain rfl := hw.symm; clear hw
    go_wp2_with fail
    go_quiet (fail)
    go_wp2
    go_ret
    exact ⟨ret_bool HN.out.symm, below_drewN (up_trans hB0 hB) _⟩
  obtain ⟨k, hk, hka⟩ := hasB_at h5
  have HY : Hid (pB (RbOk x) = inB x.si (-1) ((x.ps[k]).wi - 1)) := by
    show _ = _
    obtain ⟨k1, k2, k3, k4⟩ := H123.out
    have e := phOf_at hk hka
    have : RbOk x ↔ (-1 ≤ x.si ∧ x.si ≤ (x.ps[k]).wi - 1) := by
      rw [← e]
      exact ⟨fun h => ⟨h.2.2.2.2.2.1, by have := h.2.2.2.2.2.2; omega⟩, fun h => ⟨k1, k2, k3, k4, h5, h.1, by omega⟩⟩
    rw [Bool.eq_iff_iff, inB_iff, pB_iff]
    exact this
  have hat := fun W (hW : RecAt W b o x.ps) => at_any x.ps b o c x.ad W hW np
  rw [hka] at hat
  have hwi : 1 ≤ (x.ps[k]).wi ∧ (x.ps[k]).wi ≤ 1000 := okB_wi (recB_ok h3 (by simp))
  obtain ⟨-, -, -, -, -, c5, -⟩ := (hr.up (up_trans hB0 hB) hb).cells k hk
  clear hka h5 h3
  generalize (x.ps[k]).wi = wi at *
  go_upto_region 4 with (go_at_call 38; refine (hat _ (hr.up (up_trans hB0 hB) hb)).mono ?_; rintro e w' ⟨rfl, hw⟩; obtain rfl := hw.symm; clear hw)
  rename_i W3
  go_wp2_with fail
  go_quiet ((go_at_call 48; exact Calls.quiet_of_same (in_any _ _ _ _)))
  go_wp2_with fail
  go_ret
  exact ⟨ret_bool HY.out.symm, below_drewN (up_trans hB0 hB) _⟩
end Go.Proofs.YtkapodkidlgkjafGreatDoor
