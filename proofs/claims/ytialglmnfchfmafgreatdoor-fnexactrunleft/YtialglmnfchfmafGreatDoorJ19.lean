/- The specification's RunBatchOk, RunThings and RunOwn (chapter 21). -/
import Derived.Test.YtialglmnfchfmafGreatDoorJ18
import Derived.Test.YtialglmnfchfmafGreatDoorU3
namespace Go.Proofs.YtialglmnfchfmafGreatDoor
open Go.RowKit

theorem specNameB (s : ByteArray) (w : World) (hs : s.size ≤ maxLen) : Calls Tryz.prog 67 #[.string s] w fun e w' => e = .returned (.bool (nameB s)) ∧ Below w.heap.size w w' :=
  (specName_any s w hs).mono fun _ _ h => ⟨h.1, by rw [h.2]; exact Below.refl _ _⟩
set_option maxRecDepth 20000 in
set_option maxHeartbeats 4000000 in
theorem batchOkS_any (x : Rb) (rv sv : Value) (w : World) (h : RbV w x rv sv) :
    Calls Tryz.prog 24 #[.agg #[.string x.nm, rv, sv, .string x.ad, .int .i64 x.si, .int .i64 x.st]] w fun e w' => e = .returned (.bool (pB (RbOk x))) ∧ Below w.heap.size w w' := by
  obtain ⟨b, o, c, rfl, hr, hb, hcap, hc9⟩ := h.r
  obtain ⟨g, q, d, rfl, hl, hg⟩ := h.s
  have zp := h.zp
  have zs := h.zs
  have zn := h.zn
  have np := h.np
  have ns := h.ns
  clear h
  have hC : CB (w.alloc (.cells #[.string x.nm, .slice (some ⟨b, o, none⟩) x.ps.length c, .slice (some ⟨g, q, none⟩) x.sl.length d, .string x.ad, .int .i64 x.si, .int .i64 x.st] 32)) w.heap.size [.string x.nm, .slice (some ⟨b, o, none⟩) x.ps.length c, .slice (some ⟨g, q, none⟩) x.sl.length d, .string x.ad, .int .i64 x.si, .int .i64 x.st] := cb_alloc w _ _
  have hB0 := (Below.refl w.heap.size w).alloc (Nat.le_refl _) (.cells #[.string x.nm, .slice (some ⟨b, o, none⟩) x.ps.length c, .slice (some ⟨g, q, none⟩) x.sl.length d, .string x.ad, .int .i64 x.si, .int .i64 x.st] 32)
  go_enter Tryz.func24, Tryz.ntmps24
  go_upto_region 1 with fail
  generalize w.alloc (.cells #[.string x.nm, .slice (some ⟨b, o, none⟩) x.ps.length c, .slice (some ⟨g, q, none⟩) x.sl.length d, .string x.ad, .int .i64 x.si, .int .i64 x.st] 32) = W1 at *
  obtain ⟨d0, d1, d2, d3, d4, d5⟩ := hC.c6
  have hlt := hC.2.2
  have hB : Below W1.heap.size W1 W1 := Below.refl _ _
  obtain ⟨hc, hf⟩ := bcell hB
  cases h1 : nameB x.nm
  · have HN : Hid (pB (RbOk x) = false) := pB_no fun h => by rw [h.1] at h1; cases h1
    go_wp2_with (first | (go_at_call 67; refine (specNameB _ _ zn).mono ?_; rintro e w1 ⟨rfl, hb1⟩; (first | (have hB' := up_trans hB hb1; clear hB; have hB := hB'; clear hB') | (have hB := hb1)); clear hb1; (try clear hc hf); obtain ⟨hc, hf⟩ := bcell hB))
    go_ret
    exact ⟨ret_bool HN.out.symm, up_trans hB0 hB⟩
  cases h3 : recB x.ps
  · have HN : Hid (pB (RbOk x) = false) := pB_no fun h => by rw [h.2.1] at h3; cases h3
    go_wp2_with (first | (go_at_call 67; refine (specNameB _ _ zn).mono ?_; rintro e w1 ⟨rfl, hb1⟩; (first | (have hB' := up_trans hB hb1; clear hB; have hB := hB'; clear hB') | (have hB := hb1)); clear hb1; (try clear hc hf); obtain ⟨hc, hf⟩ := bcell hB) | (go_at_call 68; refine (specOk_any x.ps b o c _ (hr.up (up_trans hB0 hB) hb) (Nat.lt_of_lt_of_le hb (up_trans hB0 hB).size) zp np).mono ?_; rintro e w1 ⟨rfl, hb1⟩; (first | (have hB' := up_trans hB hb1; clear hB; have hB := hB'; clear hB') | (have hB := hb1)); clear hb1; (try clear hc hf); obtain ⟨hc, hf⟩ := bcell hB))
    go_ret
    exact ⟨ret_bool HN.out.symm, up_trans hB0 hB⟩
  cases h4 : pB (SlotsOk x.ps x.sl)
  · have HN : Hid (pB (RbOk x) = false) := pB_no fun h => pB_not.1 h4 h.2.2.1
    go_wp2_with (first | (go_at_call 67; refine (specNameB _ _ zn).mono ?_; rintro e w1 ⟨rfl, hb1⟩; (first | (have hB' := up_trans hB hb1; clear hB; have hB := hB'; clear hB') | (have hB := hb1)); clear hb1; (try clear hc hf); obtain ⟨hc, hf⟩ := bcell hB) | (go_at_call 68; refine (specOk_any x.ps b o c _ (hr.up (up_trans hB0 hB) hb) (Nat.lt_of_lt_of_le hb (up_trans hB0 hB).size) zp np).mono ?_; rintro e w1 ⟨rfl, hb1⟩; (first | (have hB' := up_trans hB hb1; clear hB; have hB := hB'; clear hB') | (have hB := hb1)); clear hb1; (try clear hc hf); obtain ⟨hc, hf⟩ := bcell hB) | (go_at_call 69; refine (slotsOkS_any x.ps x.sl b o c g q d _ (hr.up (up_trans hB0 hB) hb) (Nat.lt_of_lt_of_le hb (up_trans hB0 hB).size) h3 (hl.up (up_trans hB0 hB) hg) (Nat.lt_of_lt_of_le hg (up_trans hB0 hB).size) ns zs).mono ?_; rintro e w1 ⟨rfl, hb1⟩; (first | (have hB' := up_trans hB hb1; clear hB; have hB := hB'; clear hB') | (have hB := hb1)); clear hb1; (try clear hc hf); obtain ⟨hc, hf⟩ := bcell hB))
    go_ret
    exact ⟨ret_bool HN.out.symm, up_trans hB0 hB⟩
  by_cases h2 : 1 ≤ x.st
  case neg =>
    have HN : Hid (pB (RbOk x) = false) := pB_no fun h => h2 h.2.2.2.1
    go_wp2_with (first | (go_at_call 67; refine (specNameB _ _ zn).mono ?_; rintro e w1 ⟨rfl, hb1⟩; (first | (have hB' := up_trans hB hb1; clear hB; have hB := hB'; clear hB') | (have hB := hb1)); clear hb1; (try clear hc hf); obtain ⟨hc, hf⟩ := bcell hB) | (go_at_call 68; refine (specOk_any x.ps b o c _ (hr.up (up_trans hB0 hB) hb) (Nat.lt_of_lt_of_le hb (up_trans hB0 hB).size) zp np).mono ?_; rintro e w1 ⟨rfl, hb1⟩; (first | (have hB' := up_trans hB hb1; clear hB; have hB := hB'; clear hB') | (have hB := hb1)); clear hb1; (try clear hc hf); obtain ⟨hc, hf⟩ := bcell hB) | (go_at_call 69; refine (slotsOkS_any x.ps x.sl b o c g q d _ (hr.up (up_trans hB0 hB) hb) (Nat.lt_of_lt_of_le hb (up_trans hB0 hB).size) h3 (hl.up (up_trans hB0 hB) hg) (Nat.lt_of_lt_of_le hg (up_trans hB0 hB).size) ns zs).mono ?_; rintro e w1 ⟨rfl, hb1⟩; (first | (have hB' := up_trans hB hb1; clear hB; have hB := hB'; clear hB') | (have hB := hb1)); clear hb1; (try clear hc hf); obtain ⟨hc, hf⟩ := bcell hB))
    go_ret
    exact ⟨ret_bool HN.out.symm, up_trans hB0 hB⟩
  have H123 : Hid (nameB x.nm = true ∧ recB x.ps = true ∧ SlotsOk x.ps x.sl ∧ 1 ≤ x.st) := ⟨h1, h3, pB_iff.1 h4, h2⟩
  go_upto_region 3 with (first | (go_at_call 67; refine (specNameB _ _ zn).mono ?_; rintro e w1 ⟨rfl, hb1⟩; (first | (have hB' := up_trans hB hb1; clear hB; have hB := hB'; clear hB') | (have hB := hb1)); clear hb1; (try clear hc hf); obtain ⟨hc, hf⟩ := bcell hB) | (go_at_call 68; refine (specOk_any x.ps b o c _ (hr.up (up_trans hB0 hB) hb) (Nat.lt_of_lt_of_le hb (up_trans hB0 hB).size) zp np).mono ?_; rintro e w1 ⟨rfl, hb1⟩; (first | (have hB' := up_trans hB hb1; clear hB; have hB := hB'; clear hB') | (have hB := hb1)); clear hb1; (try clear hc hf); obtain ⟨hc, hf⟩ := bcell hB) | (go_at_call 69; refine (slotsOkS_any x.ps x.sl b o c g q d _ (hr.up (up_trans hB0 hB) hb) (Nat.lt_of_lt_of_le hb (up_trans hB0 hB).size) h3 (hl.up (up_trans hB0 hB) hg) (Nat.lt_of_lt_of_le hg (up_trans hB0 hB).size) ns zs).mono ?_; rintro e w1 ⟨rfl, hb1⟩; (first | (have hB' := up_trans hB hb1; clear hB; have hB := hB'; clear hB') | (have hB := hb1)); clear hb1; (try clear hc hf); obtain ⟨hc, hf⟩ := bcell hB))
  clear h1 h2 h4
  cases h5 : hasB x.ps x.ad
  · have HN : Hid (pB (RbOk x) = false) := pB_no fun h => by rw [h.2.2.2.2.1] at h5; cases h5
    have hat := fun W (hW : RecAt W b o x.ps) => at_any x.ps b o c x.ad W hW np
    rw [atI_none x.ps x.ad h5] at hat
    clear h5
    go_wp2_with fail
    refine (hat _ (hr.up (up_trans hB0 hB) hb)).mono ?_
    rintro e w' ⟨rfl, hw⟩; obtain rfl := hw.symm; clear hw
    go_wp2_with fail
    go_quiet (fail)
    go_wp2
    go_ret
    exact ⟨ret_bool HN.out.symm, below_drewN (up_trans hB0 hB) _⟩
  obtain ⟨k, hk, hka⟩ := hasB_at h5
  have HY : Hid (pB (RbOk x) = inB x.si (-1) ((x.ps[k]).wi - 1)) := by
    show _ = _
    obtain ⟨k1, k2, k3, k4⟩ := H123.out
    have e := phOf_at hk hka
    have : RbOk x ↔ (-1 ≤ x.si ∧ x.si ≤ (x.ps[k]).wi - 1) := by
      rw [← e]
      exact ⟨fun h => ⟨h.2.2.2.2.2.1, by have := h.2.2.2.2.2.2; omega⟩, fun h => ⟨k1, k2, k3, k4, h5, h.1, by omega⟩⟩
    rw [Bool.eq_iff_iff, inB_iff, pB_iff]
    exact this
  have hat := fun W (hW : RecAt W b o x.ps) => at_any x.ps b o c x.ad W hW np
  rw [hka] at hat
  have hwi : 1 ≤ (x.ps[k]).wi ∧ (x.ps[k]).wi ≤ 1000 := okB_wi (recB_ok h3 (by simp))
  obtain ⟨-, -, -, -, -, c5, -⟩ := (hr.up (up_trans hB0 hB) hb).cells k hk
  clear hka h5 h3
  generalize (x.ps[k]).wi = wi at *
  go_upto_region 4 with (go_at_call 27; refine (hat _ (hr.up (up_trans hB0 hB) hb)).mono ?_; rintro e w' ⟨rfl, hw⟩; obtain rfl := hw.symm; clear hw)
  rename_i W3
  go_wp2_with fail
  go_quiet ((go_at_call 43; exact Calls.quiet_of_same (in_any _ _ _ _)))
  go_wp2_with fail
  go_ret
  exact ⟨ret_bool HY.out.symm, below_drewN (up_trans hB0 hB) _⟩
end Go.Proofs.YtialglmnfchfmafGreatDoor

/- The specification's batches (chapter 21): the things of slots, which is ok. -/
namespace Go.Proofs.YtialglmnfchfmafGreatDoor
open Go.RowKit

/-- The thing of a slot. -/
theorem thing_any (x : Rb) (b o c g q d : Nat) (s : ByteArray) (w : World) (hl : SlAt w g q x.sl) (hg : g < w.heap.size) (hn : x.sl.length ≤ 1048576) :
    Calls Tryz.prog 71 #[.agg #[.string x.nm, .slice (some ⟨b, o, none⟩) x.ps.length c, .slice (some ⟨g, q, none⟩) x.sl.length d, .string x.ad, .int .i64 x.si, .int .i64 x.st], .string s] w fun e w' => e = .returned (.string (firstT x.sl s)) ∧ Below w.heap.size w w' := by
  have hC : CB (w.alloc (.cells #[.string x.nm, .slice (some ⟨b, o, none⟩) x.ps.length c, .slice (some ⟨g, q, none⟩) x.sl.length d, .string x.ad, .int .i64 x.si, .int .i64 x.st] 32)) w.heap.size [.string x.nm, .slice (some ⟨b, o, none⟩) x.ps.length c, .slice (some ⟨g, q, none⟩) x.sl.length d, .string x.ad, .int .i64 x.si, .int .i64 x.st] := cb_alloc w _ _
  have hB0 := (Below.refl w.heap.size w).alloc (Nat.le_refl _) (.cells #[.string x.nm, .slice (some ⟨b, o, none⟩) x.ps.length c, .slice (some ⟨g, q, none⟩) x.sl.length d, .string x.ad, .int .i64 x.si, .int .i64 x.st] 32)
  go_enter Tryz.func71, Tryz.ntmps71
  go_upto_region 1 with fail
  generalize w.alloc (.cells #[.string x.nm, .slice (some ⟨b, o, none⟩) x.ps.length c, .slice (some ⟨g, q, none⟩) x.sl.length d, .string x.ad, .int .i64 x.si, .int .i64 x.st] 32) = W1 at *
  obtain ⟨-, -, d2, -⟩ := hC.c6
  have hl1 := hl.up hB0 hg
  go_wp2_with fail
  go_loop [5] (fun i => ∃ k : Nat, k ≤ x.sl.length ∧ i = .int .i64 k ∧ ∀ (j : Nat) (y : Sl), j < k → x.sl[j]? = some y → (y.s.toList == s.toList) = false) (fun i => x.sl.length - (intOf i).toNat)
  case atStart => exact ⟨0, by omega, rfl, fun j y hj => by omega⟩
  case round =>
    obtain ⟨k, hk, rfl, hal⟩ := hrel
    have Hal : Hid (∀ (j : Nat) (y : Sl), j < k → x.sl[j]? = some y → (y.s.toList == s.toList) = false) := hal
    clear hal
    by_cases hp : k < x.sl.length
    · obtain ⟨c0, c1⟩ := hl1.cells k hp
      cases hq : ((x.sl[k]).s.toList == s.toList)
      · have Hq : Hid (∀ (j : Nat) (y : Sl), j < k + 1 → x.sl[j]? = some y → (y.s.toList == s.toList) = false) := fun j y hj hy => by
          rcases Nat.lt_or_ge j k with h' | h'
          · exact Hal.out j y h' hy
          · obtain rfl : j = k := by omega
            obtain ⟨_, rfl⟩ := List.getElem?_eq_some_iff.1 hy
            exact hq
        go_wp2
        go_round
        case rel => exact ⟨k + 1, by omega, by go_num, Hq.out⟩
        case measure => simp [intOf]; omega
      · have Hq : Hid (firstT x.sl s = (x.sl[k]).t) := firstT_hit hp Hal.out hq
        go_wp2
        go_ret
        exact ⟨by rw [Hq.out]; rfl, hB0⟩
    · have Hq : Hid (firstT x.sl s = ⟨#[]⟩) := firstT_none fun j y hy => Hal.out j y (by have := (List.getElem?_eq_some_iff.1 hy).1; omega) hy
      go_wp2
      go_ret
      exact ⟨by rw [Hq.out]; rfl, hB0⟩

theorem ht_drew {W w0 : World} {q g k : Nat} {x0 x1 x2 x3 x4 x5 y : Value} (h : Below W.heap.size W w0 ∧ w0.cell? ⟨q, 0, none⟩ = some x0 ∧ w0.cell? ⟨q, 1, none⟩ = some x1 ∧ w0.cell? ⟨q, 2, none⟩ = some x2 ∧ w0.cell? ⟨q, 3, none⟩ = some x3 ∧ w0.cell? ⟨q, 4, none⟩ = some x4 ∧ w0.cell? ⟨q, 5, none⟩ = some x5 ∧ w0.cell? ⟨g, k, none⟩ = some y) : Below W.heap.size W w0.drew ∧ w0.drew.cell? ⟨q, 0, none⟩ = some x0 ∧ w0.drew.cell? ⟨q, 1, none⟩ = some x1 ∧ w0.drew.cell? ⟨q, 2, none⟩ = some x2 ∧ w0.drew.cell? ⟨q, 3, none⟩ = some x3 ∧ w0.drew.cell? ⟨q, 4, none⟩ = some x4 ∧ w0.drew.cell? ⟨q, 5, none⟩ = some x5 ∧ w0.drew.cell? ⟨g, k, none⟩ = some y :=
  ⟨h.1.drew, h.2⟩
theorem ht_up {W w0 w1 : World} {q g k : Nat} {x0 x1 x2 x3 x4 x5 y : Value} (hq : q < W.heap.size) (hr : g < W.heap.size) (h : Below W.heap.size W w0 ∧ w0.cell? ⟨q, 0, none⟩ = some x0 ∧ w0.cell? ⟨q, 1, none⟩ = some x1 ∧ w0.cell? ⟨q, 2, none⟩ = some x2 ∧ w0.cell? ⟨q, 3, none⟩ = some x3 ∧ w0.cell? ⟨q, 4, none⟩ = some x4 ∧ w0.cell? ⟨q, 5, none⟩ = some x5 ∧ w0.cell? ⟨g, k, none⟩ = some y) (hB : Below w0.heap.size w0 w1) : Below W.heap.size W w1 ∧ w1.cell? ⟨q, 0, none⟩ = some x0 ∧ w1.cell? ⟨q, 1, none⟩ = some x1 ∧ w1.cell? ⟨q, 2, none⟩ = some x2 ∧ w1.cell? ⟨q, 3, none⟩ = some x3 ∧ w1.cell? ⟨q, 4, none⟩ = some x4 ∧ w1.cell? ⟨q, 5, none⟩ = some x5 ∧ w1.cell? ⟨g, k, none⟩ = some y := by
  obtain ⟨h1, a0, a1, a2, a3, a4, a5, a6⟩ := h
  have hl : q < w0.heap.size := Nat.lt_of_lt_of_le hq h1.size
  have hm : g < w0.heap.size := Nat.lt_of_lt_of_le hr h1.size
  exact ⟨up_trans h1 hB, (hB.cell (p := ⟨q, 0, none⟩) hl).trans a0, (hB.cell (p := ⟨q, 1, none⟩) hl).trans a1, (hB.cell (p := ⟨q, 2, none⟩) hl).trans a2, (hB.cell (p := ⟨q, 3, none⟩) hl).trans a3, (hB.cell (p := ⟨q, 4, none⟩) hl).trans a4, (hB.cell (p := ⟨q, 5, none⟩) hl).trans a5, (hB.cell (p := ⟨g, k, none⟩) hm).trans a6⟩
theorem thE_take (l : List Sl) (ss : List ByteArray) (k : Nat) (hk : k < ss.length) : thE l (ss.take (k + 1)) = insL (thE l (ss.take k)) (firstT l ss[k]) := by
  unfold thE bothL
  rw [List.take_succ_eq_append_getElem hk, List.map_append, List.foldl_append]; rfl
set_option maxHeartbeats 2000000 in
/-- The things of slots. -/
theorem things_any (x : Rb) (b o c g q d : Nat) (ss : List ByteArray) (v : Value) (w : World) (hl : SlAt w g q x.sl) (hg : g < w.heap.size) (hn : x.sl.length ≤ 1048576) (h : Txt w v ss) (hs : ss.length ≤ 900) :
    Calls Tryz.prog 25 #[.agg #[.string x.nm, .slice (some ⟨b, o, none⟩) x.ps.length c, .slice (some ⟨g, q, none⟩) x.sl.length d, .string x.ad, .int .i64 x.si, .int .i64 x.st], v] w fun e w' => (∃ u, e = .returned u ∧ Txt w' u (thE x.sl ss)) ∧ Below w.heap.size w w' := by
  obtain ⟨gs, cs, rfl, hS, hgs, hcs, -⟩ := h
  have hC : CB (w.alloc (.cells #[.string x.nm, .slice (some ⟨b, o, none⟩) x.ps.length c, .slice (some ⟨g, q, none⟩) x.sl.length d, .string x.ad, .int .i64 x.si, .int .i64 x.st] 32)) w.heap.size [.string x.nm, .slice (some ⟨b, o, none⟩) x.ps.length c, .slice (some ⟨g, q, none⟩) x.sl.length d, .string x.ad, .int .i64 x.si, .int .i64 x.st] := cb_alloc w _ _
  have hB0 := (Below.refl w.heap.size w).alloc (Nat.le_refl _) (.cells #[.string x.nm, .slice (some ⟨b, o, none⟩) x.ps.length c, .slice (some ⟨g, q, none⟩) x.sl.length d, .string x.ad, .int .i64 x.si, .int .i64 x.st] 32)
  go_enter Tryz.func25, Tryz.ntmps25
  go_upto_region 1 with fail
  generalize w.alloc (.cells #[.string x.nm, .slice (some ⟨b, o, none⟩) x.ps.length c, .slice (some ⟨g, q, none⟩) x.sl.length d, .string x.ad, .int .i64 x.si, .int .i64 x.st] 32) = W1 at *
  have hlt := hC.2.2
  have hT0 := txt_nil W1
  have hB1 := (Below.refl W1.heap.size W1).alloc (Nat.le_refl _) (.cells #[] 9)
  go_upto_region 2 with fail
  generalize hW2 : W1.alloc (.cells #[] 9) = W2 at *
  clear hW2
  go_wp2_with fail
  go_loopw [5, 6] (fun u i w' => ∃ k : Nat, k ≤ ss.length ∧ i = .int .i64 k ∧ Txt w' u (thE x.sl (ss.take k)) ∧ Below W1.heap.size W1 w') (fun _ i _ => ss.length - (intOf i).toNat)
  case atStart => exact ⟨0, by omega, rfl, hT0, hB1⟩
  case round =>
    obtain ⟨k, hk, rfl, hT, hB⟩ := hrel
    by_cases hp : k < ss.length
    · have hB2 := up_trans hB0 hB
      have c0 := (hB2.cell (p := ⟨gs, k, none⟩) hgs).trans (by have := hS k ss[k] (by simp); simpa using this)
      obtain ⟨d0, d1, d2, d3, d4, d5⟩ := (hC.up hB hlt).c6
      have hle := thE_len x.sl (ss.take k)
      rw [List.length_take] at hle
      have Ht := thE_take x.sl ss k hp
      have HT : Hid (thE x.sl (ss.take (k + 1)) = insL (thE x.sl (ss.take k)) (firstT x.sl ss[k])) := Ht
      clear Ht
      generalize ss[k] = s0 at *
      generalize thE x.sl (ss.take k) = tt at *
      have hq4 : w.heap.size < wr.heap.size := Nat.lt_of_lt_of_le hlt hB.size
      have hg4 : gs < wr.heap.size := Nat.lt_of_lt_of_le hgs hB2.size
      have hS0 : (fun w' => Below wr.heap.size wr w' ∧ w'.cell? ⟨w.heap.size, 0, none⟩ = some (.string x.nm) ∧ w'.cell? ⟨w.heap.size, 1, none⟩ = some (.slice (some ⟨b, o, none⟩) x.ps.length c) ∧ w'.cell? ⟨w.heap.size, 2, none⟩ = some (.slice (some ⟨g, q, none⟩) x.sl.length d) ∧ w'.cell? ⟨w.heap.size, 3, none⟩ = some (.string x.ad) ∧ w'.cell? ⟨w.heap.size, 4, none⟩ = some (.int .i64 x.si) ∧ w'.cell? ⟨w.heap.size, 5, none⟩ = some (.int .i64 x.st) ∧ w'.cell? ⟨gs, k, none⟩ = some (.string s0)) wr := ⟨Below.refl _ _, d0, d1, d2, d3, d4, d5, c0⟩
      have HL : Hid (∀ W, Below wr.heap.size wr W → Calls Tryz.prog 71 #[.agg #[.string x.nm, .slice (some ⟨b, o, none⟩) x.ps.length c, .slice (some ⟨g, q, none⟩) x.sl.length d, .string x.ad, .int .i64 x.si, .int .i64 x.st], .string s0] W fun e w' => e = .returned (.string (firstT x.sl s0)) ∧ Below W.heap.size W w') := fun W hW => thing_any x b o c g q d s0 W (hl.up (up_trans hB2 hW) hg) (Nat.lt_of_lt_of_le hg (up_trans hB2 hW).size) hn
      obtain ⟨gu, cu, hu, -⟩ := id hT
      subst hu
      clear d0 d1 d2 d3 d4 d5 c0
      go_wp2_with fail
      go_region_held (fun w' => Below wr.heap.size wr w' ∧ w'.cell? ⟨w.heap.size, 0, none⟩ = some (.string x.nm) ∧ w'.cell? ⟨w.heap.size, 1, none⟩ = some (.slice (some ⟨b, o, none⟩) x.ps.length c) ∧ w'.cell? ⟨w.heap.size, 2, none⟩ = some (.slice (some ⟨g, q, none⟩) x.sl.length d) ∧ w'.cell? ⟨w.heap.size, 3, none⟩ = some (.string x.ad) ∧ w'.cell? ⟨w.heap.size, 4, none⟩ = some (.int .i64 x.si) ∧ w'.cell? ⟨w.heap.size, 5, none⟩ = some (.int .i64 x.st) ∧ w'.cell? ⟨gs, k, none⟩ = some (.string s0)) (first | exact ht_drew hS0 | exact ht_up hq4 hg4 (by assumption) (by assumption))
        (first
          | (go_at_call 71; refine (HL.out _ (And.left (by assumption))).mono ?_; rintro e w3 ⟨rfl, hb3⟩; have hT3 := (hT.up (Below.refl _ _).drew).up hb3)
          | (go_at_call 70; refine (insert_any tt _ _ _ hT3 (by omega)).mono ?_; rintro e w4 ⟨⟨u4, rfl, hT4⟩, hb4⟩))
      rename_i hHeld
      have hB5 := up_trans hB hHeld.1
      rw [← HT.out] at hT4
      clear hHeld hS0 hT hT3 hb3 hb4 HL
      go_wp2_with fail
      go_roundw
      case rel => exact ⟨k + 1, by omega, by go_num, hT4, hB5⟩
      case measure => simp [intOf]; omega
    · have HK : Hid (∀ u, Txt wr u (thE x.sl (ss.take k)) → Txt wr u (thE x.sl ss)) := fun u h => by rwa [List.take_of_length_le (by omega)] at h
      go_wp2_with fail
      go_ret
      exact ⟨⟨_, rfl, HK.out _ hT⟩, up_trans hB0 hB⟩
end Go.Proofs.YtialglmnfchfmafGreatDoor
