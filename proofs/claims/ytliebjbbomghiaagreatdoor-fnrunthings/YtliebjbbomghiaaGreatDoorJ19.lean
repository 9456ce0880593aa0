/- The specification's RunBatchOk, RunThings and RunOwn (chapter 21). -/
import Derived.Test.YtliebjbbomghiaaGreatDoorJ18
import Derived.Test.YtliebjbbomghiaaGreatDoorU3
namespace Go.Proofs.YtliebjbbomghiaaGreatDoor
open Go.RowKit

theorem specNameB (s : ByteArray) (w : World) (hs : s.size ≤ maxLen) : Calls Tryz.prog 27 #[.string s] w fun e w' => e = .returned (.bool (nameB s)) ∧ Below w.heap.size w w' :=
  (specName_any s w hs).mono fun _ _ h => ⟨h.1, by rw [h.2]; exact Below.refl _ _⟩
set_option maxRecDepth 20000 in
set_option maxHeartbeats 4000000 in
theorem batchOkS_any (x : Rb) (rv sv : Value) (w : World) (h : RbV w x rv sv) :
    Calls Tryz.prog 9 #[.agg #[.string x.nm, rv, sv, .string x.ad, .int .i64 x.si, .int .i64 x.st]] w fun e w' => e = .returned (.bool (pB (RbOk x))) ∧ Below w.heap.size w w' := by
  obtain ⟨b, o, c, rfl, hr, hb, hcap, hc9⟩ := h.r
  obtain ⟨g, q, d, rfl, hl, hg⟩ := h.s
  have zp := h.zp
  have zs := h.zs
  have zn := h.zn
  have np := h.np
  have ns := h.ns
  clear h
  have hC : CB (w.alloc (.cells #[.string x.nm, .slice (some ⟨b, o, none⟩) x.ps.length c, .slice (some ⟨g, q, none⟩) x.sl.length d, .string x.ad, .int .i64 x.si, .int .i64 x.st] 26)) w.heap.size [.string x.nm, .slice (some ⟨b, o, none⟩) x.ps.length c, .slice (some ⟨g, q, none⟩) x.sl.length d, .string x.ad, .int .i64 x.si, .int .i64 x.st] := cb_alloc w _ _
  have hB0 := (Below.refl w.heap.size w).alloc (Nat.le_refl _) (.cells #[.string x.nm, .slice (some ⟨b, o, none⟩) x.ps.length c, .slice (some ⟨g, q, none⟩) x.sl.length d, .string x.ad, .int .i64 x.si, .int .i64 x.st] 26)
  go_enter Tryz.func9, Tryz.ntmps9
  go_upto_region 1 with fail
  generalize w.alloc (.cells #[.string x.nm, .slice (some ⟨b, o, none⟩) x.ps.length c, .slice (some ⟨g, q, none⟩) x.sl.length d, .string x.ad, .int .i64 x.si, .int .i64 x.st] 26) = W1 at *
  obtain ⟨d0, d1, d2, d3, d4, d5⟩ := hC.c6
  have hlt := hC.2.2
  have hB : Below W1.heap.size W1 W1 := Below.refl _ _
  obtain ⟨hc, hf⟩ := bcell hB
  cases h1 : nameB x.nm
  · have HN : Hid (pB (RbOk x) = false) := pB_no fun h => by rw [h.1] at h1; cases h1
    go_wp2_with (first | (go_at_call 27; refine (specNameB _ _ zn).mono ?_; rintro e w1 ⟨rfl, hb1⟩; (first | (have hB' := up_trans hB hb1; clear hB; have hB := hB'; clear hB') | (have hB := hb1)); clear hb1; (try clear hc hf); obtain ⟨hc, hf⟩ := bcell hB))
    go_ret
    exact ⟨ret_bool HN.out.symm, up_trans hB0 hB⟩
  cases h3 : recB x.ps
  · have HN : Hid (pB (RbOk x) = false) := pB_no fun h => by rw [h.2.1] at h3; cases h3
    go_wp2_with (first | (go_at_call 27; refine (specNameB _ _ zn).mono ?_; rintro e w1 ⟨rfl, hb1⟩; (first | (have hB' := up_trans hB hb1; clear hB; have hB := hB'; clear hB') | (have hB := hb1)); clear hb1; (try clear hc hf); obtain ⟨hc, hf⟩ := bcell hB) | (go_at_call 28; refine (specOk_any x.ps b o c _ (hr.up (up_trans hB0 hB) hb) (Nat.lt_of_lt_of_le hb (up_trans hB0 hB).size) zp np).mono ?_; rintro e w1 ⟨rfl, hb1⟩; (first | (have hB' := up_trans hB hb1; clear hB; have hB := hB'; clear hB') | (have hB := hb1)); clear hb1; (try clear hc hf); obtain ⟨hc, hf⟩ := bcell hB))
    go_ret
    exact ⟨ret_bool HN.out.symm, up_trans hB0 hB⟩
  cases h4 : pB (SlotsOk x.ps x.sl)
  · have HN : Hid (pB (RbOk x) = false) := pB_no fun h => pB_not.1 h4 h.2.2.1
    go_wp2_with (first | (go_at_call 27; refine (specNameB _ _ zn).mono ?_; rintro e w1 ⟨rfl, hb1⟩; (first | (have hB' := up_trans hB hb1; clear hB; have hB := hB'; clear hB') | (have hB := hb1)); clear hb1; (try clear hc hf); obtain ⟨hc, hf⟩ := bcell hB) | (go_at_call 28; refine (specOk_any x.ps b o c _ (hr.up (up_trans hB0 hB) hb) (Nat.lt_of_lt_of_le hb (up_trans hB0 hB).size) zp np).mono ?_; rintro e w1 ⟨rfl, hb1⟩; (first | (have hB' := up_trans hB hb1; clear hB; have hB := hB'; clear hB') | (have hB := hb1)); clear hb1; (try clear hc hf); obtain ⟨hc, hf⟩ := bcell hB) | (go_at_call 29; refine (slotsOkS_any x.ps x.sl b o c g q d _ (hr.up (up_trans hB0 hB) hb) (Nat.lt_of_lt_of_le hb (up_trans hB0 hB).size) h3 (hl.up (up_trans hB0 hB) hg) (Nat.lt_of_lt_of_le hg (up_trans hB0 hB).size) ns zs).mono ?_; rintro e w1 ⟨rfl, hb1⟩; (first | (have hB' := up_trans hB hb1; clear hB; have hB := hB'; clear hB') | (have hB := hb1)); clear hb1; (try clear hc hf); obtain ⟨hc, hf⟩ := bcell hB))
    go_ret
    exact ⟨ret_bool HN.out.symm, up_trans hB0 hB⟩
  by_cases h2 : 1 ≤ x.st
  case neg =>
    have HN : Hid (pB (RbOk x) = false) := pB_no fun h => h2 h.2.2.2.1
    go_wp2_with (first | (go_at_call 27; refine (specNameB _ _ zn).mono ?_; rintro e w1 ⟨rfl, hb1⟩; (first | (have hB' := up_trans hB hb1; clear hB; have hB := hB'; clear hB') | (have hB := hb1)); clear hb1; (try clear hc hf); obtain ⟨hc, hf⟩ := bcell hB) | (go_at_call 28; refine (specOk_any x.ps b o c _ (hr.up (up_trans hB0 hB) hb) (Nat.lt_of_lt_of_le hb (up_trans hB0 hB).size) zp np).mono ?_; rintro e w1 ⟨rfl, hb1⟩; (first | (have hB' := up_trans hB hb1; clear hB; have hB := hB'; clear hB') | (have hB := hb1)); clear hb1; (try clear hc hf); obtain ⟨hc, hf⟩ := bcell hB) | (go_at_call 29; refine (slotsOkS_any x.ps x.sl b o c g q d _ (hr.up (up_trans hB0 hB) hb) (Nat.lt_of_lt_of_le hb (up_trans hB0 hB).size) h3 (hl.up (up_trans hB0 hB) hg) (Nat.lt_of_lt_of_le hg (up_trans hB0 hB).size) ns zs).mono ?_; rintro e w1 ⟨rfl, hb1⟩; (first | (have hB' := up_trans hB hb1; clear hB; have hB := hB'; clear hB') | (have hB := hb1)); clear hb1; (try clear hc hf); obtain ⟨hc, hf⟩ := bcell hB))
    go_ret
    exact ⟨ret_bool HN.out.symm, up_trans hB0 hB⟩
  have H123 : Hid (nameB x.nm = true ∧ recB x.ps = true ∧ SlotsOk x.ps x.sl ∧ 1 ≤ x.st) := ⟨h1, h3, pB_iff.1 h4, h2⟩
  go_upto_region 3 with (first | (go_at_call 27; refine (specNameB _ _ zn).mono ?_; rintro e w1 ⟨rfl, hb1⟩; (first | (have hB' := up_trans hB hb1; clear hB; have hB := hB'; clear hB') | (have hB := hb1)); clear hb1; (try clear hc hf); obtain ⟨hc, hf⟩ := bcell hB) | (go_at_call 28; refine (specOk_any x.ps b o c _ (hr.up (up_trans hB0 hB) hb) (Nat.lt_of_lt_of_le hb (up_trans hB0 hB).size) zp np).mono ?_; rintro e w1 ⟨rfl, hb1⟩; (first | (have hB' := up_trans hB hb1; clear hB; have hB := hB'; clear hB') | (have hB := hb1)); clear hb1; (try clear hc hf); obtain ⟨hc, hf⟩ := bcell hB) | (go_at_call 29; refine (slotsOkS_any x.ps x.sl b o c g q d _ (hr.up (up_trans hB0 hB) hb) (Nat.lt_of_lt_of_le hb (up_trans hB0 hB).size) h3 (hl.up (up_trans hB0 hB) hg) (Nat.lt_of_lt_of_le hg (up_trans hB0 hB).size) ns zs).mono ?_; rintro e w1 ⟨rfl, hb1⟩; (first | (have hB' := up_trans hB hb1; clear hB; have hB := hB'; clear hB') | (have hB := hb1)); clear hb1; (try clear hc hf); obtain ⟨hc, hf⟩ := bcell hB))
  clear h1 h2 h4
  cases h5 : hasB x.ps x.ad
  · have HN : Hid (pB (RbOk x) = false) := pB_no fun h => by rw [h.2.2.2.2.1] at h5; cases h5
    have hat := fun W (hW : RecAt W b o x.ps) => at_any x.ps b o c x.ad W hW np
    rw [atI_none x.ps x.ad h5] at hat
    clear h5
    go_wp2_with fail
    refine (hat _ (hr.up (up_trans hB0 hB) hb)).mono ?_
    rintro e w' ⟨rfl, hw⟩; obtain rfl := hw.symm; clear hw
    go_wp2_with fail
    go_quiet (fail)
    go_wp2
    go_ret
    exact ⟨ret_bool HN.out.symm, below_drewN (up_trans hB0 hB) _⟩
  obtain ⟨k, hk, hka⟩ := hasB_at h5
  have HY : Hid (pB (RbOk x) = inB x.si (-1) ((x.ps[k]).wi - 1)) := by
    show _ = _
    obtain ⟨k1, k2, k3, k4⟩ := H123.out
    have e := phOf_at hk hka
    have : RbOk x ↔ (-1 ≤ x.si ∧ x.si ≤ (x.ps[k]).wi - 1) := by
      rw [← e]
      exact ⟨fun h => ⟨h.2.2.2.2.2.1, by have := h.2.2.2.2.2.2; omega⟩, fun h => ⟨k1, k2, k3, k4, h5, h.1, by omega⟩⟩
    rw [Bool.eq_iff_iff, inB_iff, pB_iff]
    exact this
  have hat := fun W (hW : RecAt W b o x.ps) => at_any x.ps b o c x.ad W hW np
  rw [hka] at hat
  have hwi : 1 ≤ (x.ps[k]).wi ∧ (x.ps[k]).wi ≤ 1000 := okB_wi (recB_ok h3 (by simp))
  obtain ⟨-, -, -, -, -, c5, -⟩ := (hr.up (up_trans hB0 hB) hb).cells k hk
  clear hka h5 h3
  generalize (x.ps[k]).wi = wi at *
  go_upto_region 4 with (go_at_call 30; refine (hat _ (hr.up (up_trans hB0 hB) hb)).mono ?_; rintro e w' ⟨rfl, hw⟩; obtain rfl := hw.symm; clear hw)
  rename_i W3
  go_wp2_with fail
  go_quiet ((go_at_call 31; exact Calls.quiet_of_same (in_any _ _ _ _)))
  go_wp2_with fail
  go_ret
  exact ⟨ret_bool HY.out.symm, below_drewN (up_trans hB0 hB) _⟩
end Go.Proofs.YtliebjbbomghiaaGreatDoor

/- The specification's batches (chapter 21): the things of slots, which is ok. -/
namespace Go.Proofs.YtliebjbbomghiaaGreatDoor
open Go.RowKit

/-- The thing of a slot. -/
theorem thing_any (x : Rb) (b o c g q d : Nat) (s : ByteArray) (w : World) (hl : SlAt w g q x.sl) (hg : g < w.heap.size) (hn : x.sl.length ≤ 1048576) :
    Calls Tryz.prog 47 #[.agg #[.string x.nm, .slice (some ⟨b, o, none⟩) x.ps.length c, .slice (some ⟨g, q, none⟩) x.sl.length d, .string x.ad, .int .i64 x.si, .int .i64 x.st], .string s] w fun e w' => e = .returned (.string (firstT x.sl s)) ∧ Below w.heap.size w w' := by
  have hC : CB (w.alloc (.cells #[.string x.nm, .slice (some ⟨b, o, none⟩) x.ps.length c, .slice (some ⟨g, q, none⟩) x.sl.length d, .string x.ad, .int .i64 x.si, .int .i64 x.st] 26)) w.heap.size [.string x.nm, .slice (some ⟨b, o, none⟩) x.ps.length c, .slice (some ⟨g, q, none⟩) x.sl.length d, .string x.ad, .int .i64 x.si, .int .i64 x.st] := cb_alloc w _ _
  have hB0 := (Below.refl w.heap.size w).alloc (Nat.le_refl _) (.cells #[.string x.nm, .slice (some ⟨b, o, none⟩) x.ps.length c, .slice (some ⟨g, q, none⟩) x.sl.length d, .string x.ad, .int .i64 x.si, .int .i64 x.st] 26)
  go_enter Tryz.func47, Tryz.ntmps47
  go_upto_region 1 with fail
  generalize w.alloc (.cells #[.string x.nm, .slice (some ⟨b, o, none⟩) x.ps.length c, .slice (some ⟨g, q, none⟩) x.sl.length d, .string x.ad, .int .i64 x.si, .int .i64 x.st] 26) = W1 at *
  obtain ⟨-, -, d2, -⟩ := hC.c6
  have hl1 := hl.up hB0 hg
  go_wp2_with fail
  go_loop [5] (fun i => ∃ k : Nat, k ≤ x.sl.length ∧ i = .int .i64 k ∧ ∀ (j : Nat) (y : Sl), j < k → x.sl[j]? = some y → (y.s.toList == s.toList) = false) (fun i => x.sl.length - (intOf i).toNat)
  case atStart => exact ⟨0, by omega, rfl, fun j y hj => by omega⟩
  case round =>
    obtain ⟨k, hk, rfl, hal⟩ := hrel
    have Hal : Hid (∀ (j : Nat) (y : Sl), j < k → x.sl[j]? = some y → (y.s.toList == s.toList) = false) := hal
    clear hal
    by_cases hp : k < x.sl.length
    · obtain ⟨c0, c1⟩ := hl1.cells k hp
      cases hq : ((x.sl[k]).s.toList == s.toList)
      · have Hq : Hid (∀ (j : Nat) (y : Sl), j < k + 1 → x.sl[j]? = some y → (y.s.toList == s.toList) = false) := fun j y hj hy => by
          rcases Nat.lt_or_ge j k with h' | h'
          · exact Hal.out j y h' hy
          · obtain rfl : j = k := by omega
            obtain ⟨_, rfl⟩ := List.getElem?_eq_some_iff.1 hy
            exact hq
        go_wp2
        go_round
        case rel => exact ⟨k + 1, by omega, by go_num, Hq.out⟩
        case measure => simp [intOf]; omega
      · have Hq : Hid (firstT x.sl s = (x.sl[k]).t) := firstT_hit hp Hal.out hq
        go_wp2
        go_ret
        exact ⟨by rw [Hq.out]; rfl, hB0⟩
    · have Hq : Hid (firstT x.sl s = ⟨#[]⟩) := firstT_none fun j y hy => Hal.out j y (by have := (List.getElem?_eq_some_iff.1 hy).1; omega) hy
      go_wp2
      go_ret
      exact ⟨by rw [Hq.out]; rfl, hB0⟩

theorem ht_drew {W w0 : World} {q g k : Nat} {x0 x1 x2 x3 x4 x5 y : Value} (h : Below W.heap.size W w0 ∧ w0.cell? ⟨q, 0, none⟩ = some x0 ∧ w0.cell? ⟨q, 1, none⟩ = some x1 ∧ w0.cell? ⟨q, 2, none⟩ = some x2 ∧ w0.cell? ⟨q, 3, none⟩ = some x3 ∧ w0.cell? ⟨q, 4, none⟩ = some x4 ∧ w0.cell? ⟨q, 5, none⟩ = some x5 ∧ w0.cell? ⟨g, k, none⟩ = some y) : Below W.heap.size W w0.drew ∧ w0.drew.cell? ⟨q, 0, none⟩ = some x0 ∧ w0.drew.cell? ⟨q, 1, none⟩ = some x1 ∧ w0.drew.cell? ⟨q, 2, none⟩ = some x2 ∧ w0.drew.cell? ⟨q, 3, none⟩ = some x3 ∧ w0.drew.cell? ⟨q, 4, none⟩ = some x4 ∧ w0.drew.cell? ⟨q, 5, none⟩ = some x5 ∧ w0.drew.cell? ⟨g, k, none⟩ = some y :=
  ⟨h.1.drew, h.2⟩
theorem ht_up {W w0 w1 : World} {q g k : Nat} {x0 x1 x2 x3 x4 x5 y : Value} (hq : q < W.heap.size) (hr : g < W.heap.size) (h : Below W.heap.size W w0 ∧ w0.cell? ⟨q, 0, none⟩ = some x0 ∧ w0.cell? ⟨q, 1, none⟩ = some x1 ∧ w0.cell? ⟨q, 2, none⟩ = some x2 ∧ w0.cell? ⟨q, 3, none⟩ = some x3 ∧ w0.cell? ⟨q, 4, none⟩ = some x4 ∧ w0.cell? ⟨q, 5, none⟩ = some x5 ∧ w0.cell? ⟨g, k, none⟩ = some y) (hB : Below w0.heap.size w0 w1) : Below W.heap.size W w1 ∧ w1.cell? ⟨q, 0, none⟩ = some x0 ∧ w1.cell? ⟨q, 1, none⟩ = some x1 ∧ w1.cell? ⟨q, 2, none⟩ = some x2 ∧ w1.cell? ⟨q, 3, none⟩ = some x3 ∧ w1.cell? ⟨q, 4, none⟩ = some x4 ∧ w1.cell? ⟨q, 5, none⟩ = some x5 ∧ w1.cell? ⟨g, k, none⟩ = some y := by
  obtain ⟨h1, a0, a1, a2, a3, a4, a5, a6⟩ := h
  have hl : q < w0.heap.size := Nat.lt_of_lt_of_le hq h1.size
  have hm : g < w0.heap.size := Nat.lt_of_lt_of_le hr h1.size
  exact ⟨up_trans h1 hB, (hB.cell (p := ⟨q, 0, none⟩) hl).trans a0, (hB.cell (p := ⟨q, 1, none⟩) hl).trans a1, (hB.cell (p := ⟨q, 2, none⟩) hl).trans a2, (hB.cell (p := ⟨q, 3, none⟩) hl).trans a3, (hB.cell (p := ⟨q, 4, none⟩) hl).trans a4, (hB.cell (p := ⟨q, 5, none⟩) hl).trans a5, (hB.cell (p := ⟨g, k, none⟩) hm).trans a6⟩
theorem thE_take (l : List Sl) (ss : List ByteArray) (k : Nat) (hk : k < ss.length) : thE l (ss.take (k + 1)) = insL (thE l (ss.take k)) (firstT l ss[k]) := by
  unfold thE bothL
  rw [List.take_succ_eq_append_getElem hk, List.map_append, List.foldl_append]; rfl
set_option maxHeartbeats 2000000 in
/-- The things of slots. -/
theorem things_any (x : Rb) (b o c g q d : Nat) (ss : List ByteArray) (v : Value) (w : World) (hl : SlAt w g q x.sl) (hg : g < w.heap.size) (hn : x.sl.length ≤ 1048576) (h : Txt w v ss) (hs : ss.length ≤ 900) :
    Calls Tryz.prog 20 #[.agg #[.string x.nm, .slice (some ⟨b, o, none⟩) x.ps.length c, .slice (some ⟨g, q, none⟩) x.sl.length d, .string x.ad, .int .i64 x.si, .int .i64 x.st], v] w fun e w' => (∃ u, e = .returned u ∧ Txt w' u (thE x.sl ss)) ∧ Below w.heap.size w w' := by
  obtain ⟨gs, cs, rfl, hS, hgs, hcs, -⟩ := h
  have hC : CB (w.alloc (.cells #[.string x.nm, .slice (some ⟨b, o, none⟩) x.ps.length c, .slice (some ⟨g, q, none⟩) x.sl.length d, .string x.ad, .int .i64 x.si, .int .i64 x.st] 26)) w.heap.size [.string x.nm, .slice (some ⟨b, o, none⟩) x.ps.length c, .slice (some ⟨g, q, none⟩) x.sl.length d, .string x.ad, .int .i64 x.si, .int .i64 x.st] := cb_alloc w _ _
  have hB0 := (Below.refl w.heap.size w).alloc (Nat.le_refl _) (.cells #[.string x.nm, .slice (some ⟨b, o, none⟩) x.ps.length c, .slice (some ⟨g, q, none⟩) x.sl.length d, .string x.ad, .int .i64 x.si, .int .i64 x.st] 26)
  go_enter Tryz.func20, Tryz.ntmps20
  go_upto_region 1 with fail
  generalize w.alloc (.cells #[.string x.nm, .slice (some ⟨b, o, none⟩) x.ps.length c, .slice (some ⟨g, q, none⟩) x.sl.length d, .string x.ad, .int .i64 x.si, .int .i64 x.st] 26) = W1 at *
  have hlt := hC.2.2
  have hT0 := txt_nil W1
  have hB1 := (Below.refl W1.heap.size W1).alloc (Nat.le_refl _) (.cells #[] 9)
  go_upto_region 2 with fail
  generalize hW2 : W1.alloc (.cells #[] 9) = W2 at *
  clear hW2
  go_wp2_with fail
  go_loopw [5, 6] (fun u i w' => ∃ k : Nat, k ≤ ss.length ∧ i = .int .i64 k ∧ Txt w' u (thE x.sl (ss.take k)) ∧ Below W1.heap.size W1 w') (fun _ i _ => ss.length - (intOf i).toNat)
  case atStart => exact ⟨0, by omega, rfl, hT0, hB1⟩
  case round =>
    obtain ⟨k, hk, rfl, hT, hB⟩ := hrel
    by_cases hp : k < ss.length
    · have hB2 := up_trans hB0 hB
      have c0 := (hB2.cell (p := ⟨gs, k, none⟩) hgs).trans (by have := hS k ss[k] (by simp); simpa using this)
      obtain ⟨d0, d1, d2, d3, d4, d5⟩ := (hC.up hB hlt).c6
      have hle := thE_len x.sl (ss.take k)
      rw [List.length_take] at hle
      have Ht := thE_take x.sl ss k hp
      have HT : Hid (thE x.sl (ss.take (k + 1)) = insL (thE x.sl (ss.take k)) (firstT x.sl ss[k])) := Ht
      clear Ht
      generalize ss[k] = s0 at *
      generalize thE x.sl (ss.take k) = tt at *
      have hq4 : w.heap.size < wr.heap.size := Nat.lt_of_lt_of_le hlt hB.size
      have hg4 : gs < wr.heap.size := Nat.lt_of_lt_of_le hgs hB2.size
      have hS0 : (fun w' => Below wr.heap.size wr w' ∧ w'.cell? ⟨w.heap.size, 0, none⟩ = some (.string x.nm) ∧ w'.cell? ⟨w.heap.size, 1, none⟩ = some (.slice (some ⟨b, o, none⟩) x.ps.length c) ∧ w'.cell? ⟨w.heap.size, 2, none⟩ = some (.slice (some ⟨g, q, none⟩) x.sl.length d) ∧ w'.cell? ⟨w.heap.size, 3, none⟩ = some (.string x.ad) ∧ w'.cell? ⟨w.heap.size, 4, none⟩ = some (.int .i64 x.si) ∧ w'.cell? ⟨w.heap.size, 5, none⟩ = some (.int .i64 x.st) ∧ w'.cell? ⟨gs, k, none⟩ = some (.string s0)) wr := ⟨Below.refl _ _, d0, d1, d2, d3, d4, d5, c0⟩
      have HL : Hid (∀ W, Below wr.heap.size wr W → Calls Tryz.prog 47 #[.agg #[.string x.nm, .slice (some ⟨b, o, none⟩) x.ps.length c, .slice (some ⟨g, q, none⟩) x.sl.length d, .string x.ad, .int .i64 x.si, .int .i64 x.st], .string s0] W fun e w' => e = .returned (.string (firstT x.sl s0)) ∧ Below W.heap.size W w') := fun W hW => thing_any x b o c g q d s0 W (hl.up (up_trans hB2 hW) hg) (Nat.lt_of_lt_of_le hg (up_trans hB2 hW).size) hn
      obtain ⟨gu, cu, hu, -⟩ := id hT
      subst hu
      clear d0 d1 d2 d3 d4 d5 c0
      go_wp2_with fail
      go_region_held (fun w' => Below wr.heap.size wr w' ∧ w'.cell? ⟨w.heap.size, 0, none⟩ = some (.string x.nm) ∧ w'.cell? ⟨w.heap.size, 1, none⟩ = some (.slice (some ⟨b, o, none⟩) x.ps.length c) ∧ w'.cell? ⟨w.heap.size, 2, none⟩ = some (.slice (some ⟨g, q, none⟩) x.sl.length d) ∧ w'.cell? ⟨w.heap.size, 3, none⟩ = some (.string x.ad) ∧ w'.cell? ⟨w.heap.size, 4, none⟩ = some (.int .i64 x.si) ∧ w'.cell? ⟨w.heap.size, 5, none⟩ = some (.int .i64 x.st) ∧ w'.cell? ⟨gs, k, none⟩ = some (.string s0)) (first | exact ht_drew hS0 | exact ht_up hq4 hg4 (by assumption) (by assumption))
        (first
          | (go_at_call 47; refine (HL.out _ (And.left (by assumption))).mono ?_; rintro e w3 ⟨rfl, hb3⟩; have hT3 := (hT.up (Below.refl _ _).drew).up hb3)
          | (go_at_call 46; refine (insert_any tt _ _ _ hT3 (by omega)).mono ?_; rintro e w4 ⟨⟨u4, rfl, hT4⟩, hb4⟩))
      rename_i hHeld
      have hB5 := up_trans hB hHeld.1
      rw [← HT.out] at hT4
      clear hHeld hS0 hT hT3 hb3 hb4 HL
      go_wp2_with fail
      go_roundw
      case rel => exact ⟨k + 1, by omega, by go_num, hT4, hB5⟩
      case measure => simp [intOf]; omega
    · have HK : Hid (∀ u, Txt wr u (thE x.sl (ss.take k)) → Txt wr u (thE x.sl ss)) := fun u h => by rwa [List.take_of_length_le (by omega)] at h
      go_wp2_with fail
      go_ret
      exact ⟨⟨_, rfl, HK.out _ hT⟩, up_trans hB0 hB⟩
end Go.Proofs.YtliebjbbomghiaaGreatDoor

/- RunThings and RunOwn, by the specification and by the program (chapter 21). -/
namespace Go.Proofs.YtliebjbbomghiaaGreatDoor
open Go.RowKit

theorem k6_drew {W w0 : World} {q : Nat} {x0 x1 x2 x3 x4 x5 : Value} (h : Below W.heap.size W w0 ∧ w0.cell? ⟨q, 0, none⟩ = some x0 ∧ w0.cell? ⟨q, 1, none⟩ = some x1 ∧ w0.cell? ⟨q, 2, none⟩ = some x2 ∧ w0.cell? ⟨q, 3, none⟩ = some x3 ∧ w0.cell? ⟨q, 4, none⟩ = some x4 ∧ w0.cell? ⟨q, 5, none⟩ = some x5) : Below W.heap.size W w0.drew ∧ w0.drew.cell? ⟨q, 0, none⟩ = some x0 ∧ w0.drew.cell? ⟨q, 1, none⟩ = some x1 ∧ w0.drew.cell? ⟨q, 2, none⟩ = some x2 ∧ w0.drew.cell? ⟨q, 3, none⟩ = some x3 ∧ w0.drew.cell? ⟨q, 4, none⟩ = some x4 ∧ w0.drew.cell? ⟨q, 5, none⟩ = some x5 :=
  ⟨h.1.drew, h.2⟩
theorem k6_up {W w0 w1 : World} {q : Nat} {x0 x1 x2 x3 x4 x5 : Value} (hq : q < W.heap.size) (h : Below W.heap.size W w0 ∧ w0.cell? ⟨q, 0, none⟩ = some x0 ∧ w0.cell? ⟨q, 1, none⟩ = some x1 ∧ w0.cell? ⟨q, 2, none⟩ = some x2 ∧ w0.cell? ⟨q, 3, none⟩ = some x3 ∧ w0.cell? ⟨q, 4, none⟩ = some x4 ∧ w0.cell? ⟨q, 5, none⟩ = some x5) (hB : Below w0.heap.size w0 w1) : Below W.heap.size W w1 ∧ w1.cell? ⟨q, 0, none⟩ = some x0 ∧ w1.cell? ⟨q, 1, none⟩ = some x1 ∧ w1.cell? ⟨q, 2, none⟩ = some x2 ∧ w1.cell? ⟨q, 3, none⟩ = some x3 ∧ w1.cell? ⟨q, 4, none⟩ = some x4 ∧ w1.cell? ⟨q, 5, none⟩ = some x5 := by
  obtain ⟨h0, a0, a1, a2, a3, a4, a5⟩ := h
  have lq : q < w0.heap.size := Nat.lt_of_lt_of_le hq h0.size
  exact ⟨up_trans h0 hB, (hB.cell (p := ⟨q, 0, none⟩) lq).trans a0, (hB.cell (p := ⟨q, 1, none⟩) lq).trans a1, (hB.cell (p := ⟨q, 2, none⟩) lq).trans a2, (hB.cell (p := ⟨q, 3, none⟩) lq).trans a3, (hB.cell (p := ⟨q, 4, none⟩) lq).trans a4, (hB.cell (p := ⟨q, 5, none⟩) lq).trans a5⟩
theorem k9_drew {W w0 : World} {q r : Nat} {x0 x1 x2 x3 x4 x5 x6 x7 x8 : Value} (h : Below W.heap.size W w0 ∧ w0.cell? ⟨q, 2, none⟩ = some x0 ∧ w0.cell? ⟨r, 0, none⟩ = some x1 ∧ w0.cell? ⟨r, 1, none⟩ = some x2 ∧ w0.cell? ⟨r, 2, none⟩ = some x3 ∧ w0.cell? ⟨r, 3, none⟩ = some x4 ∧ w0.cell? ⟨r, 4, none⟩ = some x5 ∧ w0.cell? ⟨r, 5, none⟩ = some x6 ∧ w0.cell? ⟨r, 6, none⟩ = some x7 ∧ w0.cell? ⟨r, 7, none⟩ = some x8) : Below W.heap.size W w0.drew ∧ w0.drew.cell? ⟨q, 2, none⟩ = some x0 ∧ w0.drew.cell? ⟨r, 0, none⟩ = some x1 ∧ w0.drew.cell? ⟨r, 1, none⟩ = some x2 ∧ w0.drew.cell? ⟨r, 2, none⟩ = some x3 ∧ w0.drew.cell? ⟨r, 3, none⟩ = some x4 ∧ w0.drew.cell? ⟨r, 4, none⟩ = some x5 ∧ w0.drew.cell? ⟨r, 5, none⟩ = some x6 ∧ w0.drew.cell? ⟨r, 6, none⟩ = some x7 ∧ w0.drew.cell? ⟨r, 7, none⟩ = some x8 :=
  ⟨h.1.drew, h.2⟩
theorem k9_up {W w0 w1 : World} {q r : Nat} {x0 x1 x2 x3 x4 x5 x6 x7 x8 : Value} (hq : q < W.heap.size) (hr : r < W.heap.size) (h : Below W.heap.size W w0 ∧ w0.cell? ⟨q, 2, none⟩ = some x0 ∧ w0.cell? ⟨r, 0, none⟩ = some x1 ∧ w0.cell? ⟨r, 1, none⟩ = some x2 ∧ w0.cell? ⟨r, 2, none⟩ = some x3 ∧ w0.cell? ⟨r, 3, none⟩ = some x4 ∧ w0.cell? ⟨r, 4, none⟩ = some x5 ∧ w0.cell? ⟨r, 5, none⟩ = some x6 ∧ w0.cell? ⟨r, 6, none⟩ = some x7 ∧ w0.cell? ⟨r, 7, none⟩ = some x8) (hB : Below w0.heap.size w0 w1) : Below W.heap.size W w1 ∧ w1.cell? ⟨q, 2, none⟩ = some x0 ∧ w1.cell? ⟨r, 0, none⟩ = some x1 ∧ w1.cell? ⟨r, 1, none⟩ = some x2 ∧ w1.cell? ⟨r, 2, none⟩ = some x3 ∧ w1.cell? ⟨r, 3, none⟩ = some x4 ∧ w1.cell? ⟨r, 4, none⟩ = some x5 ∧ w1.cell? ⟨r, 5, none⟩ = some x6 ∧ w1.cell? ⟨r, 6, none⟩ = some x7 ∧ w1.cell? ⟨r, 7, none⟩ = some x8 := by
  obtain ⟨h0, a0, a1, a2, a3, a4, a5, a6, a7, a8⟩ := h
  have lq : q < w0.heap.size := Nat.lt_of_lt_of_le hq h0.size
  have lr : r < w0.heap.size := Nat.lt_of_lt_of_le hr h0.size
  exact ⟨up_trans h0 hB, (hB.cell (p := ⟨q, 2, none⟩) lq).trans a0, (hB.cell (p := ⟨r, 0, none⟩) lr).trans a1, (hB.cell (p := ⟨r, 1, none⟩) lr).trans a2, (hB.cell (p := ⟨r, 2, none⟩) lr).trans a3, (hB.cell (p := ⟨r, 3, none⟩) lr).trans a4, (hB.cell (p := ⟨r, 4, none⟩) lr).trans a5, (hB.cell (p := ⟨r, 5, none⟩) lr).trans a6, (hB.cell (p := ⟨r, 6, none⟩) lr).trans a7, (hB.cell (p := ⟨r, 7, none⟩) lr).trans a8⟩
theorem k14_drew {W w0 : World} {q r o : Nat} {x0 x1 x2 x3 x4 x5 x6 x7 x8 x9 x10 x11 x12 x13 : Value} (h : Below W.heap.size W w0 ∧ w0.cell? ⟨q, 0, none⟩ = some x0 ∧ w0.cell? ⟨q, 1, none⟩ = some x1 ∧ w0.cell? ⟨q, 2, none⟩ = some x2 ∧ w0.cell? ⟨q, 3, none⟩ = some x3 ∧ w0.cell? ⟨q, 4, none⟩ = some x4 ∧ w0.cell? ⟨q, 5, none⟩ = some x5 ∧ w0.cell? ⟨r, o, none⟩ = some x6 ∧ w0.cell? ⟨r, o + 1, none⟩ = some x7 ∧ w0.cell? ⟨r, o + 2, none⟩ = some x8 ∧ w0.cell? ⟨r, o + 3, none⟩ = some x9 ∧ w0.cell? ⟨r, o + 4, none⟩ = some x10 ∧ w0.cell? ⟨r, o + 5, none⟩ = some x11 ∧ w0.cell? ⟨r, o + 6, none⟩ = some x12 ∧ w0.cell? ⟨r, o + 7, none⟩ = some x13) : Below W.heap.size W w0.drew ∧ w0.drew.cell? ⟨q, 0, none⟩ = some x0 ∧ w0.drew.cell? ⟨q, 1, none⟩ = some x1 ∧ w0.drew.cell? ⟨q, 2, none⟩ = some x2 ∧ w0.drew.cell? ⟨q, 3, none⟩ = some x3 ∧ w0.drew.cell? ⟨q, 4, none⟩ = some x4 ∧ w0.drew.cell? ⟨q, 5, none⟩ = some x5 ∧ w0.drew.cell? ⟨r, o, none⟩ = some x6 ∧ w0.drew.cell? ⟨r, o + 1, none⟩ = some x7 ∧ w0.drew.cell? ⟨r, o + 2, none⟩ = some x8 ∧ w0.drew.cell? ⟨r, o + 3, none⟩ = some x9 ∧ w0.drew.cell? ⟨r, o + 4, none⟩ = some x10 ∧ w0.drew.cell? ⟨r, o + 5, none⟩ = some x11 ∧ w0.drew.cell? ⟨r, o + 6, none⟩ = some x12 ∧ w0.drew.cell? ⟨r, o + 7, none⟩ = some x13 :=
  ⟨h.1.drew, h.2⟩
theorem k14_up {W w0 w1 : World} {q r o : Nat} {x0 x1 x2 x3 x4 x5 x6 x7 x8 x9 x10 x11 x12 x13 : Value} (hq : q < W.heap.size) (hr : r < W.heap.size) (h : Below W.heap.size W w0 ∧ w0.cell? ⟨q, 0, none⟩ = some x0 ∧ w0.cell? ⟨q, 1, none⟩ = some x1 ∧ w0.cell? ⟨q, 2, none⟩ = some x2 ∧ w0.cell? ⟨q, 3, none⟩ = some x3 ∧ w0.cell? ⟨q, 4, none⟩ = some x4 ∧ w0.cell? ⟨q, 5, none⟩ = some x5 ∧ w0.cell? ⟨r, o, none⟩ = some x6 ∧ w0.cell? ⟨r, o + 1, none⟩ = some x7 ∧ w0.cell? ⟨r, o + 2, none⟩ = some x8 ∧ w0.cell? ⟨r, o + 3, none⟩ = some x9 ∧ w0.cell? ⟨r, o + 4, none⟩ = some x10 ∧ w0.cell? ⟨r, o + 5, none⟩ = some x11 ∧ w0.cell? ⟨r, o + 6, none⟩ = some x12 ∧ w0.cell? ⟨r, o + 7, none⟩ = some x13) (hB : Below w0.heap.size w0 w1) : Below W.heap.size W w1 ∧ w1.cell? ⟨q, 0, none⟩ = some x0 ∧ w1.cell? ⟨q, 1, none⟩ = some x1 ∧ w1.cell? ⟨q, 2, none⟩ = some x2 ∧ w1.cell? ⟨q, 3, none⟩ = some x3 ∧ w1.cell? ⟨q, 4, none⟩ = some x4 ∧ w1.cell? ⟨q, 5, none⟩ = some x5 ∧ w1.cell? ⟨r, o, none⟩ = some x6 ∧ w1.cell? ⟨r, o + 1, none⟩ = some x7 ∧ w1.cell? ⟨r, o + 2, none⟩ = some x8 ∧ w1.cell? ⟨r, o + 3, none⟩ = some x9 ∧ w1.cell? ⟨r, o + 4, none⟩ = some x10 ∧ w1.cell? ⟨r, o + 5, none⟩ = some x11 ∧ w1.cell? ⟨r, o + 6, none⟩ = some x12 ∧ w1.cell? ⟨r, o + 7, none⟩ = some x13 := by
  obtain ⟨h0, a0, a1, a2, a3, a4, a5, a6, a7, a8, a9, a10, a11, a12, a13⟩ := h
  have lq : q < w0.heap.size := Nat.lt_of_lt_of_le hq h0.size
  have lr : r < w0.heap.size := Nat.lt_of_lt_of_le hr h0.size
  exact ⟨up_trans h0 hB, (hB.cell (p := ⟨q, 0, none⟩) lq).trans a0, (hB.cell (p := ⟨q, 1, none⟩) lq).trans a1, (hB.cell (p := ⟨q, 2, none⟩) lq).trans a2, (hB.cell (p := ⟨q, 3, none⟩) lq).trans a3, (hB.cell (p := ⟨q, 4, none⟩) lq).trans a4, (hB.cell (p := ⟨q, 5, none⟩) lq).trans a5, (hB.cell (p := ⟨r, o, none⟩) lr).trans a6, (hB.cell (p := ⟨r, o + 1, none⟩) lr).trans a7, (hB.cell (p := ⟨r, o + 2, none⟩) lr).trans a8, (hB.cell (p := ⟨r, o + 3, none⟩) lr).trans a9, (hB.cell (p := ⟨r, o + 4, none⟩) lr).trans a10, (hB.cell (p := ⟨r, o + 5, none⟩) lr).trans a11, (hB.cell (p := ⟨r, o + 6, none⟩) lr).trans a12, (hB.cell (p := ⟨r, o + 7, none⟩) lr).trans a13⟩
theorem MapS.up {w w' : World} {M n : Nat} {D : DataW Unit} (h : MapS w M n D) (hB : Below w.heap.size w w') : MapS w' M n D :=
  World.ownsMap.kept (row := none) h ⟨hB.os, hB.tape, hB.output, hB.size, fun i hi _ => hB.block i hi⟩ (by simp)
theorem rbThings_ok {x : Rb} (h : RbOk x) (nm : ByteArray) : rbThings x nm = thE x.sl (slE x.ps nm) := by unfold rbThings; rw [if_pos (pB_yes h)]
theorem rbThings_no {x : Rb} (h : ¬ RbOk x) (nm : ByteArray) : rbThings x nm = [] := by unfold rbThings; rw [pB_no h]; rfl
theorem rbOwn_ok {x : Rb} (h : RbOk x) : rbOwn x = thE x.sl (ofL (phOf x.ps x.ad)) := by unfold rbOwn; rw [if_pos (pB_yes h)]
theorem rbOwn_no {x : Rb} (h : ¬ RbOk x) : rbOwn x = [] := by unfold rbOwn; rw [pB_no h]; rfl
theorem names_th {l : List Sl} {ss tt : List ByteArray} (h : keys (thE l ss) = thI l tt) : namesOf (thI l tt) = thE l ss := by rw [← h, names_keys]

set_option maxRecDepth 20000 in
set_option maxHeartbeats 4000000 in
theorem thingsS_any (x : Rb) (rv sv : Value) (nm : ByteArray) (w : World) (h : RbV w x rv sv) :
    Calls Tryz.prog 7 #[.agg #[.string x.nm, rv, sv, .string x.ad, .int .i64 x.si, .int .i64 x.st], .string nm] w fun e w' => (∃ u, e = .returned u ∧ Txt w' u (rbThings x nm)) ∧ Below w.heap.size w w' := by
  have hok := fun W (hB : Below w.heap.size w W) => batchOkS_any x rv sv W (h.up hB)
  obtain ⟨b, o, c, rfl, hr, hb, hcap, hc9⟩ := h.r
  obtain ⟨g, q, d, rfl, hl, hg⟩ := h.s
  have ns := h.ns
  clear h
  have hC : CB (w.alloc (.cells #[.string x.nm, .slice (some ⟨b, o, none⟩) x.ps.length c, .slice (some ⟨g, q, none⟩) x.sl.length d, .string x.ad, .int .i64 x.si, .int .i64 x.st] 26)) w.heap.size [.string x.nm, .slice (some ⟨b, o, none⟩) x.ps.length c, .slice (some ⟨g, q, none⟩) x.sl.length d, .string x.ad, .int .i64 x.si, .int .i64 x.st] := cb_alloc w _ _
  have hB0 := (Below.refl w.heap.size w).alloc (Nat.le_refl _) (.cells #[.string x.nm, .slice (some ⟨b, o, none⟩) x.ps.length c, .slice (some ⟨g, q, none⟩) x.sl.length d, .string x.ad, .int .i64 x.si, .int .i64 x.st] 26)
  have HO : Hid (∀ W, Below w.heap.size w W → Calls Tryz.prog 9 #[.agg #[.string x.nm, .slice (some ⟨b, o, none⟩) x.ps.length c, .slice (some ⟨g, q, none⟩) x.sl.length d, .string x.ad, .int .i64 x.si, .int .i64 x.st]] W fun e w' => e = .returned (.bool (pB (RbOk x))) ∧ Below W.heap.size W w') := hok
  clear hok
  go_enter Tryz.func7, Tryz.ntmps7
  go_upto_region 1 with fail
  generalize w.alloc (.cells #[.string x.nm, .slice (some ⟨b, o, none⟩) x.ps.length c, .slice (some ⟨g, q, none⟩) x.sl.length d, .string x.ad, .int .i64 x.si, .int .i64 x.st] 26) = W1 at *
  obtain ⟨d0, d1, d2, d3, d4, d5⟩ := hC.c6
  have hlt := hC.2.2
  by_cases hk : RbOk x
  case neg =>
    have HN : Hid (rbThings x nm = []) := rbThings_no hk nm
    have hp := pB_no hk
    go_wp2_with fail
    refine (HO.out _ hB0).mono ?_
    rw [hp]
    rintro e w1 ⟨rfl, hB1⟩
    go_wp2_with fail
    go_ret
    exact ⟨⟨_, rfl, by rw [HN.out]; exact txt_nil w1⟩, up_trans (up_trans hB0 hB1) ((Below.refl _ _).alloc (Nat.le_refl _) _)⟩
  have HY : Hid (rbThings x nm = thE x.sl (slE x.ps nm)) := rbThings_ok hk nm
  have hrb := hk.2.1
  have h12 : x.ps.length ≤ 12 := ((recB_iff x.ps).1 hrb).2.1
  have hp := pB_yes hk
  have hsl := slE_len x.ps nm
  clear hk
  go_wp2_with fail
  refine (HO.out _ hB0).mono ?_
  rw [hp]
  rintro e w1 ⟨rfl, hB1⟩
  go_upto_region 3 with fail
  have hB01 := up_trans hB0 hB1
  obtain ⟨f0, f1, f2, f3, f4, f5⟩ := (hC.up hB1 hlt).c6
  have hq4 : w.heap.size < w1.heap.size := Nat.lt_of_lt_of_le hlt hB1.size
  have hS0 : Below w1.heap.size w1 w1 ∧ w1.cell? ⟨w.heap.size, 0, none⟩ = some (.string x.nm) ∧ w1.cell? ⟨w.heap.size, 1, none⟩ = some (.slice (some ⟨b, o, none⟩) x.ps.length c) ∧ w1.cell? ⟨w.heap.size, 2, none⟩ = some (.slice (some ⟨g, q, none⟩) x.sl.length d) ∧ w1.cell? ⟨w.heap.size, 3, none⟩ = some (.string x.ad) ∧ w1.cell? ⟨w.heap.size, 4, none⟩ = some (.int .i64 x.si) ∧ w1.cell? ⟨w.heap.size, 5, none⟩ = some (.int .i64 x.st) := ⟨Below.refl _ _, f0, f1, f2, f3, f4, f5⟩
  clear d0 d1 d2 d3 d4 d5 f0 f1 f2 f3 f4 f5 hp
  go_wp2_with fail
  go_region_held (fun w' => Below w1.heap.size w1 w' ∧ w'.cell? ⟨w.heap.size, 0, none⟩ = some (.string x.nm) ∧ w'.cell? ⟨w.heap.size, 1, none⟩ = some (.slice (some ⟨b, o, none⟩) x.ps.length c) ∧ w'.cell? ⟨w.heap.size, 2, none⟩ = some (.slice (some ⟨g, q, none⟩) x.sl.length d) ∧ w'.cell? ⟨w.heap.size, 3, none⟩ = some (.string x.ad) ∧ w'.cell? ⟨w.heap.size, 4, none⟩ = some (.int .i64 x.si) ∧ w'.cell? ⟨w.heap.size, 5, none⟩ = some (.int .i64 x.st)) (first | exact k6_drew hS0 | exact k6_up hq4 (by assumption) (by assumption))
    (first
      | (go_at_call 21; refine (l2Slots_any x.ps b o c hrb 20 nm _ (hr.up (up_trans hB01 (And.left (by assumption))) hb) (Nat.lt_of_lt_of_le hb (up_trans hB01 (And.left (by assumption))).size) (by omega)).mono ?_; rintro e w3 ⟨⟨u3, rfl, hT3⟩, hb3⟩; have hB3 := up_trans hB01 (up_trans (Below.refl _ _).drew hb3))
      | (go_at_call 20; refine (things_any x b o c g q d _ _ _ (hl.up hB3 hg) (Nat.lt_of_lt_of_le hg hB3.size) ns hT3 (by omega)).mono ?_; rintro e w4 ⟨⟨u4, rfl, hT4⟩, hb4⟩))
  rename_i hHeld
  have hB5 := up_trans hB01 hHeld.1
  clear hHeld hS0 hT3 hb3 hb4 hB3
  go_wp2_with fail
  go_ret
  exact ⟨⟨_, rfl, by rw [HY.out]; exact hT4⟩, hB5⟩

set_option maxRecDepth 20000 in
set_option maxHeartbeats 4000000 in
theorem thingsP_any (x : Rb) (rv sv : Value) (nm : ByteArray) (w : World) (hE : Ends w) (h : RbV w x rv sv) :
    Calls Tryz.prog 5 #[.agg #[.string x.nm, rv, sv, .string x.ad, .int .i64 x.si, .int .i64 x.st], .string nm] w fun e w' => (∃ u, e = .returned u ∧ OwnT w' w.heap.size u (rbThings x nm)) ∧ Below w.heap.size w w' := by
  have hok := fun W (hB : Below w.heap.size w W) => batchOkP_any x rv sv W (hE.up hB) (h.up hB)
  obtain ⟨b, o, c, rfl, hr, hb, hcap, hc9⟩ := h.r
  obtain ⟨g, q, d, rfl, hl, hg⟩ := h.s
  have ns := h.ns
  have zs := h.zs
  have zp := h.zp
  clear h
  have hC : CB (w.alloc (.cells #[.string x.nm, .slice (some ⟨b, o, none⟩) x.ps.length c, .slice (some ⟨g, q, none⟩) x.sl.length d, .string x.ad, .int .i64 x.si, .int .i64 x.st] 26)) w.heap.size [.string x.nm, .slice (some ⟨b, o, none⟩) x.ps.length c, .slice (some ⟨g, q, none⟩) x.sl.length d, .string x.ad, .int .i64 x.si, .int .i64 x.st] := cb_alloc w _ _
  have hB0 := (Below.refl w.heap.size w).alloc (Nat.le_refl _) (.cells #[.string x.nm, .slice (some ⟨b, o, none⟩) x.ps.length c, .slice (some ⟨g, q, none⟩) x.sl.length d, .string x.ad, .int .i64 x.si, .int .i64 x.st] 26)
  have HO : Hid (∀ W, Below w.heap.size w W → Calls Tryz.prog 8 #[.agg #[.string x.nm, .slice (some ⟨b, o, none⟩) x.ps.length c, .slice (some ⟨g, q, none⟩) x.sl.length d, .string x.ad, .int .i64 x.si, .int .i64 x.st]] W fun e w' => e = .returned (.bool (pB (RbOk x))) ∧ Below W.heap.size W w') := hok
  have HE : Hid (Ends w) := hE
  clear hok hE
  go_enter Tryz.func5, Tryz.ntmps5
  go_upto_region 1 with fail
  generalize w.alloc (.cells #[.string x.nm, .slice (some ⟨b, o, none⟩) x.ps.length c, .slice (some ⟨g, q, none⟩) x.sl.length d, .string x.ad, .int .i64 x.si, .int .i64 x.st] 26) = W1 at *
  obtain ⟨d0, d1, d2, d3, d4, d5⟩ := hC.c6
  have hlt := hC.2.2
  by_cases hk : RbOk x
  case neg =>
    have HN : Hid (rbThings x nm = []) := rbThings_no hk nm
    have hp := pB_no hk
    go_wp2_with fail
    refine (HO.out _ hB0).mono ?_
    rw [hp]
    rintro e w1 ⟨rfl, hB1⟩
    go_wp2_with fail
    go_ret
    exact ⟨⟨_, rfl, by rw [HN.out]; exact World.ownsRow_nil _ _ _ _⟩, up_trans hB0 hB1⟩
  have hrb := hk.2.1
  have h12 : x.ps.length ≤ 12 := ((recB_iff x.ps).1 hrb).2.1
  have HY : Hid (namesOf (thI x.sl (slE x.ps nm)) = rbThings x nm) := by
    show _ = _
    rw [rbThings_ok hk nm]
    exact names_th (things_same hk.2.2.1.nodup fun _ => Iff.rfl)
  have hV : slotsV x.ps nm = slE x.ps nm := by simp [slotsV, hrb]
  have HR : Hid (∀ W, Below w.heap.size w W → Calls Tryz.prog 19 #[.slice (some ⟨b, o, none⟩) x.ps.length c, .string nm] W fun e w' => (∃ u, e = .returned u ∧ OwnT w' W.heap.size u (slE x.ps nm)) ∧ Below W.heap.size W w') := fun W hW => by
    have := recSlots_big x.ps b o c nm W (HE.out.up hW) (hr.up hW hb) (Nat.lt_of_lt_of_le hb hW.size) zp hcap hc9
    rw [hV] at this; exact this
  have hsz := slE_sized zp nm
  have hp := pB_yes hk
  have hsl := slE_len x.ps nm
  clear hk hV
  go_wp2_with fail
  refine (HO.out _ hB0).mono ?_
  rw [hp]
  rintro e w1 ⟨rfl, hB1⟩
  go_upto_region 3 with fail
  have hB01 := up_trans hB0 hB1
  obtain ⟨f0, f1, f2, f3, f4, f5⟩ := (hC.up hB1 hlt).c6
  have hq4 : w.heap.size < w1.heap.size := Nat.lt_of_lt_of_le hlt hB1.size
  have hS0 : Below w1.heap.size w1 w1 ∧ w1.cell? ⟨w.heap.size, 0, none⟩ = some (.string x.nm) ∧ w1.cell? ⟨w.heap.size, 1, none⟩ = some (.slice (some ⟨b, o, none⟩) x.ps.length c) ∧ w1.cell? ⟨w.heap.size, 2, none⟩ = some (.slice (some ⟨g, q, none⟩) x.sl.length d) ∧ w1.cell? ⟨w.heap.size, 3, none⟩ = some (.string x.ad) ∧ w1.cell? ⟨w.heap.size, 4, none⟩ = some (.int .i64 x.si) ∧ w1.cell? ⟨w.heap.size, 5, none⟩ = some (.int .i64 x.st) := ⟨Below.refl _ _, f0, f1, f2, f3, f4, f5⟩
  clear d0 d1 d2 d3 d4 d5 f0 f1 f2 f3 f4 f5 hp
  go_wp2_with fail
  go_region_held (fun w' => Below w1.heap.size w1 w' ∧ w'.cell? ⟨w.heap.size, 0, none⟩ = some (.string x.nm) ∧ w'.cell? ⟨w.heap.size, 1, none⟩ = some (.slice (some ⟨b, o, none⟩) x.ps.length c) ∧ w'.cell? ⟨w.heap.size, 2, none⟩ = some (.slice (some ⟨g, q, none⟩) x.sl.length d) ∧ w'.cell? ⟨w.heap.size, 3, none⟩ = some (.string x.ad) ∧ w'.cell? ⟨w.heap.size, 4, none⟩ = some (.int .i64 x.si) ∧ w'.cell? ⟨w.heap.size, 5, none⟩ = some (.int .i64 x.st)) (first | exact k6_drew hS0 | exact k6_up hq4 (by assumption) (by assumption))
    (first
      | (go_at_call 17; refine (slotMap_any x.sl g q d _ (hl.up hB01.drew hg) (Nat.lt_of_lt_of_le hg hB01.drew.size) ns (fun y hy => (zs y hy).1)).mono ?_; rintro e w2 ⟨⟨M, D, rfl, hM, hD, -⟩, hb2⟩; have hB2 := up_trans hB01.drew hb2)
      | (go_at_call 19; refine (HR.out _ hB2).mono ?_; rintro e w3 ⟨⟨u3, rfl, hO3⟩, hb3⟩; have hM3 := hM.up hb3; have hB3 := up_trans hB2 hb3)
      | (go_at_call 18; refine (thingsM_any x.sl (slE x.ps nm) M _ D _ _ hM3 hD hO3.lst hsz (by omega)).mono ?_; rintro e w4 ⟨⟨u4, rfl, hO4⟩, hb4⟩))
  rename_i hHeld
  have hB5 := up_trans hB01 hHeld.1
  have hO5 := own_low hO4 hB3.size
  clear hHeld hS0 hO3 hO4 hb3 hb4 hB3 hM hD hM3 hb2 hB2
  go_wp2_with fail
  go_ret
  exact ⟨⟨_, rfl, by rw [← HY.out]; exact hO5⟩, hB5⟩
end Go.Proofs.YtliebjbbomghiaaGreatDoor
