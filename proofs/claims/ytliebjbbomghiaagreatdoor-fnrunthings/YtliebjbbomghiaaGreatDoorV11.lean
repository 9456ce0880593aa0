/- The specification's RunHouseOk (chapter 22). -/
import Derived.Test.YtliebjbbomghiaaGreatDoorV9
import Derived.Test.YtliebjbbomghiaaGreatDoorJ26
namespace Go.Proofs.YtliebjbbomghiaaGreatDoor
open Go.RowKit

theorem n13_drew {W w0 : World} {q r z o1 : Nat} {x0 x1 x2 x3 x4 x5 x6 x7 x8 x9 x10 x11 x12 : Value} (h : Below W.heap.size W w0 ∧ w0.cell? ⟨q, 0, none⟩ = some x0 ∧ w0.cell? ⟨q, 1, none⟩ = some x1 ∧ w0.cell? ⟨q, 2, none⟩ = some x2 ∧ w0.cell? ⟨q, 3, none⟩ = some x3 ∧ w0.cell? ⟨q, 4, none⟩ = some x4 ∧ w0.cell? ⟨q, 5, none⟩ = some x5 ∧ w0.cell? ⟨r, 0, none⟩ = some x6 ∧ w0.cell? ⟨r, 1, none⟩ = some x7 ∧ w0.cell? ⟨r, 2, none⟩ = some x8 ∧ w0.cell? ⟨r, 3, none⟩ = some x9 ∧ w0.cell? ⟨r, 4, none⟩ = some x10 ∧ w0.cell? ⟨r, 5, none⟩ = some x11 ∧ w0.cell? ⟨z, o1, none⟩ = some x12) : Below W.heap.size W w0.drew ∧ w0.drew.cell? ⟨q, 0, none⟩ = some x0 ∧ w0.drew.cell? ⟨q, 1, none⟩ = some x1 ∧ w0.drew.cell? ⟨q, 2, none⟩ = some x2 ∧ w0.drew.cell? ⟨q, 3, none⟩ = some x3 ∧ w0.drew.cell? ⟨q, 4, none⟩ = some x4 ∧ w0.drew.cell? ⟨q, 5, none⟩ = some x5 ∧ w0.drew.cell? ⟨r, 0, none⟩ = some x6 ∧ w0.drew.cell? ⟨r, 1, none⟩ = some x7 ∧ w0.drew.cell? ⟨r, 2, none⟩ = some x8 ∧ w0.drew.cell? ⟨r, 3, none⟩ = some x9 ∧ w0.drew.cell? ⟨r, 4, none⟩ = some x10 ∧ w0.drew.cell? ⟨r, 5, none⟩ = some x11 ∧ w0.drew.cell? ⟨z, o1, none⟩ = some x12 :=
  ⟨h.1.drew, h.2⟩
theorem n13_up {W w0 w1 : World} {q r z o1 : Nat} {x0 x1 x2 x3 x4 x5 x6 x7 x8 x9 x10 x11 x12 : Value} (hq : q < W.heap.size) (hr : r < W.heap.size) (hz : z < W.heap.size) (h : Below W.heap.size W w0 ∧ w0.cell? ⟨q, 0, none⟩ = some x0 ∧ w0.cell? ⟨q, 1, none⟩ = some x1 ∧ w0.cell? ⟨q, 2, none⟩ = some x2 ∧ w0.cell? ⟨q, 3, none⟩ = some x3 ∧ w0.cell? ⟨q, 4, none⟩ = some x4 ∧ w0.cell? ⟨q, 5, none⟩ = some x5 ∧ w0.cell? ⟨r, 0, none⟩ = some x6 ∧ w0.cell? ⟨r, 1, none⟩ = some x7 ∧ w0.cell? ⟨r, 2, none⟩ = some x8 ∧ w0.cell? ⟨r, 3, none⟩ = some x9 ∧ w0.cell? ⟨r, 4, none⟩ = some x10 ∧ w0.cell? ⟨r, 5, none⟩ = some x11 ∧ w0.cell? ⟨z, o1, none⟩ = some x12) (hB : Below w0.heap.size w0 w1) : Below W.heap.size W w1 ∧ w1.cell? ⟨q, 0, none⟩ = some x0 ∧ w1.cell? ⟨q, 1, none⟩ = some x1 ∧ w1.cell? ⟨q, 2, none⟩ = some x2 ∧ w1.cell? ⟨q, 3, none⟩ = some x3 ∧ w1.cell? ⟨q, 4, none⟩ = some x4 ∧ w1.cell? ⟨q, 5, none⟩ = some x5 ∧ w1.cell? ⟨r, 0, none⟩ = some x6 ∧ w1.cell? ⟨r, 1, none⟩ = some x7 ∧ w1.cell? ⟨r, 2, none⟩ = some x8 ∧ w1.cell? ⟨r, 3, none⟩ = some x9 ∧ w1.cell? ⟨r, 4, none⟩ = some x10 ∧ w1.cell? ⟨r, 5, none⟩ = some x11 ∧ w1.cell? ⟨z, o1, none⟩ = some x12 := by
  obtain ⟨h0, a0, a1, a2, a3, a4, a5, a6, a7, a8, a9, a10, a11, a12⟩ := h
  have lq : q < w0.heap.size := Nat.lt_of_lt_of_le hq h0.size
  have lr : r < w0.heap.size := Nat.lt_of_lt_of_le hr h0.size
  have lz : z < w0.heap.size := Nat.lt_of_lt_of_le hz h0.size
  exact ⟨up_trans h0 hB, (hB.cell (p := ⟨q, 0, none⟩) lq).trans a0, (hB.cell (p := ⟨q, 1, none⟩) lq).trans a1, (hB.cell (p := ⟨q, 2, none⟩) lq).trans a2, (hB.cell (p := ⟨q, 3, none⟩) lq).trans a3, (hB.cell (p := ⟨q, 4, none⟩) lq).trans a4, (hB.cell (p := ⟨q, 5, none⟩) lq).trans a5, (hB.cell (p := ⟨r, 0, none⟩) lr).trans a6, (hB.cell (p := ⟨r, 1, none⟩) lr).trans a7, (hB.cell (p := ⟨r, 2, none⟩) lr).trans a8, (hB.cell (p := ⟨r, 3, none⟩) lr).trans a9, (hB.cell (p := ⟨r, 4, none⟩) lr).trans a10, (hB.cell (p := ⟨r, 5, none⟩) lr).trans a11, (hB.cell (p := ⟨z, o1, none⟩) lz).trans a12⟩
def PlaceOk (h : House) (i : Nat) (b : Rb) : Prop := BatOk h.bs h.last i b ∧ idxI (rnms h.bs) b.nm = (i : Int)
def PlacesTo (h : House) (k : Nat) : Prop := ∀ (i : Nat) (b : Rb), i < k → h.bs[i]? = some b → PlaceOk h i b
theorem idx_nodup (l : List ByteArray) : (∀ (i : Nat) (s : ByteArray), l[i]? = some s → idxI l s = (i : Int)) ↔ l.Nodup := by
  constructor
  · intro h
    unfold List.Nodup
    rw [List.pairwise_iff_getElem]
    intro i j hi hj hij e
    have h1 := h i _ (List.getElem?_eq_getElem hi)
    have h2 := h j _ (List.getElem?_eq_getElem hj)
    rw [← e, h1] at h2
    omega
  · intro h i s hs
    obtain ⟨hi, rfl⟩ := List.getElem?_eq_some_iff.1 hs
    refine idxI_found hi ?_ (by simp)
    rw [memS_no]
    intro hm
    obtain ⟨j, hj, e⟩ := List.mem_take_iff_getElem.1 hm
    have := List.pairwise_iff_getElem.1 h j i (by omega) hi (by omega)
    exact this e
theorem rnms_get (bs : List Rb) (k : Nat) : (rnms bs)[k]? = bs[k]?.map (·.nm) := by simp [rnms]
theorem house_iff (h : House) : HouseOk h ↔ TimesOk h ∧ SafeP h.sh ∧ DonesOk h ∧ PlacesTo h h.bs.length ∧ SharesOk h := by
  constructor
  · rintro ⟨t0, t1, t2, t3, t4, t5, t6⟩
    refine ⟨t0, t2, t1, fun i b hi hb => ⟨t4 i b hi hb, ?_⟩, t3.1.symm, fun i b hi hb => ⟨?_, t5 i b hi hb, t6 i b hi hb⟩⟩
    · exact (idx_nodup _).2 t3.2.1 i b.nm (by rw [rnms_get, hb]; rfl)
    · exact t3.2.2 _ (List.mem_map.2 ⟨b, List.mem_of_getElem? hb, rfl⟩)
  · rintro ⟨t0, t2, t1, t4, t5⟩
    refine ⟨t0, t1, t2, ⟨t5.1.symm, (idx_nodup _).1 fun i s hs => ?_, fun s hs => ?_⟩, fun i b hi hb => (t4 i b hi hb).1, fun i b hi hb => (t5.2 i b hi hb).2.1, fun i b hi hb => (t5.2 i b hi hb).2.2⟩
    · rw [rnms_get, Option.map_eq_some_iff] at hs
      obtain ⟨b, hb, rfl⟩ := hs
      exact (t4 i b (List.getElem?_eq_some_iff.1 hb).1 hb).2
    · obtain ⟨b, hb, rfl⟩ := List.mem_map.1 hs
      obtain ⟨i, hi, rfl⟩ := List.getElem_of_mem hb
      exact (t5.2 i _ hi (List.getElem?_eq_getElem hi)).1
set_option maxRecDepth 20000 in
set_option maxHeartbeats 8000000 in
theorem houseOkS_any (h : House) (tv bv xv dv : Value) (w : World) (H : HV w h tv bv xv dv) :
    Calls Tryz.prog 110 #[.agg #[.int .i64 h.now, .int .i64 h.last, tv, bv, xv, dv]] w fun e w' => e = .returned (.bool (pB (HouseOk h))) ∧ Below w.heap.size w w' := by
  have H0 := H
  obtain ⟨a1, c1, a2, c2, a3, c3, a4, c4, rfl, rfl, rfl, rfl⟩ := H.shapes
  obtain ⟨hmax, hpos⟩ := H.x.inv rfl
  unfold maxLen at hmax
  clear H
  have hB0 := (Below.refl w.heap.size w).alloc (Nat.le_refl _) (.cells #[.int .i64 h.now, .int .i64 h.last, .slice a1 h.sh.things.length c1, .slice a2 h.sh.bs.length c2, .slice a3 h.bs.length c3, .slice a4 h.ds.length c4] 99)
  have hC : CB (w.alloc (.cells #[.int .i64 h.now, .int .i64 h.last, .slice a1 h.sh.things.length c1, .slice a2 h.sh.bs.length c2, .slice a3 h.bs.length c3, .slice a4 h.ds.length c4] 99)) w.heap.size [.int .i64 h.now, .int .i64 h.last, .slice a1 h.sh.things.length c1, .slice a2 h.sh.bs.length c2, .slice a3 h.bs.length c3, .slice a4 h.ds.length c4] := cb_alloc w _ _
  go_enter Tryz.func110, Tryz.ntmps110
  go_upto_region 1 with fail
  generalize w.alloc (.cells #[.int .i64 h.now, .int .i64 h.last, .slice a1 h.sh.things.length c1, .slice a2 h.sh.bs.length c2, .slice a3 h.bs.length c3, .slice a4 h.ds.length c4] 99) = W1 at *
  have hlt := hC.2.2
  obtain ⟨d0, d1, d2, d3, d4, d5⟩ := hC.c6
  have hB : Below W1.heap.size W1 W1 := Below.refl _ _
  obtain ⟨hc, hf⟩ := bcell hB
  cases q1 : inB h.now 0 100000
  · have HN : Hid (pB (HouseOk h) = false) := pB_no fun t => (inB_no _ _ _).1 q1 ⟨t.1.1, t.1.2.1⟩
    go_wp2_with (first | (go_at_call 31; refine (in_any _ _ _ _).mono ?_; rintro e w' ⟨rfl, hw⟩; obtain rfl := hw.symm; clear hw))
    go_ret
    exact ⟨ret_bool HN.out.symm, hB0⟩
  cases q2 : inB h.last 0 1000000
  · have HN : Hid (pB (HouseOk h) = false) := pB_no fun t => (inB_no _ _ _).1 q2 ⟨t.1.2.2.1, t.1.2.2.2⟩
    go_wp2_with (first | (go_at_call 31; refine (in_any _ _ _ _).mono ?_; rintro e w' ⟨rfl, hw⟩; obtain rfl := hw.symm; clear hw))
    go_ret
    exact ⟨ret_bool HN.out.symm, hB0⟩
  have hsf : ∀ W, Below w.heap.size w W → Calls Tryz.prog 120 #[.agg #[.slice a1 h.sh.things.length c1, .slice a2 h.sh.bs.length c2]] W fun e w' => e = .returned (.bool (pB (SafeP h.sh))) ∧ Below W.heap.size W w' := fun W hW => (specSafe_any h.sh _ W (H0.up hW).book).mono fun e w' ⟨⟨ss, ok, he, ho⟩, hb⟩ => ⟨by rw [he, safe_pB ho], hb⟩
  have HSF : Hid (∀ W, Below w.heap.size w W → Calls Tryz.prog 120 #[.agg #[.slice a1 h.sh.things.length c1, .slice a2 h.sh.bs.length c2]] W fun e w' => e = .returned (.bool (pB (SafeP h.sh))) ∧ Below W.heap.size W w') := hsf
  clear hsf
  cases q3 : pB (SafeP h.sh)
  · have HN : Hid (pB (HouseOk h) = false) := pB_no fun t => pB_not.1 q3 t.2.2.1
    go_wp2_with (first | (go_at_call 31; refine (in_any _ _ _ _).mono ?_; rintro e w' ⟨rfl, hw⟩; obtain rfl := hw.symm; clear hw) | (go_at_call 120; refine (HSF.out _ (up_trans hB0 hB)).mono ?_; rintro e w1 ⟨rfl, hb1⟩; (first | (have hB' := up_trans hB hb1; clear hB; have hB := hB'; clear hB') | (have hB := hb1)); clear hb1; (try clear hc hf); obtain ⟨hc, hf⟩ := bcell hB))
    go_ret
    exact ⟨ret_bool HN.out.symm, up_trans hB0 hB⟩
  cases q4 : pB (DonesOk h)
  · have HN : Hid (pB (HouseOk h) = false) := pB_no fun t => pB_not.1 q4 t.2.1
    go_wp2_with (first | (go_at_call 31; refine (in_any _ _ _ _).mono ?_; rintro e w' ⟨rfl, hw⟩; obtain rfl := hw.symm; clear hw) | (go_at_call 120; refine (HSF.out _ (up_trans hB0 hB)).mono ?_; rintro e w1 ⟨rfl, hb1⟩; (first | (have hB' := up_trans hB hb1; clear hB; have hB := hB'; clear hB') | (have hB := hb1)); clear hb1; (try clear hc hf); obtain ⟨hc, hf⟩ := bcell hB) | (go_at_call 121; refine (donesS_any h _ _ _ _ _ (H0.up (up_trans hB0 hB))).mono ?_; rintro e w1 ⟨rfl, hb1⟩; (first | (have hB' := up_trans hB hb1; clear hB; have hB := hB'; clear hB') | (have hB := hb1)); clear hb1; (try clear hc hf); obtain ⟨hc, hf⟩ := bcell hB))
    go_ret
    exact ⟨ret_bool HN.out.symm, up_trans hB0 hB⟩
  have HT : Hid (pB (HouseOk h) = pB (PlacesTo h h.bs.length ∧ SharesOk h)) := by
    show _ = _
    rw [Bool.eq_iff_iff, pB_iff, pB_iff, house_iff]
    have e1 := (inB_iff _ _ _).1 q1
    have e2 := (inB_iff _ _ _).1 q2
    exact ⟨fun t => t.2.2.2, fun t => ⟨⟨e1.1, e1.2, e2.1, e2.2⟩, pB_iff.1 q3, pB_iff.1 q4, t⟩⟩
  have Hbk : Hid (BookOk h.sh) := (pB_iff.1 q3).book
  go_upto_region 3 with (first | (go_at_call 31; refine (in_any _ _ _ _).mono ?_; rintro e w' ⟨rfl, hw⟩; obtain rfl := hw.symm; clear hw) | (go_at_call 120; refine (HSF.out _ (up_trans hB0 hB)).mono ?_; rintro e w1 ⟨rfl, hb1⟩; (first | (have hB' := up_trans hB hb1; clear hB; have hB := hB'; clear hB') | (have hB := hb1)); clear hb1; (try clear hc hf); obtain ⟨hc, hf⟩ := bcell hB) | (go_at_call 121; refine (donesS_any h _ _ _ _ _ (H0.up (up_trans hB0 hB))).mono ?_; rintro e w1 ⟨rfl, hb1⟩; (first | (have hB' := up_trans hB hb1; clear hB; have hB := hB'; clear hB') | (have hB := hb1)); clear hb1; (try clear hc hf); obtain ⟨hc, hf⟩ := bcell hB))
  have hBs := hB
  clear q1 q2 q3 q4 hc hf hB d0 d1 d2 d3 d4 d5
  go_wp2_with fail
  go_loopw [3, 4] (fun i _ w' => ∃ k : Nat, k ≤ h.bs.length ∧ i = .int .i64 k ∧ PlacesTo h k ∧ Below W1.heap.size W1 w') (fun i _ _ => h.bs.length - (intOf i).toNat)
  case atStart => exact ⟨0, by omega, rfl, fun i b hi => by omega, hBs⟩
  case round =>
    clear hBs
    obtain ⟨k, hk, rfl, hinv, hB⟩ := hrel
    have HI : Hid (PlacesTo h k) := hinv
    clear hinv
    obtain ⟨d0, d1, d2, d3, d4, d5⟩ := (hC.up hB hlt).c6
    by_cases hp : k < h.bs.length
    · obtain ⟨b, o, ha3, hS, hb⟩ := hpos (by omega)
      subst ha3
      have hB01 := up_trans hB0 hB
      have hS1' := hS.up hB01 hb
      obtain ⟨p, q, c, g, r, d, ⟨e0, e1, e2, e3, e4, e5⟩, hv⟩ := (hS1'.at hp).open
      have NO : Hid (¬ PlaceOk h k h.bs[k] → pB (HouseOk h) = false) := fun hn => by
        rw [HT.out]
        exact pB_no fun t => hn (t.1 k _ hp (List.getElem?_eq_getElem hp))
      have YES : Hid (PlaceOk h k h.bs[k] → PlacesTo h (k + 1)) := fun hy => to_step (P := PlaceOk h) HI.out hp hy
      have HP : Hid (0 < k → ∃ pst : Int, wr.cell? ⟨b, o + (k - 1) * 6 + 5, none⟩ = some (.int .i64 pst) ∧ (pst < (h.bs[k]).st ↔ ∀ (j : Nat) (p' : Rb), j + 1 = k → h.bs[j]? = some p' → p'.st < (h.bs[k]).st)) := fun h0 => by
        have hk1 : k - 1 < h.bs.length := by omega
        obtain ⟨_, _, _, _, _, _, ⟨-, -, -, -, -, z5⟩, -⟩ := (hS1'.at hk1).open
        refine ⟨(h.bs[k - 1]).st, z5, fun hle j p' hj hp' => ?_, fun t => t (k - 1) _ (by omega) (List.getElem?_eq_getElem hk1)⟩
        obtain rfl : j = k - 1 := by omega
        rw [List.getElem?_eq_getElem hk1] at hp'
        obtain rfl := Option.some.inj hp'
        exact hle
      generalize h.bs[k] = x0 at *
      clear hS hS1'
      have hB1 := hB.alloc hB.size (.cells #[.string x0.nm, .slice (some ⟨p, q, none⟩) x0.ps.length c, .slice (some ⟨g, r, none⟩) x0.sl.length d, .string x0.ad, .int .i64 x0.si, .int .i64 x0.st] 26)
      have hX : CB (wr.alloc (.cells #[.string x0.nm, .slice (some ⟨p, q, none⟩) x0.ps.length c, .slice (some ⟨g, r, none⟩) x0.sl.length d, .string x0.ad, .int .i64 x0.si, .int .i64 x0.st] 26)) wr.heap.size [.string x0.nm, .slice (some ⟨p, q, none⟩) x0.ps.length c, .slice (some ⟨g, r, none⟩) x0.sl.length d, .string x0.ad, .int .i64 x0.si, .int .i64 x0.st] := cb_alloc wr _ _
      have hal := (Below.refl wr.heap.size wr).alloc (Nat.le_refl _) (.cells #[.string x0.nm, .slice (some ⟨p, q, none⟩) x0.ps.length c, .slice (some ⟨g, r, none⟩) x0.sl.length d, .string x0.ad, .int .i64 x0.si, .int .i64 x0.st] 26)
      have hv2 := hv.up hal
      have hbw : b < wr.heap.size := Nat.lt_of_lt_of_le hb hB01.size
      have HP2 : Hid (0 < k → ∃ pst : Int, (wr.alloc (.cells #[.string x0.nm, .slice (some ⟨p, q, none⟩) x0.ps.length c, .slice (some ⟨g, r, none⟩) x0.sl.length d, .string x0.ad, .int .i64 x0.si, .int .i64 x0.st] 26)).cell? ⟨b, o + (k - 1) * 6 + 5, none⟩ = some (.int .i64 pst) ∧ (pst < x0.st ↔ ∀ (j : Nat) (p' : Rb), j + 1 = k → h.bs[j]? = some p' → p'.st < x0.st)) := fun h0 => by
        obtain ⟨pst, z1, z2⟩ := HP.out h0
        exact ⟨pst, (hal.cell (p := ⟨b, o + (k - 1) * 6 + 5, none⟩) hbw).trans z1, z2⟩
      clear HP hal
      go_upto_region 7 with fail
      generalize wr.alloc (.cells #[.string x0.nm, .slice (some ⟨p, q, none⟩) x0.ps.length c, .slice (some ⟨g, r, none⟩) x0.sl.length d, .string x0.ad, .int .i64 x0.si, .int .i64 x0.st] 26) = W2 at *
      clear d0 d1 d2 d3 d4 d5 e0 e1 e2 e3 e4 e5 hv
      obtain ⟨f0, f1, f2, f3, f4, f5⟩ := hX.c6
      obtain ⟨d0, d1, d2, d3, d4, d5⟩ := (hC.up hB1 hlt).c6
      have hXlt := hX.2.2
      have hqlt : w.heap.size < W2.heap.size := Nat.lt_of_lt_of_le hlt hB1.size
      have hB02 := up_trans hB0 hB1
      have hzlt : b < W2.heap.size := Nat.lt_of_lt_of_le hb hB02.size
      have hS0 : Below W2.heap.size W2 W2 ∧ W2.cell? ⟨w.heap.size, 0, none⟩ = some (.int .i64 h.now) ∧ W2.cell? ⟨w.heap.size, 1, none⟩ = some (.int .i64 h.last) ∧ W2.cell? ⟨w.heap.size, 2, none⟩ = some (.slice a1 h.sh.things.length c1) ∧ W2.cell? ⟨w.heap.size, 3, none⟩ = some (.slice a2 h.sh.bs.length c2) ∧ W2.cell? ⟨w.heap.size, 4, none⟩ = some (.slice (some ⟨b, o, none⟩) h.bs.length c3) ∧ W2.cell? ⟨w.heap.size, 5, none⟩ = some (.slice a4 h.ds.length c4) ∧ W2.cell? ⟨wr.heap.size, 0, none⟩ = some (.string x0.nm) ∧ W2.cell? ⟨wr.heap.size, 1, none⟩ = some (.slice (some ⟨p, q, none⟩) x0.ps.length c) ∧ W2.cell? ⟨wr.heap.size, 2, none⟩ = some (.slice (some ⟨g, r, none⟩) x0.sl.length d) ∧ W2.cell? ⟨wr.heap.size, 3, none⟩ = some (.string x0.ad) ∧ W2.cell? ⟨wr.heap.size, 4, none⟩ = some (.int .i64 x0.si) ∧ W2.cell? ⟨wr.heap.size, 5, none⟩ = some (.int .i64 x0.st) := ⟨Below.refl _ _, d0, d1, d2, d3, d4, d5, f0, f1, f2, f3, f4, f5⟩
      have HOF : Hid (∀ W, Below W2.heap.size W2 W → Calls Tryz.prog 114 #[.agg #[.int .i64 h.now, .int .i64 h.last, .slice a1 h.sh.things.length c1, .slice a2 h.sh.bs.length c2, .slice (some ⟨b, o, none⟩) h.bs.length c3, .slice a4 h.ds.length c4], .string x0.nm] W fun e w' => e = .returned (.int .i64 (idxI (rnms h.bs) x0.nm)) ∧ Below W.heap.size W w') := fun W hW => of22_any h _ _ _ _ x0.nm W (H0.up (up_trans hB02 hW))
      have hvd := hv2.up (Below.refl _ _).drew
      clear f0 f1 f2 f3 f4 f5 d0 d1 d2 d3 d4 d5 hv2
      go_cut [71] (fun v71 wc => ∃ cb : Bool, v71 = .bool cb ∧ (cb = true → ¬ PlaceOk h k x0) ∧ (cb = false → PlaceOk h k x0) ∧ Below W2.heap.size W2 wc)
      case first =>
        clear NO YES HI
        cases hq : pB (RbOk x0)
        · have HN : Hid (¬ PlaceOk h k x0) := fun t => pB_not.1 hq t.1.1
          have hS1 : Below W2.heap.size W2 W2.drew ∧ W2.drew.cell? ⟨w.heap.size, 0, none⟩ = some (.int .i64 h.now) ∧ W2.drew.cell? ⟨w.heap.size, 1, none⟩ = some (.int .i64 h.last) ∧ W2.drew.cell? ⟨w.heap.size, 2, none⟩ = some (.slice a1 h.sh.things.length c1) ∧ W2.drew.cell? ⟨w.heap.size, 3, none⟩ = some (.slice a2 h.sh.bs.length c2) ∧ W2.drew.cell? ⟨w.heap.size, 4, none⟩ = some (.slice (some ⟨b, o, none⟩) h.bs.length c3) ∧ W2.drew.cell? ⟨w.heap.size, 5, none⟩ = some (.slice a4 h.ds.length c4) ∧ W2.drew.cell? ⟨wr.heap.size, 0, none⟩ = some (.string x0.nm) ∧ W2.drew.cell? ⟨wr.heap.size, 1, none⟩ = some (.slice (some ⟨p, q, none⟩) x0.ps.length c) ∧ W2.drew.cell? ⟨wr.heap.size, 2, none⟩ = some (.slice (some ⟨g, r, none⟩) x0.sl.length d) ∧ W2.drew.cell? ⟨wr.heap.size, 3, none⟩ = some (.string x0.ad) ∧ W2.drew.cell? ⟨wr.heap.size, 4, none⟩ = some (.int .i64 x0.si) ∧ W2.drew.cell? ⟨wr.heap.size, 5, none⟩ = some (.int .i64 x0.st) := m12_drew hS0
          clear hS0
          refine wp_region_x 99 (fun w' => Below W2.heap.size W2 w' ∧ w'.cell? ⟨w.heap.size, 0, none⟩ = some (.int .i64 h.now) ∧ w'.cell? ⟨w.heap.size, 1, none⟩ = some (.int .i64 h.last) ∧ w'.cell? ⟨w.heap.size, 2, none⟩ = some (.slice a1 h.sh.things.length c1) ∧ w'.cell? ⟨w.heap.size, 3, none⟩ = some (.slice a2 h.sh.bs.length c2) ∧ w'.cell? ⟨w.heap.size, 4, none⟩ = some (.slice (some ⟨b, o, none⟩) h.bs.length c3) ∧ w'.cell? ⟨w.heap.size, 5, none⟩ = some (.slice a4 h.ds.length c4) ∧ w'.cell? ⟨wr.heap.size, 0, none⟩ = some (.string x0.nm) ∧ w'.cell? ⟨wr.heap.size, 1, none⟩ = some (.slice (some ⟨p, q, none⟩) x0.ps.length c) ∧ w'.cell? ⟨wr.heap.size, 2, none⟩ = some (.slice (some ⟨g, r, none⟩) x0.sl.length d) ∧ w'.cell? ⟨wr.heap.size, 3, none⟩ = some (.string x0.ad) ∧ w'.cell? ⟨wr.heap.size, 4, none⟩ = some (.int .i64 x0.si) ∧ w'.cell? ⟨wr.heap.size, 5, none⟩ = some (.int .i64 x0.st)) (by kernel_rfl) ?_
          refine tkx 0 rfl hS1 ?_
          refine anyX_one (i := 1) (by kernel_rfl) rfl (fun K hK => ?_)
          go_simp
          go_wp2_with (go_at_call 9; refine (batchOkS_any x0 _ _ _ hvd).mono ?_; rw [hq]; rintro e w4 ⟨rfl, hb4⟩)
          have hS2 : Below W2.heap.size W2 w4 ∧ w4.cell? ⟨w.heap.size, 0, none⟩ = some (.int .i64 h.now) ∧ w4.cell? ⟨w.heap.size, 1, none⟩ = some (.int .i64 h.last) ∧ w4.cell? ⟨w.heap.size, 2, none⟩ = some (.slice a1 h.sh.things.length c1) ∧ w4.cell? ⟨w.heap.size, 3, none⟩ = some (.slice a2 h.sh.bs.length c2) ∧ w4.cell? ⟨w.heap.size, 4, none⟩ = some (.slice (some ⟨b, o, none⟩) h.bs.length c3) ∧ w4.cell? ⟨w.heap.size, 5, none⟩ = some (.slice a4 h.ds.length c4) ∧ w4.cell? ⟨wr.heap.size, 0, none⟩ = some (.string x0.nm) ∧ w4.cell? ⟨wr.heap.size, 1, none⟩ = some (.slice (some ⟨p, q, none⟩) x0.ps.length c) ∧ w4.cell? ⟨wr.heap.size, 2, none⟩ = some (.slice (some ⟨g, r, none⟩) x0.sl.length d) ∧ w4.cell? ⟨wr.heap.size, 3, none⟩ = some (.string x0.ad) ∧ w4.cell? ⟨wr.heap.size, 4, none⟩ = some (.int .i64 x0.si) ∧ w4.cell? ⟨wr.heap.size, 5, none⟩ = some (.int .i64 x0.st) := m12_up hqlt hXlt hS1 hb4
          have hb24 := up_trans (Below.refl _ _).drew hb4
          refine hK.out _ _ (fun _ => hS2) ?_; clear hK K
          refine tkx 2 rfl hS2 ?_
          refine tkx 3 rfl hS2 ?_
          refine skx 4 rfl hS2 ?_
          refine skx 5 rfl hS2 ?_
          refine skx 6 rfl hS2 ?_
          refine skx 7 rfl hS2 ?_
          refine skx 8 rfl hS2 ?_
          refine tkx 9 rfl hS2 ?_
          refine tkx 10 rfl hS2 ?_
          refine skx 11 rfl hS2 ?_
          refine skx 12 rfl hS2 ?_
          refine skx 13 rfl hS2 ?_
          refine skx 14 rfl hS2 ?_
          refine skx 15 rfl hS2 ?_
          refine skx 16 rfl hS2 ?_
          refine skx 17 rfl hS2 ?_
          refine skx 18 rfl hS2 ?_
          refine skx 19 rfl hS2 ?_
          refine skx 20 rfl hS2 ?_
          refine skx 21 rfl hS2 ?_
          refine skx 22 rfl hS2 ?_
          refine skx 23 rfl hS2 ?_
          refine skx 24 rfl hS2 ?_
          refine tkx 25 rfl hS2 ?_
          refine tkx 26 rfl hS2 ?_
          refine skx 27 rfl hS2 ?_
          refine skx 28 rfl hS2 ?_
          refine skx 29 rfl hS2 ?_
          refine skx 30 rfl hS2 ?_
          refine skx 31 rfl hS2 ?_
          refine skx 32 rfl hS2 ?_
          refine anyX_one (i := 33) (by kernel_rfl) rfl (fun K hK => ?_)
          go_simp
          refine hK.out _ _ (fun _ => hS2) ?_
          clear hK K
          refine anyX_done (by kernel_rfl) ?_ _
          have hB5 := hS2.1
          clear hS1 hS2
          go_wp2_with fail
          go_meet
          case rel => exact ⟨true, rfl, fun _ => HN.out, (fun e => by cases e), hB5⟩
        by_cases hsl : x0.st ≤ h.last
        case neg =>
          have HN : Hid (¬ PlaceOk h k x0) := fun t => hsl t.1.2.1
          have hst : decide (h.last < x0.st) = true := by simp; omega
          have hS1 : Below W2.heap.size W2 W2.drew ∧ W2.drew.cell? ⟨w.heap.size, 0, none⟩ = some (.int .i64 h.now) ∧ W2.drew.cell? ⟨w.heap.size, 1, none⟩ = some (.int .i64 h.last) ∧ W2.drew.cell? ⟨w.heap.size, 2, none⟩ = some (.slice a1 h.sh.things.length c1) ∧ W2.drew.cell? ⟨w.heap.size, 3, none⟩ = some (.slice a2 h.sh.bs.length c2) ∧ W2.drew.cell? ⟨w.heap.size, 4, none⟩ = some (.slice (some ⟨b, o, none⟩) h.bs.length c3) ∧ W2.drew.cell? ⟨w.heap.size, 5, none⟩ = some (.slice a4 h.ds.length c4) ∧ W2.drew.cell? ⟨wr.heap.size, 0, none⟩ = some (.string x0.nm) ∧ W2.drew.cell? ⟨wr.heap.size, 1, none⟩ = some (.slice (some ⟨p, q, none⟩) x0.ps.length c) ∧ W2.drew.cell? ⟨wr.heap.size, 2, none⟩ = some (.slice (some ⟨g, r, none⟩) x0.sl.length d) ∧ W2.drew.cell? ⟨wr.heap.size, 3, none⟩ = some (.string x0.ad) ∧ W2.drew.cell? ⟨wr.heap.size, 4, none⟩ = some (.int .i64 x0.si) ∧ W2.drew.cell? ⟨wr.heap.size, 5, none⟩ = some (.int .i64 x0.st) := m12_drew hS0
          clear hS0
          refine wp_region_x 99 (fun w' => Below W2.heap.size W2 w' ∧ w'.cell? ⟨w.heap.size, 0, none⟩ = some (.int .i64 h.now) ∧ w'.cell? ⟨w.heap.size, 1, none⟩ = some (.int .i64 h.last) ∧ w'.cell? ⟨w.heap.size, 2, none⟩ = some (.slice a1 h.sh.things.length c1) ∧ w'.cell? ⟨w.heap.size, 3, none⟩ = some (.slice a2 h.sh.bs.length c2) ∧ w'.cell? ⟨w.heap.size, 4, none⟩ = some (.slice (some ⟨b, o, none⟩) h.bs.length c3) ∧ w'.cell? ⟨w.heap.size, 5, none⟩ = some (.slice a4 h.ds.length c4) ∧ w'.cell? ⟨wr.heap.size, 0, none⟩ = some (.string x0.nm) ∧ w'.cell? ⟨wr.heap.size, 1, none⟩ = some (.slice (some ⟨p, q, none⟩) x0.ps.length c) ∧ w'.cell? ⟨wr.heap.size, 2, none⟩ = some (.slice (some ⟨g, r, none⟩) x0.sl.length d) ∧ w'.cell? ⟨wr.heap.size, 3, none⟩ = some (.string x0.ad) ∧ w'.cell? ⟨wr.heap.size, 4, none⟩ = some (.int .i64 x0.si) ∧ w'.cell? ⟨wr.heap.size, 5, none⟩ = some (.int .i64 x0.st)) (by kernel_rfl) ?_
          refine tkx 0 rfl hS1 ?_
          refine anyX_one (i := 1) (by kernel_rfl) rfl (fun K hK => ?_)
          go_simp
          go_wp2_with (go_at_call 9; refine (batchOkS_any x0 _ _ _ hvd).mono ?_; rw [hq]; rintro e w4 ⟨rfl, hb4⟩)
          have hS2 : Below W2.heap.size W2 w4 ∧ w4.cell? ⟨w.heap.size, 0, none⟩ = some (.int .i64 h.now) ∧ w4.cell? ⟨w.heap.size, 1, none⟩ = some (.int .i64 h.last) ∧ w4.cell? ⟨w.heap.size, 2, none⟩ = some (.slice a1 h.sh.things.length c1) ∧ w4.cell? ⟨w.heap.size, 3, none⟩ = some (.slice a2 h.sh.bs.length c2) ∧ w4.cell? ⟨w.heap.size, 4, none⟩ = some (.slice (some ⟨b, o, none⟩) h.bs.length c3) ∧ w4.cell? ⟨w.heap.size, 5, none⟩ = some (.slice a4 h.ds.length c4) ∧ w4.cell? ⟨wr.heap.size, 0, none⟩ = some (.string x0.nm) ∧ w4.cell? ⟨wr.heap.size, 1, none⟩ = some (.slice (some ⟨p, q, none⟩) x0.ps.length c) ∧ w4.cell? ⟨wr.heap.size, 2, none⟩ = some (.slice (some ⟨g, r, none⟩) x0.sl.length d) ∧ w4.cell? ⟨wr.heap.size, 3, none⟩ = some (.string x0.ad) ∧ w4.cell? ⟨wr.heap.size, 4, none⟩ = some (.int .i64 x0.si) ∧ w4.cell? ⟨wr.heap.size, 5, none⟩ = some (.int .i64 x0.st) := m12_up hqlt hXlt hS1 hb4
          have hb24 := up_trans (Below.refl _ _).drew hb4
          refine hK.out _ _ (fun _ => hS2) ?_; clear hK K
          refine tkx 2 rfl hS2 ?_
          refine tkx 3 rfl hS2 ?_
          refine tkx 4 rfl hS2 ?_
          refine tkx 5 rfl hS2 ?_
          refine tkx 6 rfl hS2 ?_
          refine tkx 7 rfl hS2 ?_
          refine tkx 8 rfl hS2 ?_
          try rw [hst]
          refine tkx 9 rfl hS2 ?_
          refine tkx 10 rfl hS2 ?_
          refine skx 11 rfl hS2 ?_
          refine skx 12 rfl hS2 ?_
          refine skx 13 rfl hS2 ?_
          refine skx 14 rfl hS2 ?_
          refine skx 15 rfl hS2 ?_
          refine skx 16 rfl hS2 ?_
          refine skx 17 rfl hS2 ?_
          refine skx 18 rfl hS2 ?_
          refine skx 19 rfl hS2 ?_
          refine skx 20 rfl hS2 ?_
          refine skx 21 rfl hS2 ?_
          refine skx 22 rfl hS2 ?_
          refine skx 23 rfl hS2 ?_
          refine skx 24 rfl hS2 ?_
          refine tkx 25 rfl hS2 ?_
          refine tkx 26 rfl hS2 ?_
          refine skx 27 rfl hS2 ?_
          refine skx 28 rfl hS2 ?_
          refine skx 29 rfl hS2 ?_
          refine skx 30 rfl hS2 ?_
          refine skx 31 rfl hS2 ?_
          refine skx 32 rfl hS2 ?_
          refine anyX_one (i := 33) (by kernel_rfl) rfl (fun K hK => ?_)
          go_simp
          refine hK.out _ _ (fun _ => hS2) ?_
          clear hK K
          refine anyX_done (by kernel_rfl) ?_ _
          have hB5 := hS2.1
          clear hS1 hS2
          go_wp2_with fail
          go_meet
          case rel => exact ⟨true, rfl, fun _ => HN.out, (fun e => by cases e), hB5⟩
        have hst : decide (h.last < x0.st) = false := by simp; omega
        rcases Nat.eq_zero_or_pos k with h0 | h0
        · subst h0
          have HY : Hid (PlaceOk h 0 x0 ↔ idxI (rnms h.bs) x0.nm = ((0 : Nat) : Int)) := ⟨fun t => t.2, fun t => ⟨⟨pB_iff.1 hq, hsl, fun j p' hj => by omega⟩, t⟩⟩
          have hS1 : Below W2.heap.size W2 W2.drew ∧ W2.drew.cell? ⟨w.heap.size, 0, none⟩ = some (.int .i64 h.now) ∧ W2.drew.cell? ⟨w.heap.size, 1, none⟩ = some (.int .i64 h.last) ∧ W2.drew.cell? ⟨w.heap.size, 2, none⟩ = some (.slice a1 h.sh.things.length c1) ∧ W2.drew.cell? ⟨w.heap.size, 3, none⟩ = some (.slice a2 h.sh.bs.length c2) ∧ W2.drew.cell? ⟨w.heap.size, 4, none⟩ = some (.slice (some ⟨b, o, none⟩) h.bs.length c3) ∧ W2.drew.cell? ⟨w.heap.size, 5, none⟩ = some (.slice a4 h.ds.length c4) ∧ W2.drew.cell? ⟨wr.heap.size, 0, none⟩ = some (.string x0.nm) ∧ W2.drew.cell? ⟨wr.heap.size, 1, none⟩ = some (.slice (some ⟨p, q, none⟩) x0.ps.length c) ∧ W2.drew.cell? ⟨wr.heap.size, 2, none⟩ = some (.slice (some ⟨g, r, none⟩) x0.sl.length d) ∧ W2.drew.cell? ⟨wr.heap.size, 3, none⟩ = some (.string x0.ad) ∧ W2.drew.cell? ⟨wr.heap.size, 4, none⟩ = some (.int .i64 x0.si) ∧ W2.drew.cell? ⟨wr.heap.size, 5, none⟩ = some (.int .i64 x0.st) := m12_drew hS0
          clear hS0
          refine wp_region_x 99 (fun w' => Below W2.heap.size W2 w' ∧ w'.cell? ⟨w.heap.size, 0, none⟩ = some (.int .i64 h.now) ∧ w'.cell? ⟨w.heap.size, 1, none⟩ = some (.int .i64 h.last) ∧ w'.cell? ⟨w.heap.size, 2, none⟩ = some (.slice a1 h.sh.things.length c1) ∧ w'.cell? ⟨w.heap.size, 3, none⟩ = some (.slice a2 h.sh.bs.length c2) ∧ w'.cell? ⟨w.heap.size, 4, none⟩ = some (.slice (some ⟨b, o, none⟩) h.bs.length c3) ∧ w'.cell? ⟨w.heap.size, 5, none⟩ = some (.slice a4 h.ds.length c4) ∧ w'.cell? ⟨wr.heap.size, 0, none⟩ = some (.string x0.nm) ∧ w'.cell? ⟨wr.heap.size, 1, none⟩ = some (.slice (some ⟨p, q, none⟩) x0.ps.length c) ∧ w'.cell? ⟨wr.heap.size, 2, none⟩ = some (.slice (some ⟨g, r, none⟩) x0.sl.length d) ∧ w'.cell? ⟨wr.heap.size, 3, none⟩ = some (.string x0.ad) ∧ w'.cell? ⟨wr.heap.size, 4, none⟩ = some (.int .i64 x0.si) ∧ w'.cell? ⟨wr.heap.size, 5, none⟩ = some (.int .i64 x0.st)) (by kernel_rfl) ?_
          refine tkx 0 rfl hS1 ?_
          refine anyX_one (i := 1) (by kernel_rfl) rfl (fun K hK => ?_)
          go_simp
          go_wp2_with (go_at_call 9; refine (batchOkS_any x0 _ _ _ hvd).mono ?_; rw [hq]; rintro e w4 ⟨rfl, hb4⟩)
          have hS2 : Below W2.heap.size W2 w4 ∧ w4.cell? ⟨w.heap.size, 0, none⟩ = some (.int .i64 h.now) ∧ w4.cell? ⟨w.heap.size, 1, none⟩ = some (.int .i64 h.last) ∧ w4.cell? ⟨w.heap.size, 2, none⟩ = some (.slice a1 h.sh.things.length c1) ∧ w4.cell? ⟨w.heap.size, 3, none⟩ = some (.slice a2 h.sh.bs.length c2) ∧ w4.cell? ⟨w.heap.size, 4, none⟩ = some (.slice (some ⟨b, o, none⟩) h.bs.length c3) ∧ w4.cell? ⟨w.heap.size, 5, none⟩ = some (.slice a4 h.ds.length c4) ∧ w4.cell? ⟨wr.heap.size, 0, none⟩ = some (.string x0.nm) ∧ w4.cell? ⟨wr.heap.size, 1, none⟩ = some (.slice (some ⟨p, q, none⟩) x0.ps.length c) ∧ w4.cell? ⟨wr.heap.size, 2, none⟩ = some (.slice (some ⟨g, r, none⟩) x0.sl.length d) ∧ w4.cell? ⟨wr.heap.size, 3, none⟩ = some (.string x0.ad) ∧ w4.cell? ⟨wr.heap.size, 4, none⟩ = some (.int .i64 x0.si) ∧ w4.cell? ⟨wr.heap.size, 5, none⟩ = some (.int .i64 x0.st) := m12_up hqlt hXlt hS1 hb4
          have hb24 := up_trans (Below.refl _ _).drew hb4
          refine hK.out _ _ (fun _ => hS2) ?_; clear hK K
          refine tkx 2 rfl hS2 ?_
          refine tkx 3 rfl hS2 ?_
          refine tkx 4 rfl hS2 ?_
          refine tkx 5 rfl hS2 ?_
          refine tkx 6 rfl hS2 ?_
          refine tkx 7 rfl hS2 ?_
          refine tkx 8 rfl hS2 ?_
          try rw [hst]
          refine tkx 9 rfl hS2 ?_
          refine tkx 10 rfl hS2 ?_
          refine tkx 11 rfl hS2 ?_
          refine tkx 12 rfl hS2 ?_
          refine tkx 13 rfl hS2 ?_
          refine skx 14 rfl hS2 ?_
          refine skx 15 rfl hS2 ?_
          refine skx 16 rfl hS2 ?_
          refine skx 17 rfl hS2 ?_
          refine skx 18 rfl hS2 ?_
          refine skx 19 rfl hS2 ?_
          refine skx 20 rfl hS2 ?_
          refine skx 21 rfl hS2 ?_
          refine skx 22 rfl hS2 ?_
          refine skx 23 rfl hS2 ?_
          refine tkx 24 rfl hS2 ?_
          refine tkx 25 rfl hS2 ?_
          refine tkx 26 rfl hS2 ?_
          refine tkx 27 rfl hS2 ?_
          refine tkx 28 rfl hS2 ?_
          refine tkx 29 rfl hS2 ?_
          refine tkx 31 rfl hS2 ?_
          refine anyX_one (i := 30) (by kernel_rfl) rfl (fun K hK => ?_)
          go_simp
          go_wp2_with (go_at_call 114; refine (HOF.out _ hb24).mono ?_; rintro e w5 ⟨rfl, hb5⟩)
          have hS3 : Below W2.heap.size W2 w5 ∧ w5.cell? ⟨w.heap.size, 0, none⟩ = some (.int .i64 h.now) ∧ w5.cell? ⟨w.heap.size, 1, none⟩ = some (.int .i64 h.last) ∧ w5.cell? ⟨w.heap.size, 2, none⟩ = some (.slice a1 h.sh.things.length c1) ∧ w5.cell? ⟨w.heap.size, 3, none⟩ = some (.slice a2 h.sh.bs.length c2) ∧ w5.cell? ⟨w.heap.size, 4, none⟩ = some (.slice (some ⟨b, o, none⟩) h.bs.length c3) ∧ w5.cell? ⟨w.heap.size, 5, none⟩ = some (.slice a4 h.ds.length c4) ∧ w5.cell? ⟨wr.heap.size, 0, none⟩ = some (.string x0.nm) ∧ w5.cell? ⟨wr.heap.size, 1, none⟩ = some (.slice (some ⟨p, q, none⟩) x0.ps.length c) ∧ w5.cell? ⟨wr.heap.size, 2, none⟩ = some (.slice (some ⟨g, r, none⟩) x0.sl.length d) ∧ w5.cell? ⟨wr.heap.size, 3, none⟩ = some (.string x0.ad) ∧ w5.cell? ⟨wr.heap.size, 4, none⟩ = some (.int .i64 x0.si) ∧ w5.cell? ⟨wr.heap.size, 5, none⟩ = some (.int .i64 x0.st) := m12_up hqlt hXlt hS2 hb5
          refine hK.out _ _ (fun _ => hS3) ?_; clear hK K
          refine tkx 32 rfl hS3 ?_
          refine anyX_one (i := 33) (by kernel_rfl) rfl (fun K hK => ?_)
          go_simp
          refine hK.out _ _ (fun _ => hS3) ?_
          clear hK K
          refine anyX_done (by kernel_rfl) ?_ _
          have hB5 := hS3.1
          clear hS1 hS2 hS3
          go_wp2_with fail
          go_meet
          case rel => exact ⟨_, rfl, (fun e t => by have := HY.out.1 t; simp [this] at e), (fun e => HY.out.2 (by simpa using e)), hB5⟩
        · obtain ⟨pst, cp, hpi⟩ := HP2.out h0
          have hk1 : decide (0 < (k : Int)) = true := by simp; omega
          have hk2 : ((k : Int) - 1) = ((k - 1 : Nat) : Int) := by omega
          have hk3 : k - 1 < h.bs.length := by omega
          have hk4 : IntKind.i64.wrap ((k - 1 : Nat) : Int) = ((k - 1 : Nat) : Int) := IntWalk.i64_in _ (by omega)
          have hk5 : IntKind.i64.wrap ((k : Int) - 1) = ((k - 1 : Nat) : Int) := by rw [IntWalk.i64_in _ (by omega)]; omega
          have hS2' : Below W2.heap.size W2 W2 ∧ W2.cell? ⟨w.heap.size, 0, none⟩ = some (.int .i64 h.now) ∧ W2.cell? ⟨w.heap.size, 1, none⟩ = some (.int .i64 h.last) ∧ W2.cell? ⟨w.heap.size, 2, none⟩ = some (.slice a1 h.sh.things.length c1) ∧ W2.cell? ⟨w.heap.size, 3, none⟩ = some (.slice a2 h.sh.bs.length c2) ∧ W2.cell? ⟨w.heap.size, 4, none⟩ = some (.slice (some ⟨b, o, none⟩) h.bs.length c3) ∧ W2.cell? ⟨w.heap.size, 5, none⟩ = some (.slice a4 h.ds.length c4) ∧ W2.cell? ⟨wr.heap.size, 0, none⟩ = some (.string x0.nm) ∧ W2.cell? ⟨wr.heap.size, 1, none⟩ = some (.slice (some ⟨p, q, none⟩) x0.ps.length c) ∧ W2.cell? ⟨wr.heap.size, 2, none⟩ = some (.slice (some ⟨g, r, none⟩) x0.sl.length d) ∧ W2.cell? ⟨wr.heap.size, 3, none⟩ = some (.string x0.ad) ∧ W2.cell? ⟨wr.heap.size, 4, none⟩ = some (.int .i64 x0.si) ∧ W2.cell? ⟨wr.heap.size, 5, none⟩ = some (.int .i64 x0.st) ∧ World.cell? W2 ⟨b, o + (k - 1) * 6 + 5, none⟩ = some (.int .i64 pst) := by
            obtain ⟨z, y0, y1, y2, y3, y4, y5, y6, y7, y8, y9, ya, yb⟩ := hS0
            exact ⟨z, y0, y1, y2, y3, y4, y5, y6, y7, y8, y9, ya, yb, cp⟩
          have hS1 : Below W2.heap.size W2 W2.drew ∧ W2.drew.cell? ⟨w.heap.size, 0, none⟩ = some (.int .i64 h.now) ∧ W2.drew.cell? ⟨w.heap.size, 1, none⟩ = some (.int .i64 h.last) ∧ W2.drew.cell? ⟨w.heap.size, 2, none⟩ = some (.slice a1 h.sh.things.length c1) ∧ W2.drew.cell? ⟨w.heap.size, 3, none⟩ = some (.slice a2 h.sh.bs.length c2) ∧ W2.drew.cell? ⟨w.heap.size, 4, none⟩ = some (.slice (some ⟨b, o, none⟩) h.bs.length c3) ∧ W2.drew.cell? ⟨w.heap.size, 5, none⟩ = some (.slice a4 h.ds.length c4) ∧ W2.drew.cell? ⟨wr.heap.size, 0, none⟩ = some (.string x0.nm) ∧ W2.drew.cell? ⟨wr.heap.size, 1, none⟩ = some (.slice (some ⟨p, q, none⟩) x0.ps.length c) ∧ W2.drew.cell? ⟨wr.heap.size, 2, none⟩ = some (.slice (some ⟨g, r, none⟩) x0.sl.length d) ∧ W2.drew.cell? ⟨wr.heap.size, 3, none⟩ = some (.string x0.ad) ∧ W2.drew.cell? ⟨wr.heap.size, 4, none⟩ = some (.int .i64 x0.si) ∧ W2.drew.cell? ⟨wr.heap.size, 5, none⟩ = some (.int .i64 x0.st) ∧ World.cell? W2.drew ⟨b, o + (k - 1) * 6 + 5, none⟩ = some (.int .i64 pst) := n13_drew hS2'
          clear hS0 hS2' cp
          by_cases hps' : pst < x0.st
          case neg =>
            have HN : Hid (¬ PlaceOk h k x0) := fun t => hps' (hpi.2 t.1.2.2)
            have hps : decide (x0.st ≤ pst) = true := by simp; omega
            clear hpi
            refine wp_region_x 99 (fun w' => Below W2.heap.size W2 w' ∧ w'.cell? ⟨w.heap.size, 0, none⟩ = some (.int .i64 h.now) ∧ w'.cell? ⟨w.heap.size, 1, none⟩ = some (.int .i64 h.last) ∧ w'.cell? ⟨w.heap.size, 2, none⟩ = some (.slice a1 h.sh.things.length c1) ∧ w'.cell? ⟨w.heap.size, 3, none⟩ = some (.slice a2 h.sh.bs.length c2) ∧ w'.cell? ⟨w.heap.size, 4, none⟩ = some (.slice (some ⟨b, o, none⟩) h.bs.length c3) ∧ w'.cell? ⟨w.heap.size, 5, none⟩ = some (.slice a4 h.ds.length c4) ∧ w'.cell? ⟨wr.heap.size, 0, none⟩ = some (.string x0.nm) ∧ w'.cell? ⟨wr.heap.size, 1, none⟩ = some (.slice (some ⟨p, q, none⟩) x0.ps.length c) ∧ w'.cell? ⟨wr.heap.size, 2, none⟩ = some (.slice (some ⟨g, r, none⟩) x0.sl.length d) ∧ w'.cell? ⟨wr.heap.size, 3, none⟩ = some (.string x0.ad) ∧ w'.cell? ⟨wr.heap.size, 4, none⟩ = some (.int .i64 x0.si) ∧ w'.cell? ⟨wr.heap.size, 5, none⟩ = some (.int .i64 x0.st) ∧ World.cell? w' ⟨b, o + (k - 1) * 6 + 5, none⟩ = some (.int .i64 pst)) (by kernel_rfl) ?_
            refine tkx 0 rfl hS1 ?_
            refine anyX_one (i := 1) (by kernel_rfl) rfl (fun K hK => ?_)
            go_simp
            go_wp2_with (go_at_call 9; refine (batchOkS_any x0 _ _ _ hvd).mono ?_; rw [hq]; rintro e w4 ⟨rfl, hb4⟩)
            have hS2 : Below W2.heap.size W2 w4 ∧ w4.cell? ⟨w.heap.size, 0, none⟩ = some (.int .i64 h.now) ∧ w4.cell? ⟨w.heap.size, 1, none⟩ = some (.int .i64 h.last) ∧ w4.cell? ⟨w.heap.size, 2, none⟩ = some (.slice a1 h.sh.things.length c1) ∧ w4.cell? ⟨w.heap.size, 3, none⟩ = some (.slice a2 h.sh.bs.length c2) ∧ w4.cell? ⟨w.heap.size, 4, none⟩ = some (.slice (some ⟨b, o, none⟩) h.bs.length c3) ∧ w4.cell? ⟨w.heap.size, 5, none⟩ = some (.slice a4 h.ds.length c4) ∧ w4.cell? ⟨wr.heap.size, 0, none⟩ = some (.string x0.nm) ∧ w4.cell? ⟨wr.heap.size, 1, none⟩ = some (.slice (some ⟨p, q, none⟩) x0.ps.length c) ∧ w4.cell? ⟨wr.heap.size, 2, none⟩ = some (.slice (some ⟨g, r, none⟩) x0.sl.length d) ∧ w4.cell? ⟨wr.heap.size, 3, none⟩ = some (.string x0.ad) ∧ w4.cell? ⟨wr.heap.size, 4, none⟩ = some (.int .i64 x0.si) ∧ w4.cell? ⟨wr.heap.size, 5, none⟩ = some (.int .i64 x0.st) ∧ World.cell? w4 ⟨b, o + (k - 1) * 6 + 5, none⟩ = some (.int .i64 pst) := n13_up hqlt hXlt hzlt hS1 hb4
            have hb24 := up_trans (Below.refl _ _).drew hb4
            refine hK.out _ _ (fun _ => hS2) ?_; clear hK K
            refine tkx 2 rfl hS2 ?_
            refine tkx 3 rfl hS2 ?_
            refine tkx 4 rfl hS2 ?_
            refine tkx 5 rfl hS2 ?_
            refine tkx 6 rfl hS2 ?_
            refine tkx 7 rfl hS2 ?_
            refine tkx 8 rfl hS2 ?_
            try rw [hst]
            refine tkx 9 rfl hS2 ?_
            refine tkx 10 rfl hS2 ?_
            refine tkx 11 rfl hS2 ?_
            refine tkx 12 rfl hS2 ?_
            try rw [hk1]
            refine tkx 13 rfl hS2 ?_
            refine tkx 14 rfl hS2 ?_
            refine tkx 15 rfl hS2 ?_
            refine tkx 16 rfl hS2 ?_
            refine tkx 17 rfl hS2 ?_
            try rw [hk4]
            try rw [hk5]
            refine tkx 18 rfl hS2 ?_
            refine tkx 19 rfl hS2 ?_
            refine tkx 20 rfl hS2 ?_
            refine tkx 21 rfl hS2 ?_
            refine tkx 22 rfl hS2 ?_
            refine tkx 23 rfl hS2 ?_
            try rw [hps]
            refine tkx 24 rfl hS2 ?_
            refine tkx 25 rfl hS2 ?_
            refine tkx 26 rfl hS2 ?_
            refine skx 27 rfl hS2 ?_
            refine skx 28 rfl hS2 ?_
            refine skx 29 rfl hS2 ?_
            refine skx 30 rfl hS2 ?_
            refine skx 31 rfl hS2 ?_
            refine skx 32 rfl hS2 ?_
            refine anyX_one (i := 33) (by kernel_rfl) rfl (fun K hK => ?_)
            go_simp
            refine hK.out _ _ (fun _ => hS2) ?_
            clear hK K
            refine anyX_done (by kernel_rfl) ?_ _
            have hB5 := hS2.1
            clear hS1 hS2
            go_wp2_with fail
            go_meet
            case rel => exact ⟨true, rfl, fun _ => HN.out, (fun e => by cases e), hB5⟩
          case pos =>
            have HY : Hid (PlaceOk h k x0 ↔ idxI (rnms h.bs) x0.nm = (k : Int)) := ⟨fun t => t.2, fun t => ⟨⟨pB_iff.1 hq, hsl, hpi.1 hps'⟩, t⟩⟩
            have hps : decide (x0.st ≤ pst) = false := by simp; omega
            clear hpi
            refine wp_region_x 99 (fun w' => Below W2.heap.size W2 w' ∧ w'.cell? ⟨w.heap.size, 0, none⟩ = some (.int .i64 h.now) ∧ w'.cell? ⟨w.heap.size, 1, none⟩ = some (.int .i64 h.last) ∧ w'.cell? ⟨w.heap.size, 2, none⟩ = some (.slice a1 h.sh.things.length c1) ∧ w'.cell? ⟨w.heap.size, 3, none⟩ = some (.slice a2 h.sh.bs.length c2) ∧ w'.cell? ⟨w.heap.size, 4, none⟩ = some (.slice (some ⟨b, o, none⟩) h.bs.length c3) ∧ w'.cell? ⟨w.heap.size, 5, none⟩ = some (.slice a4 h.ds.length c4) ∧ w'.cell? ⟨wr.heap.size, 0, none⟩ = some (.string x0.nm) ∧ w'.cell? ⟨wr.heap.size, 1, none⟩ = some (.slice (some ⟨p, q, none⟩) x0.ps.length c) ∧ w'.cell? ⟨wr.heap.size, 2, none⟩ = some (.slice (some ⟨g, r, none⟩) x0.sl.length d) ∧ w'.cell? ⟨wr.heap.size, 3, none⟩ = some (.string x0.ad) ∧ w'.cell? ⟨wr.heap.size, 4, none⟩ = some (.int .i64 x0.si) ∧ w'.cell? ⟨wr.heap.size, 5, none⟩ = some (.int .i64 x0.st) ∧ World.cell? w' ⟨b, o + (k - 1) * 6 + 5, none⟩ = some (.int .i64 pst)) (by kernel_rfl) ?_
            refine tkx 0 rfl hS1 ?_
            refine anyX_one (i := 1) (by kernel_rfl) rfl (fun K hK => ?_)
            go_simp
            go_wp2_with (go_at_call 9; refine (batchOkS_any x0 _ _ _ hvd).mono ?_; rw [hq]; rintro e w4 ⟨rfl, hb4⟩)
            have hS2 : Below W2.heap.size W2 w4 ∧ w4.cell? ⟨w.heap.size, 0, none⟩ = some (.int .i64 h.now) ∧ w4.cell? ⟨w.heap.size, 1, none⟩ = some (.int .i64 h.last) ∧ w4.cell? ⟨w.heap.size, 2, none⟩ = some (.slice a1 h.sh.things.length c1) ∧ w4.cell? ⟨w.heap.size, 3, none⟩ = some (.slice a2 h.sh.bs.length c2) ∧ w4.cell? ⟨w.heap.size, 4, none⟩ = some (.slice (some ⟨b, o, none⟩) h.bs.length c3) ∧ w4.cell? ⟨w.heap.size, 5, none⟩ = some (.slice a4 h.ds.length c4) ∧ w4.cell? ⟨wr.heap.size, 0, none⟩ = some (.string x0.nm) ∧ w4.cell? ⟨wr.heap.size, 1, none⟩ = some (.slice (some ⟨p, q, none⟩) x0.ps.length c) ∧ w4.cell? ⟨wr.heap.size, 2, none⟩ = some (.slice (some ⟨g, r, none⟩) x0.sl.length d) ∧ w4.cell? ⟨wr.heap.size, 3, none⟩ = some (.string x0.ad) ∧ w4.cell? ⟨wr.heap.size, 4, none⟩ = some (.int .i64 x0.si) ∧ w4.cell? ⟨wr.heap.size, 5, none⟩ = some (.int .i64 x0.st) ∧ World.cell? w4 ⟨b, o + (k - 1) * 6 + 5, none⟩ = some (.int .i64 pst) := n13_up hqlt hXlt hzlt hS1 hb4
            have hb24 := up_trans (Below.refl _ _).drew hb4
            refine hK.out _ _ (fun _ => hS2) ?_; clear hK K
            refine tkx 2 rfl hS2 ?_
            refine tkx 3 rfl hS2 ?_
            refine tkx 4 rfl hS2 ?_
            refine tkx 5 rfl hS2 ?_
            refine tkx 6 rfl hS2 ?_
            refine tkx 7 rfl hS2 ?_
            refine tkx 8 rfl hS2 ?_
            try rw [hst]
            refine tkx 9 rfl hS2 ?_
            refine tkx 10 rfl hS2 ?_
            refine tkx 11 rfl hS2 ?_
            refine tkx 12 rfl hS2 ?_
            try rw [hk1]
            refine tkx 13 rfl hS2 ?_
            refine tkx 14 rfl hS2 ?_
            refine tkx 15 rfl hS2 ?_
            refine tkx 16 rfl hS2 ?_
            refine tkx 17 rfl hS2 ?_
            try rw [hk4]
            try rw [hk5]
            refine tkx 18 rfl hS2 ?_
            refine tkx 19 rfl hS2 ?_
            refine tkx 20 rfl hS2 ?_
            refine tkx 21 rfl hS2 ?_
            refine tkx 22 rfl hS2 ?_
            refine tkx 23 rfl hS2 ?_
            try rw [hps]
            refine tkx 24 rfl hS2 ?_
            refine tkx 25 rfl hS2 ?_
            refine tkx 26 rfl hS2 ?_
            refine tkx 27 rfl hS2 ?_
            refine tkx 28 rfl hS2 ?_
            refine tkx 29 rfl hS2 ?_
            refine tkx 31 rfl hS2 ?_
            refine anyX_one (i := 30) (by kernel_rfl) rfl (fun K hK => ?_)
            go_simp
            go_wp2_with (go_at_call 114; refine (HOF.out _ hb24).mono ?_; rintro e w5 ⟨rfl, hb5⟩)
            have hS3 : Below W2.heap.size W2 w5 ∧ w5.cell? ⟨w.heap.size, 0, none⟩ = some (.int .i64 h.now) ∧ w5.cell? ⟨w.heap.size, 1, none⟩ = some (.int .i64 h.last) ∧ w5.cell? ⟨w.heap.size, 2, none⟩ = some (.slice a1 h.sh.things.length c1) ∧ w5.cell? ⟨w.heap.size, 3, none⟩ = some (.slice a2 h.sh.bs.length c2) ∧ w5.cell? ⟨w.heap.size, 4, none⟩ = some (.slice (some ⟨b, o, none⟩) h.bs.length c3) ∧ w5.cell? ⟨w.heap.size, 5, none⟩ = some (.slice a4 h.ds.length c4) ∧ w5.cell? ⟨wr.heap.size, 0, none⟩ = some (.string x0.nm) ∧ w5.cell? ⟨wr.heap.size, 1, none⟩ = some (.slice (some ⟨p, q, none⟩) x0.ps.length c) ∧ w5.cell? ⟨wr.heap.size, 2, none⟩ = some (.slice (some ⟨g, r, none⟩) x0.sl.length d) ∧ w5.cell? ⟨wr.heap.size, 3, none⟩ = some (.string x0.ad) ∧ w5.cell? ⟨wr.heap.size, 4, none⟩ = some (.int .i64 x0.si) ∧ w5.cell? ⟨wr.heap.size, 5, none⟩ = some (.int .i64 x0.st) ∧ World.cell? w5 ⟨b, o + (k - 1) * 6 + 5, none⟩ = some (.int .i64 pst) := n13_up hqlt hXlt hzlt hS2 hb5
            refine hK.out _ _ (fun _ => hS3) ?_; clear hK K
            refine tkx 32 rfl hS3 ?_
            refine anyX_one (i := 33) (by kernel_rfl) rfl (fun K hK => ?_)
            go_simp
            refine hK.out _ _ (fun _ => hS3) ?_
            clear hK K
            refine anyX_done (by kernel_rfl) ?_ _
            have hB5 := hS3.1
            clear hS1 hS2 hS3
            go_wp2_with fail
            go_meet
            case rel => exact ⟨_, rfl, (fun e t => by have := HY.out.1 t; simp [this] at e), (fun e => HY.out.2 (by simpa using e)), hB5⟩
      case rest =>
        obtain ⟨cb, rfl, hc1, hc0, hBc⟩ := hcut
        have hB7 := up_trans hB1 hBc
        have hB07 := up_trans hB0 hB7
        clear hS0
        cases cb
        · have HY : Hid (PlacesTo h (k + 1)) := YES.out (hc0 rfl)
          clear hc0 hc1
          go_wp2_with fail
          go_roundw
          case rel => exact ⟨k + 1, by omega, by go_num, HY.out, hB7⟩
          case measure => simp [intOf]; omega
        · have HN : Hid (pB (HouseOk h) = false) := NO.out (hc1 rfl)
          clear hc0 hc1
          go_wp2_with fail
          go_ret
          exact ⟨ret_bool HN.out.symm, hB07⟩
    · have HY : Hid (pB (SharesOk h) = pB (HouseOk h)) := by
        show _ = _
        have hpl : PlacesTo h h.bs.length := by
          have := HI.out
          rwa [show k = h.bs.length by omega] at this
        rw [HT.out, Bool.eq_iff_iff, pB_iff, pB_iff]
        exact ⟨fun t => ⟨hpl, t⟩, fun t => t.2⟩
      have hB01 := up_trans hB0 hB
      go_wp2_with fail
      refine (sharesS_any h _ _ _ _ _ (H0.up hB01) Hbk.out).mono ?_
      rintro e w3 ⟨rfl, hB3⟩
      clear d0 d1 d2 d3 d4 d5
      go_wp2_with fail
      go_ret
      exact ⟨ret_bool HY.out, up_trans hB01 hB3⟩
end Go.Proofs.YtliebjbbomghiaaGreatDoor
