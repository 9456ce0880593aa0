/- The program's checks of what batches need, and have (chapter 22). -/
import Derived.Test.YtialglmnfchfmafGreatDoorJ29
namespace Go.Proofs.YtialglmnfchfmafGreatDoor
open Go.RowKit

theorem rbThings_sized {x : Rb} {w : World} {rv sv : Value} (h : RbV w x rv sv) (nm : ByteArray) : ∀ s ∈ rbThings x nm, s.size ≤ maxLen := by
  by_cases hk : RbOk x
  · rw [rbThings_ok hk]
    intro s hs
    have h1 := ((thE_keys _ _).2 s.toList).1 (mem_keys.2 hs)
    simp only [keys, List.mem_map] at h1
    obtain ⟨_, ⟨t, _, rfl⟩, e⟩ := h1
    rw [← key_inj e]
    unfold firstT
    split
    · rename_i y hy
      exact (h.zs y (List.mem_of_find?_eq_some hy)).2
    · exact Nat.zero_le _
  · rw [rbThings_no hk]; intro s hs; simp at hs
theorem rbOwn_sized {x : Rb} {w : World} {rv sv : Value} (h : RbV w x rv sv) : ∀ s ∈ rbOwn x, s.size ≤ maxLen := by
  by_cases hk : RbOk x
  · rw [rbOwn_ok hk]
    intro s hs
    have h1 := ((thE_keys _ _).2 s.toList).1 (mem_keys.2 hs)
    simp only [keys, List.mem_map] at h1
    obtain ⟨_, ⟨t, _, rfl⟩, e⟩ := h1
    rw [← key_inj e]
    unfold firstT
    split
    · rename_i y hy
      exact (h.zs y (List.mem_of_find?_eq_some hy)).2
    · exact Nat.zero_le _
  · rw [rbOwn_no hk]; intro s hs; simp at hs
set_option maxRecDepth 20000 in
set_option maxHeartbeats 4000000 in
theorem needsP_any (h : House) (tv bv xv dv : Value) (w : World) (hE : Ends w) (H : HV w h tv bv xv dv) (hok : BookOk h.sh) (hN : NamesOk h) :
    Calls Tryz.prog 56 #[.agg #[.int .i64 h.now, .int .i64 h.last, tv, bv, xv, dv]] w fun e w' => e = .returned (.bool (pB (NeedTo h h.bs.length))) ∧ Below w.heap.size w w' := by
  obtain ⟨a1, c1, a2, c2, a3, c3, a4, c4, rfl, rfl, rfl, rfl⟩ := H.shapes
  obtain ⟨hmax, hpos⟩ := H.x.inv rfl
  unfold maxLen at hmax
  have HK := H.book
  clear H
  have HE : Hid (Ends w) := hE
  have HM : Hid (BookOk h.sh ∧ NamesOk h) := ⟨hok, hN⟩
  clear hE hok hN
  have hfd := run_fieldN
  have hB0 := (Below.refl w.heap.size w).alloc (Nat.le_refl _) (.cells #[.int .i64 h.now, .int .i64 h.last, .slice a1 h.sh.things.length c1, .slice a2 h.sh.bs.length c2, .slice a3 h.bs.length c3, .slice a4 h.ds.length c4] 54)
  have hC : CB (w.alloc (.cells #[.int .i64 h.now, .int .i64 h.last, .slice a1 h.sh.things.length c1, .slice a2 h.sh.bs.length c2, .slice a3 h.bs.length c3, .slice a4 h.ds.length c4] 54)) w.heap.size [.int .i64 h.now, .int .i64 h.last, .slice a1 h.sh.things.length c1, .slice a2 h.sh.bs.length c2, .slice a3 h.bs.length c3, .slice a4 h.ds.length c4] := cb_alloc w _ _
  go_enter Tryz.func56, Tryz.ntmps56
  go_upto_region 1 with fail
  generalize w.alloc (.cells #[.int .i64 h.now, .int .i64 h.last, .slice a1 h.sh.things.length c1, .slice a2 h.sh.bs.length c2, .slice a3 h.bs.length c3, .slice a4 h.ds.length c4] 54) = W1 at *
  have hlt := hC.2.2
  obtain ⟨d0, d1, d2, d3, d4, d5⟩ := hC.c6
  go_wp2_with fail
  go_loopw [4, 8] (fun _ i w' => ∃ k : Nat, k ≤ h.bs.length ∧ i = .int .i64 k ∧ NeedTo h k ∧ Below W1.heap.size W1 w') (fun _ i _ => h.bs.length - (intOf i).toNat)
  case atStart => exact ⟨0, by omega, rfl, fun i b hi => by omega, Below.refl _ _⟩
  case round =>
    obtain ⟨k, hk, rfl, hinv, hB⟩ := hrel
    have HI : Hid (NeedTo h k) := hinv
    clear hinv d0 d1 d2 d3 d4 d5
    by_cases hp : k < h.bs.length
    · obtain ⟨b, o, ha3, hS, hb⟩ := hpos (by omega)
      subst ha3
      have hB01 := up_trans hB0 hB
      obtain ⟨p, q, c, g, r, d, ⟨e0, e1, e2, e3, e4, e5⟩, hv⟩ := ((hS.at hp).up hB01 hb).open
      have NO : Hid (¬ (shOf h.sh (h.bs[k]).nm).needs = rbThings h.bs[k] (h.bs[k]).ad → pB (NeedTo h h.bs.length) = false) := fun hn => pB_no fun t => hn (t k _ hp (List.getElem?_eq_getElem hp))
      have YES : Hid ((shOf h.sh (h.bs[k]).nm).needs = rbThings h.bs[k] (h.bs[k]).ad → NeedTo h (k + 1)) := fun hy => to_step (P := fun _ (b : Rb) => (shOf h.sh b.nm).needs = rbThings b b.ad) HI.out hp hy
      have Hmem : Hid ((h.bs[k]).nm ∈ nms h.sh.bs) := HM.out.2.2.2 _ (List.mem_map.2 ⟨h.bs[k], by simp, rfl⟩)
      generalize h.bs[k] = x0 at *
      clear hS
      have hB1 := hB.alloc hB.size (.cells #[.string x0.nm, .slice (some ⟨p, q, none⟩) x0.ps.length c, .slice (some ⟨g, r, none⟩) x0.sl.length d, .string x0.ad, .int .i64 x0.si, .int .i64 x0.st] 32)
      have hX : CB (wr.alloc (.cells #[.string x0.nm, .slice (some ⟨p, q, none⟩) x0.ps.length c, .slice (some ⟨g, r, none⟩) x0.sl.length d, .string x0.ad, .int .i64 x0.si, .int .i64 x0.st] 32)) wr.heap.size [.string x0.nm, .slice (some ⟨p, q, none⟩) x0.ps.length c, .slice (some ⟨g, r, none⟩) x0.sl.length d, .string x0.ad, .int .i64 x0.si, .int .i64 x0.st] := cb_alloc wr _ _
      have hv2 := hv.up ((Below.refl wr.heap.size wr).alloc (Nat.le_refl _) (.cells #[.string x0.nm, .slice (some ⟨p, q, none⟩) x0.ps.length c, .slice (some ⟨g, r, none⟩) x0.sl.length d, .string x0.ad, .int .i64 x0.si, .int .i64 x0.st] 32))
      go_upto_region 4 with fail
      generalize wr.alloc (.cells #[.string x0.nm, .slice (some ⟨p, q, none⟩) x0.ps.length c, .slice (some ⟨g, r, none⟩) x0.sl.length d, .string x0.ad, .int .i64 x0.si, .int .i64 x0.st] 32) = W2 at *
      obtain ⟨f0, f1, f2, f3, f4, f5⟩ := hX.c6
      obtain ⟨d0, d1, d2, d3, d4, d5⟩ := (hC.up hB1 hlt).c6
      have hXlt := hX.2.2
      have hqlt : w.heap.size < W2.heap.size := Nat.lt_of_lt_of_le hlt hB1.size
      have hB02 := up_trans hB0 hB1
      have hS0 : Below W2.heap.size W2 W2 ∧ W2.cell? ⟨w.heap.size, 0, none⟩ = some (.int .i64 h.now) ∧ W2.cell? ⟨w.heap.size, 1, none⟩ = some (.int .i64 h.last) ∧ W2.cell? ⟨w.heap.size, 2, none⟩ = some (.slice a1 h.sh.things.length c1) ∧ W2.cell? ⟨w.heap.size, 3, none⟩ = some (.slice a2 h.sh.bs.length c2) ∧ W2.cell? ⟨w.heap.size, 4, none⟩ = some (.slice (some ⟨b, o, none⟩) h.bs.length c3) ∧ W2.cell? ⟨w.heap.size, 5, none⟩ = some (.slice a4 h.ds.length c4) ∧ W2.cell? ⟨wr.heap.size, 0, none⟩ = some (.string x0.nm) ∧ W2.cell? ⟨wr.heap.size, 1, none⟩ = some (.slice (some ⟨p, q, none⟩) x0.ps.length c) ∧ W2.cell? ⟨wr.heap.size, 2, none⟩ = some (.slice (some ⟨g, r, none⟩) x0.sl.length d) ∧ W2.cell? ⟨wr.heap.size, 3, none⟩ = some (.string x0.ad) ∧ W2.cell? ⟨wr.heap.size, 4, none⟩ = some (.int .i64 x0.si) ∧ W2.cell? ⟨wr.heap.size, 5, none⟩ = some (.int .i64 x0.st) := ⟨Below.refl _ _, d0, d1, d2, d3, d4, d5, f0, f1, f2, f3, f4, f5⟩
      have HSH : Hid (∀ W, Below w.heap.size w W → Calls Tryz.prog 99 #[.agg #[.int .i64 h.now, .int .i64 h.last, .slice a1 h.sh.things.length c1, .slice a2 h.sh.bs.length c2, .slice (some ⟨b, o, none⟩) h.bs.length c3, .slice a4 h.ds.length c4], .agg #[.string x0.nm, .slice (some ⟨p, q, none⟩) x0.ps.length c, .slice (some ⟨g, r, none⟩) x0.sl.length d, .string x0.ad, .int .i64 x0.si, .int .i64 x0.st]] W fun e w' => (∃ b1 k1 b2 k2, e = .returned (.agg #[.string (shOf h.sh x0.nm).nm, .slice b1 (shOf h.sh x0.nm).has.length k1, .slice b2 (shOf h.sh x0.nm).needs.length k2]) ∧ Ls w' (.slice b1 (shOf h.sh x0.nm).has.length k1) (shOf h.sh x0.nm).has ∧ Ls w' (.slice b2 (shOf h.sh x0.nm).needs.length k2) (shOf h.sh x0.nm).needs) ∧ Below W.heap.size W w') := fun W hW => sharedP_any h x0 a1 a2 (some ⟨b, o, none⟩) a4 c1 c2 c3 c4 p q c g r d W (HK.up hW) HM.out.1 Hmem.out
      clear e0 e1 e2 e3 e4 e5 hv d0 d1 d2 d3 d4 d5 f0 f1 f2 f3 f4 f5
      have Hsz : Hid (∀ s ∈ rbThings x0 x0.ad, s.size ≤ maxLen) := rbThings_sized hv2 x0.ad
      have Hv : Hid (RbV W2 x0 (.slice (some ⟨p, q, none⟩) x0.ps.length c) (.slice (some ⟨g, r, none⟩) x0.sl.length d)) := hv2
      clear hv2
      generalize hy : shOf h.sh x0.nm = y at *
      go_wp2_with fail
      go_region_held (fun w' => Below W2.heap.size W2 w' ∧ w'.cell? ⟨w.heap.size, 0, none⟩ = some (.int .i64 h.now) ∧ w'.cell? ⟨w.heap.size, 1, none⟩ = some (.int .i64 h.last) ∧ w'.cell? ⟨w.heap.size, 2, none⟩ = some (.slice a1 h.sh.things.length c1) ∧ w'.cell? ⟨w.heap.size, 3, none⟩ = some (.slice a2 h.sh.bs.length c2) ∧ w'.cell? ⟨w.heap.size, 4, none⟩ = some (.slice (some ⟨b, o, none⟩) h.bs.length c3) ∧ w'.cell? ⟨w.heap.size, 5, none⟩ = some (.slice a4 h.ds.length c4) ∧ w'.cell? ⟨wr.heap.size, 0, none⟩ = some (.string x0.nm) ∧ w'.cell? ⟨wr.heap.size, 1, none⟩ = some (.slice (some ⟨p, q, none⟩) x0.ps.length c) ∧ w'.cell? ⟨wr.heap.size, 2, none⟩ = some (.slice (some ⟨g, r, none⟩) x0.sl.length d) ∧ w'.cell? ⟨wr.heap.size, 3, none⟩ = some (.string x0.ad) ∧ w'.cell? ⟨wr.heap.size, 4, none⟩ = some (.int .i64 x0.si) ∧ w'.cell? ⟨wr.heap.size, 5, none⟩ = some (.int .i64 x0.st)) (first | exact m12_drew hS0 | exact m12_up hqlt hXlt (by assumption) (by assumption))
        (first
          | (go_at_call 99; refine (HSH.out _ hB02.drew).mono ?_; rintro e w3 ⟨⟨s1, k1, s2, k2, rfl, -, hL3⟩, hb3⟩; have hB3 := up_trans hB02.drew hb3; have hv3 := (Hv.out.up (Below.refl _ _).drew).up hb3)
          | (go_at_call 100; refine (thingsP_any x0 _ _ x0.ad _ (HE.out.up hB3) hv3).mono ?_; rintro e w4 ⟨⟨u4, rfl, hO4⟩, hb4⟩; have hL4 := hL3.up hb4)
          | (go_at_call 98; refine (equalS_any _ _ _ _ _ hL4 (hO4.lst.ls Hsz.out)).mono ?_; rintro e w5 ⟨rfl, hb5⟩))
      rename_i hHeld
      have hB5 := up_trans hB1 hHeld.1
      have hB05 := up_trans hB0 hB5
      clear hHeld hS0 hL3 hL4 hO4 hb3 hb4 hb5 hv3 hB3
      cases hq : pB (y.needs = rbThings x0 x0.ad)
      · have HN : Hid (pB (NeedTo h h.bs.length) = false) := NO.out (pB_not.1 hq)
        go_wp2_with fail
        go_ret
        exact ⟨ret_bool HN.out.symm, hB05⟩
      · have HY : Hid (NeedTo h (k + 1)) := YES.out (pB_iff.1 hq)
        go_wp2_with fail
        go_roundw
        case rel => exact ⟨k + 1, by omega, by go_num, HY.out, hB5⟩
        case measure => simp [intOf]; omega
    · have HY : Hid (pB (NeedTo h h.bs.length) = true) := pB_yes (by
        have := HI.out
        rwa [show k = h.bs.length by omega] at this)
      go_wp2_with fail
      go_ret
      exact ⟨ret_bool HY.out.symm, up_trans hB0 hB⟩
end Go.Proofs.YtialglmnfchfmafGreatDoor

/- The program's check of what batches have (chapter 22). -/
namespace Go.Proofs.YtialglmnfchfmafGreatDoor
open Go.RowKit

set_option maxRecDepth 20000 in
set_option maxHeartbeats 4000000 in
theorem haveP_any (h : House) (tv bv xv dv : Value) (w : World) (hE : Ends w) (H : HV w h tv bv xv dv) (hok : BookOk h.sh) (hN : NamesOk h) (hBt : BatsOk h) :
    Calls Tryz.prog 57 #[.agg #[.int .i64 h.now, .int .i64 h.last, tv, bv, xv, dv]] w fun e w' => e = .returned (.bool (pB (HaveTo h h.bs.length))) ∧ Below w.heap.size w w' := by
  obtain ⟨a1, c1, a2, c2, a3, c3, a4, c4, rfl, rfl, rfl, rfl⟩ := H.shapes
  obtain ⟨hmax, hpos⟩ := H.x.inv rfl
  unfold maxLen at hmax
  have HK := H.book
  clear H
  have HE : Hid (Ends w) := hE
  have HM : Hid (BookOk h.sh ∧ NamesOk h) := ⟨hok, hN⟩
  have HBt : Hid (BatsOk h) := hBt
  clear hE hok hN hBt
  have hfd := run_fieldH
  have hB0 := (Below.refl w.heap.size w).alloc (Nat.le_refl _) (.cells #[.int .i64 h.now, .int .i64 h.last, .slice a1 h.sh.things.length c1, .slice a2 h.sh.bs.length c2, .slice a3 h.bs.length c3, .slice a4 h.ds.length c4] 54)
  have hC : CB (w.alloc (.cells #[.int .i64 h.now, .int .i64 h.last, .slice a1 h.sh.things.length c1, .slice a2 h.sh.bs.length c2, .slice a3 h.bs.length c3, .slice a4 h.ds.length c4] 54)) w.heap.size [.int .i64 h.now, .int .i64 h.last, .slice a1 h.sh.things.length c1, .slice a2 h.sh.bs.length c2, .slice a3 h.bs.length c3, .slice a4 h.ds.length c4] := cb_alloc w _ _
  go_enter Tryz.func57, Tryz.ntmps57
  go_upto_region 1 with fail
  generalize w.alloc (.cells #[.int .i64 h.now, .int .i64 h.last, .slice a1 h.sh.things.length c1, .slice a2 h.sh.bs.length c2, .slice a3 h.bs.length c3, .slice a4 h.ds.length c4] 54) = W1 at *
  have hlt := hC.2.2
  obtain ⟨d0, d1, d2, d3, d4, d5⟩ := hC.c6
  go_wp2_with fail
  go_loopw [4, 5, 6, 10] (fun _ _ _ i w' => ∃ k : Nat, k ≤ h.bs.length ∧ i = .int .i64 k ∧ HaveTo h k ∧ Below W1.heap.size W1 w') (fun _ _ _ i _ => h.bs.length - (intOf i).toNat)
  case atStart => exact ⟨0, by omega, rfl, fun i b hi => by omega, Below.refl _ _⟩
  case round =>
    obtain ⟨k, hk, rfl, hinv, hB⟩ := hrel
    have HI : Hid (HaveTo h k) := hinv
    clear hinv d0 d1 d2 d3 d4 d5
    by_cases hp : k < h.bs.length
    · obtain ⟨b, o, ha3, hS, hb⟩ := hpos (by omega)
      subst ha3
      have hB01 := up_trans hB0 hB
      obtain ⟨p, q, c, g, r, d, ⟨e0, e1, e2, e3, e4, e5⟩, hv⟩ := ((hS.at hp).up hB01 hb).open
      have NO : Hid (¬ (0 ≤ (h.bs[k]).si → Part (rbOwn h.bs[k]) (shOf h.sh (h.bs[k]).nm).has) → pB (HaveTo h h.bs.length) = false) := fun hn => pB_no fun t => hn (t k _ hp (List.getElem?_eq_getElem hp))
      have YES : Hid ((0 ≤ (h.bs[k]).si → Part (rbOwn h.bs[k]) (shOf h.sh (h.bs[k]).nm).has) → HaveTo h (k + 1)) := fun hy => to_step (P := fun _ (b : Rb) => 0 ≤ b.si → Part (rbOwn b) (shOf h.sh b.nm).has) HI.out hp hy
      have Hsi : Hid (-1 ≤ (h.bs[k]).si) := (HBt.out k _ hp (List.getElem?_eq_getElem hp)).1.2.2.2.2.2.1
      have Hmem : Hid ((h.bs[k]).nm ∈ nms h.sh.bs) := HM.out.2.2.2 _ (List.mem_map.2 ⟨h.bs[k], by simp, rfl⟩)
      generalize h.bs[k] = x0 at *
      clear hS
      have hB1 := hB.alloc hB.size (.cells #[.string x0.nm, .slice (some ⟨p, q, none⟩) x0.ps.length c, .slice (some ⟨g, r, none⟩) x0.sl.length d, .string x0.ad, .int .i64 x0.si, .int .i64 x0.st] 32)
      have hX : CB (wr.alloc (.cells #[.string x0.nm, .slice (some ⟨p, q, none⟩) x0.ps.length c, .slice (some ⟨g, r, none⟩) x0.sl.length d, .string x0.ad, .int .i64 x0.si, .int .i64 x0.st] 32)) wr.heap.size [.string x0.nm, .slice (some ⟨p, q, none⟩) x0.ps.length c, .slice (some ⟨g, r, none⟩) x0.sl.length d, .string x0.ad, .int .i64 x0.si, .int .i64 x0.st] := cb_alloc wr _ _
      have hv2 := hv.up ((Below.refl wr.heap.size wr).alloc (Nat.le_refl _) (.cells #[.string x0.nm, .slice (some ⟨p, q, none⟩) x0.ps.length c, .slice (some ⟨g, r, none⟩) x0.sl.length d, .string x0.ad, .int .i64 x0.si, .int .i64 x0.st] 32))
      go_upto_region 4 with fail
      generalize wr.alloc (.cells #[.string x0.nm, .slice (some ⟨p, q, none⟩) x0.ps.length c, .slice (some ⟨g, r, none⟩) x0.sl.length d, .string x0.ad, .int .i64 x0.si, .int .i64 x0.st] 32) = W2 at *
      obtain ⟨f0, f1, f2, f3, f4, f5⟩ := hX.c6
      obtain ⟨d0, d1, d2, d3, d4, d5⟩ := (hC.up hB1 hlt).c6
      have hXlt := hX.2.2
      have hqlt : w.heap.size < W2.heap.size := Nat.lt_of_lt_of_le hlt hB1.size
      have hB02 := up_trans hB0 hB1
      have hS0 : Below W2.heap.size W2 W2 ∧ W2.cell? ⟨w.heap.size, 0, none⟩ = some (.int .i64 h.now) ∧ W2.cell? ⟨w.heap.size, 1, none⟩ = some (.int .i64 h.last) ∧ W2.cell? ⟨w.heap.size, 2, none⟩ = some (.slice a1 h.sh.things.length c1) ∧ W2.cell? ⟨w.heap.size, 3, none⟩ = some (.slice a2 h.sh.bs.length c2) ∧ W2.cell? ⟨w.heap.size, 4, none⟩ = some (.slice (some ⟨b, o, none⟩) h.bs.length c3) ∧ W2.cell? ⟨w.heap.size, 5, none⟩ = some (.slice a4 h.ds.length c4) ∧ W2.cell? ⟨wr.heap.size, 0, none⟩ = some (.string x0.nm) ∧ W2.cell? ⟨wr.heap.size, 1, none⟩ = some (.slice (some ⟨p, q, none⟩) x0.ps.length c) ∧ W2.cell? ⟨wr.heap.size, 2, none⟩ = some (.slice (some ⟨g, r, none⟩) x0.sl.length d) ∧ W2.cell? ⟨wr.heap.size, 3, none⟩ = some (.string x0.ad) ∧ W2.cell? ⟨wr.heap.size, 4, none⟩ = some (.int .i64 x0.si) ∧ W2.cell? ⟨wr.heap.size, 5, none⟩ = some (.int .i64 x0.st) := ⟨Below.refl _ _, d0, d1, d2, d3, d4, d5, f0, f1, f2, f3, f4, f5⟩
      have HSH : Hid (∀ W, Below w.heap.size w W → Calls Tryz.prog 99 #[.agg #[.int .i64 h.now, .int .i64 h.last, .slice a1 h.sh.things.length c1, .slice a2 h.sh.bs.length c2, .slice (some ⟨b, o, none⟩) h.bs.length c3, .slice a4 h.ds.length c4], .agg #[.string x0.nm, .slice (some ⟨p, q, none⟩) x0.ps.length c, .slice (some ⟨g, r, none⟩) x0.sl.length d, .string x0.ad, .int .i64 x0.si, .int .i64 x0.st]] W fun e w' => (∃ b1 k1 b2 k2, e = .returned (.agg #[.string (shOf h.sh x0.nm).nm, .slice b1 (shOf h.sh x0.nm).has.length k1, .slice b2 (shOf h.sh x0.nm).needs.length k2]) ∧ Ls w' (.slice b1 (shOf h.sh x0.nm).has.length k1) (shOf h.sh x0.nm).has ∧ Ls w' (.slice b2 (shOf h.sh x0.nm).needs.length k2) (shOf h.sh x0.nm).needs) ∧ Below W.heap.size W w') := fun W hW => sharedP_any h x0 a1 a2 (some ⟨b, o, none⟩) a4 c1 c2 c3 c4 p q c g r d W (HK.up hW) HM.out.1 Hmem.out
      clear e0 e1 e2 e3 e4 e5 hv d0 d1 d2 d3 d4 d5 f0 f1 f2 f3 f4 f5
      have Hsz : Hid (∀ s ∈ rbOwn x0, s.size ≤ maxLen) := rbOwn_sized hv2
      have Hv : Hid (RbV W2 x0 (.slice (some ⟨p, q, none⟩) x0.ps.length c) (.slice (some ⟨g, r, none⟩) x0.sl.length d)) := hv2
      clear hv2
      generalize hy : shOf h.sh x0.nm = y at *
      by_cases hsi : x0.si = -1
      · have HY : Hid (HaveTo h (k + 1)) := YES.out fun h0 => by omega
        have hS1 : Below W2.heap.size W2 W2 ∧ W2.cell? ⟨w.heap.size, 0, none⟩ = some (.int .i64 h.now) ∧ W2.cell? ⟨w.heap.size, 1, none⟩ = some (.int .i64 h.last) ∧ W2.cell? ⟨w.heap.size, 2, none⟩ = some (.slice a1 h.sh.things.length c1) ∧ W2.cell? ⟨w.heap.size, 3, none⟩ = some (.slice a2 h.sh.bs.length c2) ∧ W2.cell? ⟨w.heap.size, 4, none⟩ = some (.slice (some ⟨b, o, none⟩) h.bs.length c3) ∧ W2.cell? ⟨w.heap.size, 5, none⟩ = some (.slice a4 h.ds.length c4) ∧ W2.cell? ⟨wr.heap.size, 0, none⟩ = some (.string x0.nm) ∧ W2.cell? ⟨wr.heap.size, 1, none⟩ = some (.slice (some ⟨p, q, none⟩) x0.ps.length c) ∧ W2.cell? ⟨wr.heap.size, 2, none⟩ = some (.slice (some ⟨g, r, none⟩) x0.sl.length d) ∧ W2.cell? ⟨wr.heap.size, 3, none⟩ = some (.string x0.ad) ∧ W2.cell? ⟨wr.heap.size, 4, none⟩ = some (.int .i64 (-1)) ∧ W2.cell? ⟨wr.heap.size, 5, none⟩ = some (.int .i64 x0.st) := by rw [← hsi]; exact hS0
        obtain ⟨-, -, -, -, -, -, -, f0, f1, f2, f3, f4, f5⟩ := hS1
        have Hs1 : Hid (x0.si = -1) := hsi
        clear hsi hS0
        go_upto_region 5 with (go_at_call 101; refine (going_wait _ _ _ _ _ _ _ _ _ _).mono ?_; rintro e w3 ⟨rfl, hb3⟩)
        have hB3 := up_trans hB1 hb3
        clear f0 f1 f2 f3 f4 f5
        go_wp2_with fail
        go_quiet (fail)
        go_wp2_with fail
        go_roundw
        case rel => exact ⟨k + 1, by omega, by go_num, HY.out, below_drewN hB3 _⟩
        case measure => simp [intOf]; omega
      · have H0 : Hid (0 ≤ x0.si) := by have := Hsi.out; show _ ≤ _; omega
        have Hs1 : Hid (¬ x0.si = -1) := hsi
        obtain ⟨-, -, -, -, -, -, -, f0, f1, f2, f3, f4, f5⟩ := id hS0
        clear hsi
        go_upto_region 5 with (go_at_call 101; refine (going_go _ _ _ _ _ _ _ _ _ _ _ Hs1.out).mono ?_; rintro e w3 ⟨rfl, hb3⟩)
        have hS3 := m12_up hqlt hXlt hS0 hb3
        have hv3 := Hv.out.up hb3
        have hB03 := up_trans hB02 hb3
        clear f0 f1 f2 f3 f4 f5 hS0
        have hS4 : Below w3.heap.size w3 w3 ∧ w3.cell? ⟨w.heap.size, 0, none⟩ = some (.int .i64 h.now) ∧ w3.cell? ⟨w.heap.size, 1, none⟩ = some (.int .i64 h.last) ∧ w3.cell? ⟨w.heap.size, 2, none⟩ = some (.slice a1 h.sh.things.length c1) ∧ w3.cell? ⟨w.heap.size, 3, none⟩ = some (.slice a2 h.sh.bs.length c2) ∧ w3.cell? ⟨w.heap.size, 4, none⟩ = some (.slice (some ⟨b, o, none⟩) h.bs.length c3) ∧ w3.cell? ⟨w.heap.size, 5, none⟩ = some (.slice a4 h.ds.length c4) ∧ w3.cell? ⟨wr.heap.size, 0, none⟩ = some (.string x0.nm) ∧ w3.cell? ⟨wr.heap.size, 1, none⟩ = some (.slice (some ⟨p, q, none⟩) x0.ps.length c) ∧ w3.cell? ⟨wr.heap.size, 2, none⟩ = some (.slice (some ⟨g, r, none⟩) x0.sl.length d) ∧ w3.cell? ⟨wr.heap.size, 3, none⟩ = some (.string x0.ad) ∧ w3.cell? ⟨wr.heap.size, 4, none⟩ = some (.int .i64 x0.si) ∧ w3.cell? ⟨wr.heap.size, 5, none⟩ = some (.int .i64 x0.st) := ⟨Below.refl _ _, hS3.2⟩
        have hq3 : w.heap.size < w3.heap.size := Nat.lt_of_lt_of_le hqlt hb3.size
        have hr3 : wr.heap.size < w3.heap.size := Nat.lt_of_lt_of_le hXlt hb3.size
        have hB13 := up_trans hB1 hb3
        clear hS3
        go_wp2_with fail
        go_region_held (fun w' => Below w3.heap.size w3 w' ∧ w'.cell? ⟨w.heap.size, 0, none⟩ = some (.int .i64 h.now) ∧ w'.cell? ⟨w.heap.size, 1, none⟩ = some (.int .i64 h.last) ∧ w'.cell? ⟨w.heap.size, 2, none⟩ = some (.slice a1 h.sh.things.length c1) ∧ w'.cell? ⟨w.heap.size, 3, none⟩ = some (.slice a2 h.sh.bs.length c2) ∧ w'.cell? ⟨w.heap.size, 4, none⟩ = some (.slice (some ⟨b, o, none⟩) h.bs.length c3) ∧ w'.cell? ⟨w.heap.size, 5, none⟩ = some (.slice a4 h.ds.length c4) ∧ w'.cell? ⟨wr.heap.size, 0, none⟩ = some (.string x0.nm) ∧ w'.cell? ⟨wr.heap.size, 1, none⟩ = some (.slice (some ⟨p, q, none⟩) x0.ps.length c) ∧ w'.cell? ⟨wr.heap.size, 2, none⟩ = some (.slice (some ⟨g, r, none⟩) x0.sl.length d) ∧ w'.cell? ⟨wr.heap.size, 3, none⟩ = some (.string x0.ad) ∧ w'.cell? ⟨wr.heap.size, 4, none⟩ = some (.int .i64 x0.si) ∧ w'.cell? ⟨wr.heap.size, 5, none⟩ = some (.int .i64 x0.st)) (first | exact m12_drew hS4 | exact m12_up hq3 hr3 (by assumption) (by assumption))
          (first
            | (go_at_call 9; refine (ownP_any x0 _ _ _ (HE.out.up hB03.drew) (hv3.up (Below.refl _ _).drew)).mono ?_; rintro e w4 ⟨⟨u4, rfl, hO4⟩, hb4⟩; have hB04 := up_trans hB03.drew hb4)
            | (go_at_call 99; refine (HSH.out _ hB04).mono ?_; rintro e w5 ⟨⟨s1, k1, s2, k2, rfl, hL5, -⟩, hb5⟩; have hO5 := hO4.up hb5)
            | (go_at_call 102; refine (partOf_any _ _ _ _ _ (hO5.lst.ls Hsz.out) hL5).mono ?_; rintro e w6 ⟨rfl, hb6⟩))
        rename_i hHeld
        have hB6 := up_trans hB13 hHeld.1
        have hB06 := up_trans hB0 hB6
        clear hHeld hS4 hL5 hO4 hO5 hb4 hb5 hb6 hB04
        cases hq : pB (PartOk (rbOwn x0) y.has)
        · have HN : Hid (pB (HaveTo h h.bs.length) = false) := NO.out fun t => pB_not.1 hq ⟨t H0.out, rbOwn_asc x0⟩
          go_wp2_with fail
          go_ret
          exact ⟨ret_bool HN.out.symm, hB06⟩
        · have HY : Hid (HaveTo h (k + 1)) := YES.out fun _ => (pB_iff.1 hq).1
          go_wp2_with fail
          go_roundw
          case rel => exact ⟨k + 1, by omega, by go_num, HY.out, hB6⟩
          case measure => simp [intOf]; omega
    · have HY : Hid (pB (HaveTo h h.bs.length) = true) := pB_yes (by
        have := HI.out
        rwa [show k = h.bs.length by omega] at this)
      go_wp2_with fail
      go_ret
      exact ⟨ret_bool HY.out.symm, up_trans hB0 hB⟩
end Go.Proofs.YtialglmnfchfmafGreatDoor
