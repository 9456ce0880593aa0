/- The program's checks of what batches need, and have (chapter 22). -/
import Derived.Test.YtlkpgiifdclijaaGreatDoorJ29
namespace Go.Proofs.YtlkpgiifdclijaaGreatDoor
open Go.RowKit

set_option maxRecDepth 20000 in
set_option maxHeartbeats 4000000 in
theorem needsP_any (h : House) (tv bv xv dv : Value) (w : World) (hE : Ends w) (H : HV w h tv bv xv dv) (hok : BookOk h.sh) (hN : NamesOk h) :
    Calls Tryz.prog 29 #[.agg #[.int .i64 h.now, .int .i64 h.last, tv, bv, xv, dv]] w fun e w' => e = .returned (.bool (pB (NeedTo h h.bs.length))) ∧ Below w.heap.size w w' := by
  obtain ⟨a1, c1, a2, c2, a3, c3, a4, c4, rfl, rfl, rfl, rfl⟩ := H.shapes
  obtain ⟨hmax, hpos⟩ := H.x.inv rfl
  unfold maxLen at hmax
  have HK := H.book
  clear H
  have HE : Hid (Ends w) := hE
  have HM : Hid (BookOk h.sh ∧ NamesOk h) := ⟨hok, hN⟩
  clear hE hok hN
  have hfd := run_fieldN
  have hB0 := (Below.refl w.heap.size w).alloc (Nat.le_refl _) (.cells #[.int .i64 h.now, .int .i64 h.last, .slice a1 h.sh.things.length c1, .slice a2 h.sh.bs.length c2, .slice a3 h.bs.length c3, .slice a4 h.ds.length c4] 38)
  have hC : CB (w.alloc (.cells #[.int .i64 h.now, .int .i64 h.last, .slice a1 h.sh.things.length c1, .slice a2 h.sh.bs.length c2, .slice a3 h.bs.length c3, .slice a4 h.ds.length c4] 38)) w.heap.size [.int .i64 h.now, .int .i64 h.last, .slice a1 h.sh.things.length c1, .slice a2 h.sh.bs.length c2, .slice a3 h.bs.length c3, .slice a4 h.ds.length c4] := cb_alloc w _ _
  go_enter Tryz.func29, Tryz.ntmps29
  go_upto_region 1 with fail
  generalize w.alloc (.cells #[.int .i64 h.now, .int .i64 h.last, .slice a1 h.sh.things.length c1, .slice a2 h.sh.bs.length c2, .slice a3 h.bs.length c3, .slice a4 h.ds.length c4] 38) = W1 at *
  have hlt := hC.2.2
  obtain ⟨d0, d1, d2, d3, d4, d5⟩ := hC.c6
  go_wp2_with fail
  go_loopw [4, 8] (fun _ i w' => ∃ k : Nat, k ≤ h.bs.length ∧ i = .int .i64 k ∧ NeedTo h k ∧ Below W1.heap.size W1 w') (fun _ i _ => h.bs.length - (intOf i).toNat)
  case atStart => exact ⟨0, by omega, rfl, fun i b hi => by omega, Below.refl _ _⟩
  case round =>
    obtain ⟨k, hk, rfl, hinv, hB⟩ := hrel
    have HI : Hid (NeedTo h k) := hinv
    clear hinv d0 d1 d2 d3 d4 d5
    by_cases hp : k < h.bs.length
    · obtain ⟨b, o, ha3, hS, hb⟩ := hpos (by omega)
      subst ha3
      have hB01 := up_trans hB0 hB
      obtain ⟨p, q, c, g, r, d, ⟨e0, e1, e2, e3, e4, e5⟩, hv⟩ := ((hS.at hp).up hB01 hb).open
      have NO : Hid (¬ (shOf h.sh (h.bs[k]).nm).needs = rbThings h.bs[k] (h.bs[k]).ad → pB (NeedTo h h.bs.length) = false) := fun hn => pB_no fun t => hn (t k _ hp (List.getElem?_eq_getElem hp))
      have YES : Hid ((shOf h.sh (h.bs[k]).nm).needs = rbThings h.bs[k] (h.bs[k]).ad → NeedTo h (k + 1)) := fun hy => to_step (P := fun _ (b : Rb) => (shOf h.sh b.nm).needs = rbThings b b.ad) HI.out hp hy
      have Hmem : Hid ((h.bs[k]).nm ∈ nms h.sh.bs) := HM.out.2.2.2 _ (List.mem_map.2 ⟨h.bs[k], by simp, rfl⟩)
      generalize h.bs[k] = x0 at *
      clear hS
      have hB1 := hB.alloc hB.size (.cells #[.string x0.nm, .slice (some ⟨p, q, none⟩) x0.ps.length c, .slice (some ⟨g, r, none⟩) x0.sl.length d, .string x0.ad, .int .i64 x0.si, .int .i64 x0.st] 51)
      have hX : CB (wr.alloc (.cells #[.string x0.nm, .slice (some ⟨p, q, none⟩) x0.ps.length c, .slice (some ⟨g, r, none⟩) x0.sl.length d, .string x0.ad, .int .i64 x0.si, .int .i64 x0.st] 51)) wr.heap.size [.string x0.nm, .slice (some ⟨p, q, none⟩) x0.ps.length c, .slice (some ⟨g, r, none⟩) x0.sl.length d, .string x0.ad, .int .i64 x0.si, .int .i64 x0.st] := cb_alloc wr _ _
      have hv2 := hv.up ((Below.refl wr.heap.size wr).alloc (Nat.le_refl _) (.cells #[.string x0.nm, .slice (some ⟨p, q, none⟩) x0.ps.length c, .slice (some ⟨g, r, none⟩) x0.sl.length d, .string x0.ad, .int .i64 x0.si, .int .i64 x0.st] 51))
      go_upto_region 4 with fail
      generalize wr.alloc (.cells #[.string x0.nm, .slice (some ⟨p, q, none⟩) x0.ps.length c, .slice (some ⟨g, r, none⟩) x0.sl.length d, .string x0.ad, .int .i64 x0.si, .int .i64 x0.st] 51) = W2 at *
      obtain ⟨f0, f1, f2, f3, f4, f5⟩ := hX.c6
      obtain ⟨d0, d1, d2, d3, d4, d5⟩ := (hC.up hB1 hlt).c6
      have hXlt := hX.2.2
      have hqlt : w.heap.size < W2.heap.size := Nat.lt_of_lt_of_le hlt hB1.size
      have hB02 := up_trans hB0 hB1
      have hS0 : Below W2.heap.size W2 W2 ∧ W2.cell? ⟨w.heap.size, 0, none⟩ = some (.int .i64 h.now) ∧ W2.cell? ⟨w.heap.size, 1, none⟩ = some (.int .i64 h.last) ∧ W2.cell? ⟨w.heap.size, 2, none⟩ = some (.slice a1 h.sh.things.length c1) ∧ W2.cell? ⟨w.heap.size, 3, none⟩ = some (.slice a2 h.sh.bs.length c2) ∧ W2.cell? ⟨w.heap.size, 4, none⟩ = some (.slice (some ⟨b, o, none⟩) h.bs.length c3) ∧ W2.cell? ⟨w.heap.size, 5, none⟩ = some (.slice a4 h.ds.length c4) ∧ W2.cell? ⟨wr.heap.size, 0, none⟩ = some (.string x0.nm) ∧ W2.cell? ⟨wr.heap.size, 1, none⟩ = some (.slice (some ⟨p, q, none⟩) x0.ps.length c) ∧ W2.cell? ⟨wr.heap.size, 2, none⟩ = some (.slice (some ⟨g, r, none⟩) x0.sl.length d) ∧ W2.cell? ⟨wr.heap.size, 3, none⟩ = some (.string x0.ad) ∧ W2.cell? ⟨wr.heap.size, 4, none⟩ = some (.int .i64 x0.si) ∧ W2.cell? ⟨wr.heap.size, 5, none⟩ = some (.int .i64 x0.st) := ⟨Below.refl _ _, d0, d1, d2, d3, d4, d5, f0, f1, f2, f3, f4, f5⟩
      have HSH : Hid (∀ W, Below w.heap.size w W → Calls Tryz.prog 63 #[.agg #[.int .i64 h.now, .int .i64 h.last, .slice a1 h.sh.things.length c1, .slice a2 h.sh.bs.length c2, .slice (some ⟨b, o, none⟩) h.bs.length c3, .slice a4 h.ds.length c4], .agg #[.string x0.nm, .slice (some ⟨p, q, none⟩) x0.ps.length c, .slice (some ⟨g, r, none⟩) x0.sl.length d, .string x0.ad, .int .i64 x0.si, .int .i64 x0.st]] W fun e w' => (∃ b1 k1 b2 k2, e = .returned (.agg #[.string (shOf h.sh x0.nm).nm, .slice b1 (shOf h.sh x0.nm).has.length k1, .slice b2 (shOf h.sh x0.nm).needs.length k2]) ∧ Ls w' (.slice b1 (shOf h.sh x0.nm).has.length k1) (shOf h.sh x0.nm).has ∧ Ls w' (.slice b2 (shOf h.sh x0.nm).needs.length k2) (shOf h.sh x0.nm).needs) ∧ Below W.heap.size W w') := fun W hW => sharedP_any h x0 a1 a2 (some ⟨b, o, none⟩) a4 c1 c2 c3 c4 p q c g r d W (HK.up hW) HM.out.1 Hmem.out
      clear e0 e1 e2 e3 e4 e5 hv d0 d1 d2 d3 d4 d5 f0 f1 f2 f3 f4 f5
      have Hsz : Hid (∀ s ∈ rbThings x0 x0.ad, s.size ≤ maxLen) := rbThings_sized hv2 x0.ad
      have Hv : Hid (RbV W2 x0 (.slice (some ⟨p, q, none⟩) x0.ps.length c) (.slice (some ⟨g, r, none⟩) x0.sl.length d)) := hv2
      clear hv2
      generalize hy : shOf h.sh x0.nm = y at *
      go_wp2_with fail
      go_region_held (fun w' => Below W2.heap.size W2 w' ∧ w'.cell? ⟨w.heap.size, 0, none⟩ = some (.int .i64 h.now) ∧ w'.cell? ⟨w.heap.size, 1, none⟩ = some (.int .i64 h.last) ∧ w'.cell? ⟨w.heap.size, 2, none⟩ = some (.slice a1 h.sh.things.length c1) ∧ w'.cell? ⟨w.heap.size, 3, none⟩ = some (.slice a2 h.sh.bs.length c2) ∧ w'.cell? ⟨w.heap.size, 4, none⟩ = some (.slice (some ⟨b, o, none⟩) h.bs.length c3) ∧ w'.cell? ⟨w.heap.size, 5, none⟩ = some (.slice a4 h.ds.length c4) ∧ w'.cell? ⟨wr.heap.size, 0, none⟩ = some (.string x0.nm) ∧ w'.cell? ⟨wr.heap.size, 1, none⟩ = some (.slice (some ⟨p, q, none⟩) x0.ps.length c) ∧ w'.cell? ⟨wr.heap.size, 2, none⟩ = some (.slice (some ⟨g, r, none⟩) x0.sl.length d) ∧ w'.cell? ⟨wr.heap.size, 3, none⟩ = some (.string x0.ad) ∧ w'.cell? ⟨wr.heap.size, 4, none⟩ = some (.int .i64 x0.si) ∧ w'.cell? ⟨wr.heap.size, 5, none⟩ = some (.int .i64 x0.st)) (first | exact m12_drew hS0 | exact m12_up hqlt hXlt (by assumption) (by assumption))
        (first
          | (go_at_call 63; refine (HSH.out _ hB02.drew).mono ?_; rintro e w3 ⟨⟨s1, k1, s2, k2, rfl, -, hL3⟩, hb3⟩; have hB3 := up_trans hB02.drew hb3; have hv3 := (Hv.out.up (Below.refl _ _).drew).up hb3)
          | (go_at_call 64; refine (thingsP_any x0 _ _ x0.ad _ (HE.out.up hB3) hv3).mono ?_; rintro e w4 ⟨⟨u4, rfl, hO4⟩, hb4⟩; have hL4 := hL3.up hb4)
          | (go_at_call 62; refine (equalS_any _ _ _ _ _ hL4 (hO4.lst.ls Hsz.out)).mono ?_; rintro e w5 ⟨rfl, hb5⟩))
      rename_i hHeld
      have hB5 := up_trans hB1 hHeld.1
      have hB05 := up_trans hB0 hB5
      clear hHeld hS0 hL3 hL4 hO4 hb3 hb4 hb5 hv3 hB3
      cases hq : pB (y.needs = rbThings x0 x0.ad)
      · have HN : Hid (pB (NeedTo h h.bs.length) = false) := NO.out (pB_not.1 hq)
        go_wp2_with fail
        go_ret
        exact ⟨ret_bool HN.out.symm, hB05⟩
      · have HY : Hid (NeedTo h (k + 1)) := YES.out (pB_iff.1 hq)
        go_wp2_with fail
        go_roundw
        case rel => exact ⟨k + 1, by omega, by go_num, HY.out, hB5⟩
        case measure => simp [intOf]; omega
    · have HY : Hid (pB (NeedTo h h.bs.length) = true) := pB_yes (by
        have := HI.out
        rwa [show k = h.bs.length by omega] at this)
      go_wp2_with fail
      go_ret
      exact ⟨ret_bool HY.out.symm, up_trans hB0 hB⟩
end Go.Proofs.YtlkpgiifdclijaaGreatDoor

/- The program's check of what batches have (chapter 22). -/
namespace Go.Proofs.YtlkpgiifdclijaaGreatDoor
open Go.RowKit

set_option maxRecDepth 20000 in
set_option maxHeartbeats 4000000 in
theorem haveP_any (h : House) (tv bv xv dv : Value) (w : World) (hE : Ends w) (H : HV w h tv bv xv dv) (hok : BookOk h.sh) (hN : NamesOk h) (hBt : BatsOk h) :
    Calls Tryz.prog 30 #[.agg #[.int .i64 h.now, .int .i64 h.last, tv, bv, xv, dv]] w fun e w' => e = .returned (.bool (pB (HaveTo h h.bs.length))) ∧ Below w.heap.size w w' := by
  obtain ⟨a1, c1, a2, c2, a3, c3, a4, c4, rfl, rfl, rfl, rfl⟩ := H.shapes
  obtain ⟨hmax, hpos⟩ := H.x.inv rfl
  unfold maxLen at hmax
  have HK := H.book
  clear H
  have HE : Hid (Ends w) := hE
  have HM : Hid (BookOk h.sh ∧ NamesOk h) := ⟨hok, hN⟩
  have HBt : Hid (BatsOk h) := hBt
  clear hE hok hN hBt
  have hfd := run_fieldH
  have hB0 := (Below.refl w.heap.size w).alloc (Nat.le_refl _) (.cells #[.int .i64 h.now, .int .i64 h.last, .slice a1 h.sh.things.length c1, .slice a2 h.sh.bs.length c2, .slice a3 h.bs.length c3, .slice a4 h.ds.length c4] 38)
  have hC : CB (w.alloc (.cells #[.int .i64 h.now, .int .i64 h.last, .slice a1 h.sh.things.length c1, .slice a2 h.sh.bs.length c2, .slice a3 h.bs.length c3, .slice a4 h.ds.length c4] 38)) w.heap.size [.int .i64 h.now, .int .i64 h.last, .slice a1 h.sh.things.length c1, .slice a2 h.sh.bs.length c2, .slice a3 h.bs.length c3, .slice a4 h.ds.length c4] := cb_alloc w _ _
  go_enter Tryz.func30, Tryz.ntmps30
  go_upto_region 1 with fail
  generalize w.alloc (.cells #[.int .i64 h.now, .int .i64 h.last, .slice a1 h.sh.things.length c1, .slice a2 h.sh.bs.length c2, .slice a3 h.bs.length c3, .slice a4 h.ds.length c4] 38) = W1 at *
  have hlt := hC.2.2
  obtain ⟨d0, d1, d2, d3, d4, d5⟩ := hC.c6
  go_wp2_with fail
  go_loopw [4, 5, 6, 10] (fun _ _ _ i w' => ∃ k : Nat, k ≤ h.bs.length ∧ i = .int .i64 k ∧ HaveTo h k ∧ Below W1.heap.size W1 w') (fun _ _ _ i _ => h.bs.length - (intOf i).toNat)
  case atStart => exact ⟨0, by omega, rfl, fun i b hi => by omega, Below.refl _ _⟩
  case round =>
    obtain ⟨k, hk, rfl, hinv, hB⟩ := hrel
    have HI : Hid (HaveTo h k) := hinv
    clear hinv d0 d1 d2 d3 d4 d5
    by_cases hp : k < h.bs.length
    · obtain ⟨b, o, ha3, hS, hb⟩ := hpos (by omega)
      subst ha3
      have hB01 := up_trans hB0 hB
      obtain ⟨p, q, c, g, r, d, ⟨e0, e1, e2, e3, e4, e5⟩, hv⟩ := ((hS.at hp).up hB01 hb).open
      have NO : Hid (¬ (0 ≤ (h.bs[k]).si → Part (rbOwn h.bs[k]) (shOf h.sh (h.bs[k]).nm).has) → pB (HaveTo h h.bs.length) = false) := fun hn => pB_no fun t => hn (t k _ hp (List.getElem?_eq_getElem hp))
      have YES : Hid ((0 ≤ (h.bs[k]).si → Part (rbOwn h.bs[k]) (shOf h.sh (h.bs[k]).nm).has) → HaveTo h (k + 1)) := fun hy => to_step (P := fun _ (b : Rb) => 0 ≤ b.si → Part (rbOwn b) (shOf h.sh b.nm).has) HI.out hp hy
      have Hsi : Hid (-1 ≤ (h.bs[k]).si) := (HBt.out k _ hp (List.getElem?_eq_getElem hp)).1.2.2.2.2.2.1
      have Hmem : Hid ((h.bs[k]).nm ∈ nms h.sh.bs) := HM.out.2.2.2 _ (List.mem_map.2 ⟨h.bs[k], by simp, rfl⟩)
      generalize h.bs[k] = x0 at *
      clear hS
      have hB1 := hB.alloc hB.size (.cells #[.string x0.nm, .slice (some ⟨p, q, none⟩) x0.ps.length c, .slice (some ⟨g, r, none⟩) x0.sl.length d, .string x0.ad, .int .i64 x0.si, .int .i64 x0.st] 51)
      have hX : CB (wr.alloc (.cells #[.string x0.nm, .slice (some ⟨p, q, none⟩) x0.ps.length c, .slice (some ⟨g, r, none⟩) x0.sl.length d, .string x0.ad, .int .i64 x0.si, .int .i64 x0.st] 51)) wr.heap.size [.string x0.nm, .slice (some ⟨p, q, none⟩) x0.ps.length c, .slice (some ⟨g, r, none⟩) x0.sl.length d, .string x0.ad, .int .i64 x0.si, .int .i64 x0.st] := cb_alloc wr _ _
      have hv2 := hv.up ((Below.refl wr.heap.size wr).alloc (Nat.le_refl _) (.cells #[.string x0.nm, .slice (some ⟨p, q, none⟩) x0.ps.length c, .slice (some ⟨g, r, none⟩) x0.sl.length d, .string x0.ad, .int .i64 x0.si, .int .i64 x0.st] 51))
      go_upto_region 4 with fail
      generalize wr.alloc (.cells #[.string x0.nm, .slice (some ⟨p, q, none⟩) x0.ps.length c, .slice (some ⟨g, r, none⟩) x0.sl.length d, .string x0.ad, .int .i64 x0.si, .int .i64 x0.st] 51) = W2 at *
      obtain ⟨f0, f1, f2, f3, f4, f5⟩ := hX.c6
      obtain ⟨d0, d1, d2, d3, d4, d5⟩ := (hC.up hB1 hlt).c6
      have hXlt := hX.2.2
      have hqlt : w.heap.size < W2.heap.size := Nat.lt_of_lt_of_le hlt hB1.size
      have hB02 := up_trans hB0 hB1
      have hS0 : Below W2.heap.size W2 W2 ∧ W2.cell? ⟨w.heap.size, 0, none⟩ = some (.int .i64 h.now) ∧ W2.cell? ⟨w.heap.size, 1, none⟩ = some (.int .i64 h.last) ∧ W2.cell? ⟨w.heap.size, 2, none⟩ = some (.slice a1 h.sh.things.length c1) ∧ W2.cell? ⟨w.heap.size, 3, none⟩ = some (.slice a2 h.sh.bs.length c2) ∧ W2.cell? ⟨w.heap.size, 4, none⟩ = some (.slice (some ⟨b, o, none⟩) h.bs.length c3) ∧ W2.cell? ⟨w.heap.size, 5, none⟩ = some (.slice a4 h.ds.length c4) ∧ W2.cell? ⟨wr.heap.size, 0, none⟩ = some (.string x0.nm) ∧ W2.cell? ⟨wr.heap.size, 1, none⟩ = some (.slice (some ⟨p, q, none⟩) x0.ps.length c) ∧ W2.cell? ⟨wr.heap.size, 2, none⟩ = some (.slice (some ⟨g, r, none⟩) x0.sl.length d) ∧ W2.cell? ⟨wr.heap.size, 3, none⟩ = some (.string x0.ad) ∧ W2.cell? ⟨wr.heap.size, 4, none⟩ = some (.int .i64 x0.si) ∧ W2.cell? ⟨wr.heap.size, 5, none⟩ = some (.int .i64 x0.st) := ⟨Below.refl _ _, d0, d1, d2, d3, d4, d5, f0, f1, f2, f3, f4, f5⟩
      have HSH : Hid (∀ W, Below w.heap.size w W → Calls Tryz.prog 63 #[.agg #[.int .i64 h.now, .int .i64 h.last, .slice a1 h.sh.things.length c1, .slice a2 h.sh.bs.length c2, .slice (some ⟨b, o, none⟩) h.bs.length c3, .slice a4 h.ds.length c4], .agg #[.string x0.nm, .slice (some ⟨p, q, none⟩) x0.ps.length c, .slice (some ⟨g, r, none⟩) x0.sl.length d, .string x0.ad, .int .i64 x0.si, .int .i64 x0.st]] W fun e w' => (∃ b1 k1 b2 k2, e = .returned (.agg #[.string (shOf h.sh x0.nm).nm, .slice b1 (shOf h.sh x0.nm).has.length k1, .slice b2 (shOf h.sh x0.nm).needs.length k2]) ∧ Ls w' (.slice b1 (shOf h.sh x0.nm).has.length k1) (shOf h.sh x0.nm).has ∧ Ls w' (.slice b2 (shOf h.sh x0.nm).needs.length k2) (shOf h.sh x0.nm).needs) ∧ Below W.heap.size W w') := fun W hW => sharedP_any h x0 a1 a2 (some ⟨b, o, none⟩) a4 c1 c2 c3 c4 p q c g r d W (HK.up hW) HM.out.1 Hmem.out
      clear e0 e1 e2 e3 e4 e5 hv d0 d1 d2 d3 d4 d5 f0 f1 f2 f3 f4 f5
      have Hsz : Hid (∀ s ∈ rbOwn x0, s.size ≤ maxLen) := rbOwn_sized hv2
      have Hv : Hid (RbV W2 x0 (.slice (some ⟨p, q, none⟩) x0.ps.length c) (.slice (some ⟨g, r, none⟩) x0.sl.length d)) := hv2
      clear hv2
      generalize hy : shOf h.sh x0.nm = y at *
      by_cases hsi : x0.si = -1
      · have HY : Hid (HaveTo h (k + 1)) := YES.out fun h0 => by omega
        have hS1 : Below W2.heap.size W2 W2 ∧ W2.cell? ⟨w.heap.size, 0, none⟩ = some (.int .i64 h.now) ∧ W2.cell? ⟨w.heap.size, 1, none⟩ = some (.int .i64 h.last) ∧ W2.cell? ⟨w.heap.size, 2, none⟩ = some (.slice a1 h.sh.things.length c1) ∧ W2.cell? ⟨w.heap.size, 3, none⟩ = some (.slice a2 h.sh.bs.length c2) ∧ W2.cell? ⟨w.heap.size, 4, none⟩ = some (.slice (some ⟨b, o, none⟩) h.bs.length c3) ∧ W2.cell? ⟨w.heap.size, 5, none⟩ = some (.slice a4 h.ds.length c4) ∧ W2.cell? ⟨wr.heap.size, 0, none⟩ = some (.string x0.nm) ∧ W2.cell? ⟨wr.heap.size, 1, none⟩ = some (.slice (some ⟨p, q, none⟩) x0.ps.length c) ∧ W2.cell? ⟨wr.heap.size, 2, none⟩ = some (.slice (some ⟨g, r, none⟩) x0.sl.length d) ∧ W2.cell? ⟨wr.heap.size, 3, none⟩ = some (.string x0.ad) ∧ W2.cell? ⟨wr.heap.size, 4, none⟩ = some (.int .i64 (-1)) ∧ W2.cell? ⟨wr.heap.size, 5, none⟩ = some (.int .i64 x0.st) := by rw [← hsi]; exact hS0
        obtain ⟨-, -, -, -, -, -, -, f0, f1, f2, f3, f4, f5⟩ := hS1
        have Hs1 : Hid (x0.si = -1) := hsi
        clear hsi hS0
        go_upto_region 5 with (go_at_call 65; refine (going_wait _ _ _ _ _ _ _ _ _ _).mono ?_; rintro e w3 ⟨rfl, hb3⟩)
        have hB3 := up_trans hB1 hb3
        clear f0 f1 f2 f3 f4 f5
        go_wp2_with fail
        go_quiet (fail)
        go_wp2_with fail
        go_roundw
        case rel => exact ⟨k + 1, by omega, by go_num, HY.out, below_drewN hB3 _⟩
        case measure => simp [intOf]; omega
      · have H0 : Hid (0 ≤ x0.si) := by have := Hsi.out; show _ ≤ _; omega
        have Hs1 : Hid (¬ x0.si = -1) := hsi
        obtain ⟨-, -, -, -, -, -, -, f0, f1, f2, f3, f4, f5⟩ := id hS0
        clear hsi
        go_upto_region 5 with (go_at_call 65; refine (going_go _ _ _ _ _ _ _ _ _ _ _ Hs1.out).mono ?_; rintro e w3 ⟨rfl, hb3⟩)
        have hS3 := m12_up hqlt hXlt hS0 hb3
        have hv3 := Hv.out.up hb3
        have hB03 := up_trans hB02 hb3
        clear f0 f1 f2 f3 f4 f5 hS0
        have hS4 : Below w3.heap.size w3 w3 ∧ w3.cell? ⟨w.heap.size, 0, none⟩ = some (.int .i64 h.now) ∧ w3.cell? ⟨w.heap.size, 1, none⟩ = some (.int .i64 h.last) ∧ w3.cell? ⟨w.heap.size, 2, none⟩ = some (.slice a1 h.sh.things.length c1) ∧ w3.cell? ⟨w.heap.size, 3, none⟩ = some (.slice a2 h.sh.bs.length c2) ∧ w3.cell? ⟨w.heap.size, 4, none⟩ = some (.slice (some ⟨b, o, none⟩) h.bs.length c3) ∧ w3.cell? ⟨w.heap.size, 5, none⟩ = some (.slice a4 h.ds.length c4) ∧ w3.cell? ⟨wr.heap.size, 0, none⟩ = some (.string x0.nm) ∧ w3.cell? ⟨wr.heap.size, 1, none⟩ = some (.slice (some ⟨p, q, none⟩) x0.ps.length c) ∧ w3.cell? ⟨wr.heap.size, 2, none⟩ = some (.slice (some ⟨g, r, none⟩) x0.sl.length d) ∧ w3.cell? ⟨wr.heap.size, 3, none⟩ = some (.string x0.ad) ∧ w3.cell? ⟨wr.heap.size, 4, none⟩ = some (.int .i64 x0.si) ∧ w3.cell? ⟨wr.heap.size, 5, none⟩ = some (.int .i64 x0.st) := ⟨Below.refl _ _, hS3.2⟩
        have hq3 : w.heap.size < w3.heap.size := Nat.lt_of_lt_of_le hqlt hb3.size
        have hr3 : wr.heap.size < w3.heap.size := Nat.lt_of_lt_of_le hXlt hb3.size
        have hB13 := up_trans hB1 hb3
        clear hS3
        go_wp2_with fail
        go_region_held (fun w' => Below w3.heap.size w3 w' ∧ w'.cell? ⟨w.heap.size, 0, none⟩ = some (.int .i64 h.now) ∧ w'.cell? ⟨w.heap.size, 1, none⟩ = some (.int .i64 h.last) ∧ w'.cell? ⟨w.heap.size, 2, none⟩ = some (.slice a1 h.sh.things.length c1) ∧ w'.cell? ⟨w.heap.size, 3, none⟩ = some (.slice a2 h.sh.bs.length c2) ∧ w'.cell? ⟨w.heap.size, 4, none⟩ = some (.slice (some ⟨b, o, none⟩) h.bs.length c3) ∧ w'.cell? ⟨w.heap.size, 5, none⟩ = some (.slice a4 h.ds.length c4) ∧ w'.cell? ⟨wr.heap.size, 0, none⟩ = some (.string x0.nm) ∧ w'.cell? ⟨wr.heap.size, 1, none⟩ = some (.slice (some ⟨p, q, none⟩) x0.ps.length c) ∧ w'.cell? ⟨wr.heap.size, 2, none⟩ = some (.slice (some ⟨g, r, none⟩) x0.sl.length d) ∧ w'.cell? ⟨wr.heap.size, 3, none⟩ = some (.string x0.ad) ∧ w'.cell? ⟨wr.heap.size, 4, none⟩ = some (.int .i64 x0.si) ∧ w'.cell? ⟨wr.heap.size, 5, none⟩ = some (.int .i64 x0.st)) (first | exact m12_drew hS4 | exact m12_up hq3 hr3 (by assumption) (by assumption))
          (first
            | (go_at_call 66; refine (ownP_any x0 _ _ _ (HE.out.up hB03.drew) (hv3.up (Below.refl _ _).drew)).mono ?_; rintro e w4 ⟨⟨u4, rfl, hO4⟩, hb4⟩; have hB04 := up_trans hB03.drew hb4)
            | (go_at_call 63; refine (HSH.out _ hB04).mono ?_; rintro e w5 ⟨⟨s1, k1, s2, k2, rfl, hL5, -⟩, hb5⟩; have hO5 := hO4.up hb5)
            | (go_at_call 67; refine (partOf_any _ _ _ _ _ (hO5.lst.ls Hsz.out) hL5).mono ?_; rintro e w6 ⟨rfl, hb6⟩))
        rename_i hHeld
        have hB6 := up_trans hB13 hHeld.1
        have hB06 := up_trans hB0 hB6
        clear hHeld hS4 hL5 hO4 hO5 hb4 hb5 hb6 hB04
        cases hq : pB (PartOk (rbOwn x0) y.has)
        · have HN : Hid (pB (HaveTo h h.bs.length) = false) := NO.out fun t => pB_not.1 hq ⟨t H0.out, rbOwn_asc x0⟩
          go_wp2_with fail
          go_ret
          exact ⟨ret_bool HN.out.symm, hB06⟩
        · have HY : Hid (HaveTo h (k + 1)) := YES.out fun _ => (pB_iff.1 hq).1
          go_wp2_with fail
          go_roundw
          case rel => exact ⟨k + 1, by omega, by go_num, HY.out, hB6⟩
          case measure => simp [intOf]; omega
    · have HY : Hid (pB (HaveTo h h.bs.length) = true) := pB_yes (by
        have := HI.out
        rwa [show k = h.bs.length by omega] at this)
      go_wp2_with fail
      go_ret
      exact ⟨ret_bool HY.out.symm, up_trans hB0 hB⟩
end Go.Proofs.YtlkpgiifdclijaaGreatDoor

/- The program's RunHouseOk (chapter 22). -/
namespace Go.Proofs.YtlkpgiifdclijaaGreatDoor
open Go.RowKit

/-- The checks, in their order. -/
def chk (h : House) (j : Nat) : Prop := match j with
  | 0 => TimesOk h
  | 1 => DonesOk h
  | 2 => SafeP h.sh
  | 3 => NamesOk h
  | 4 => BatsOk h
  | 5 => NeedTo h h.bs.length
  | _ => HaveTo h h.bs.length
theorem house_chk (h : House) : HouseOk h ↔ ∀ j, j < 7 → chk h j := by
  constructor
  · rintro ⟨t0, t1, t2, t3, t4, t5, t6⟩ j hj
    match j, hj with
    | 0, _ => exact t0
    | 1, _ => exact t1
    | 2, _ => exact t2
    | 3, _ => exact t3
    | 4, _ => exact t4
    | 5, _ => exact t5
    | 6, _ => exact t6
  · intro t
    exact ⟨t 0 (by omega), t 1 (by omega), t 2 (by omega), t 3 (by omega), t 4 (by omega), t 5 (by omega), t 6 (by omega)⟩
set_option maxRecDepth 20000 in
set_option maxHeartbeats 8000000 in
theorem houseOkP_any (h : House) (tv bv xv dv : Value) (w : World) (hE : Ends w) (H : HV w h tv bv xv dv) :
    Calls Tryz.prog 8 #[.agg #[.int .i64 h.now, .int .i64 h.last, tv, bv, xv, dv]] w fun e w' => e = .returned (.bool (pB (HouseOk h))) ∧ Below w.heap.size w w' := by
  obtain ⟨a1, c1, a2, c2, a3, c3, a4, c4, rfl, rfl, rfl, rfl⟩ := H.shapes
  have HE : Hid (Ends w) := hE
  clear hE
  have hB0 := (Below.refl w.heap.size w).alloc (Nat.le_refl _) (.cells #[.int .i64 h.now, .int .i64 h.last, .slice a1 h.sh.things.length c1, .slice a2 h.sh.bs.length c2, .slice a3 h.bs.length c3, .slice a4 h.ds.length c4] 38)
  have hC : CB (w.alloc (.cells #[.int .i64 h.now, .int .i64 h.last, .slice a1 h.sh.things.length c1, .slice a2 h.sh.bs.length c2, .slice a3 h.bs.length c3, .slice a4 h.ds.length c4] 38)) w.heap.size [.int .i64 h.now, .int .i64 h.last, .slice a1 h.sh.things.length c1, .slice a2 h.sh.bs.length c2, .slice a3 h.bs.length c3, .slice a4 h.ds.length c4] := cb_alloc w _ _
  go_enter Tryz.func8, Tryz.ntmps8
  go_upto_region 1 with fail
  generalize w.alloc (.cells #[.int .i64 h.now, .int .i64 h.last, .slice a1 h.sh.things.length c1, .slice a2 h.sh.bs.length c2, .slice a3 h.bs.length c3, .slice a4 h.ds.length c4] 38) = W1 at *
  have hlt := hC.2.2
  have hF0 : CB (W1.alloc (.cells #[.func (.func 24) #[] #[], .func (.func 25) #[] #[], .func (.func 26) #[] #[], .func (.func 27) #[] #[], .func (.func 28) #[] #[], .func (.func 29) #[] #[], .func (.func 30) #[] #[]] 31)) W1.heap.size [.func (.func 24) #[] #[], .func (.func 25) #[] #[], .func (.func 26) #[] #[], .func (.func 27) #[] #[], .func (.func 28) #[] #[], .func (.func 29) #[] #[], .func (.func 30) #[] #[]] := cb_alloc W1 _ _
  have hBF := (Below.refl W1.heap.size W1).alloc (Nat.le_refl _) (.cells #[.func (.func 24) #[] #[], .func (.func 25) #[] #[], .func (.func 26) #[] #[], .func (.func 27) #[] #[], .func (.func 28) #[] #[], .func (.func 29) #[] #[], .func (.func 30) #[] #[]] 31)
  go_upto_region 2 with fail
  generalize W1.alloc (.cells #[.func (.func 24) #[] #[], .func (.func 25) #[] #[], .func (.func 26) #[] #[], .func (.func 27) #[] #[], .func (.func 28) #[] #[], .func (.func 29) #[] #[], .func (.func 30) #[] #[]] 31) = W2 at *
  have hFlt := hF0.2.2
  go_wp2_with fail
  go_loopw [5, 9] (fun _ i w' => ∃ k : Nat, k ≤ 7 ∧ i = .int .i64 k ∧ (∀ j, j < k → chk h j) ∧ Below W1.heap.size W1 w' ∧ Below W2.heap.size W2 w') (fun _ i _ => 7 - (intOf i).toNat)
  case atStart => exact ⟨0, by omega, rfl, fun j hj => by omega, hBF, Below.refl _ _⟩
  case round =>
    obtain ⟨k, hk, rfl, hinv, hB, hBW⟩ := hrel
    have HI : Hid (∀ j, j < k → chk h j) := hinv
    clear hinv
    by_cases hp : k < 7
    · have hB01 := up_trans hB0 hB
      have HV1 := H.up hB01
      have hE1 := HE.out.up hB01
      obtain ⟨d0, d1, d2, d3, d4, d5⟩ := (hC.up hB hlt).c6
      have hF := hF0.up hBW hFlt
      rcases (by omega : k = 0 ∨ k = 1 ∨ k = 2 ∨ k = 3 ∨ k = 4 ∨ k = 5 ∨ k = 6) with rfl | rfl | rfl | rfl | rfl | rfl | rfl
      · have cf : wr.cell? ⟨W1.heap.size, 0, none⟩ = some (.func (.func 24) #[] #[]) := hF.1 0 _ rfl
        go_wp2_with fail
        refine (timesP_any h _ _ _ _ _ HV1).mono ?_
        rintro e w3 ⟨rfl, hB3⟩
        have hB13 := up_trans hB hB3
        have hB03 := up_trans hB0 hB13
        clear d0 d1 d2 d3 d4 d5 cf
        cases hq : pB (chk h 0)
        · have HN : Hid (pB (HouseOk h) = false) := pB_no fun t => pB_not.1 hq (((house_chk h).1 t) 0 (by omega))
          have hq' : pB (chk h 0) = false := hq
          unfold chk at hq'
          go_wp2_with fail
          go_ret
          exact ⟨ret_bool HN.out.symm, hB03⟩
        · have HY : Hid (∀ j, j < 0 + 1 → chk h j) := fun j hj => by
            rcases Nat.lt_or_ge j 0 with h' | h'
            · exact HI.out j h'
            · obtain rfl : j = 0 := by omega
              exact pB_iff.1 hq
          have hq' : pB (chk h 0) = true := hq
          unfold chk at hq'
          go_wp2_with fail
          go_roundw
          case rel => exact ⟨1, by omega, by go_num, HY.out, hB13, up_trans hBW hB3⟩
          case measure => simp [intOf]
      · have cf : wr.cell? ⟨W1.heap.size, 1, none⟩ = some (.func (.func 25) #[] #[]) := hF.1 1 _ rfl
        go_wp2_with fail
        refine (donesP_any h _ _ _ _ _ HV1).mono ?_
        rintro e w3 ⟨rfl, hB3⟩
        have hB13 := up_trans hB hB3
        have hB03 := up_trans hB0 hB13
        clear d0 d1 d2 d3 d4 d5 cf
        cases hq : pB (chk h 1)
        · have HN : Hid (pB (HouseOk h) = false) := pB_no fun t => pB_not.1 hq (((house_chk h).1 t) 1 (by omega))
          have hq' : pB (chk h 1) = false := hq
          unfold chk at hq'
          go_wp2_with fail
          go_ret
          exact ⟨ret_bool HN.out.symm, hB03⟩
        · have HY : Hid (∀ j, j < 1 + 1 → chk h j) := fun j hj => by
            rcases Nat.lt_or_ge j 1 with h' | h'
            · exact HI.out j h'
            · obtain rfl : j = 1 := by omega
              exact pB_iff.1 hq
          have hq' : pB (chk h 1) = true := hq
          unfold chk at hq'
          go_wp2_with fail
          go_roundw
          case rel => exact ⟨2, by omega, by go_num, HY.out, hB13, up_trans hBW hB3⟩
          case measure => simp [intOf]
      · have cf : wr.cell? ⟨W1.heap.size, 2, none⟩ = some (.func (.func 26) #[] #[]) := hF.1 2 _ rfl
        go_wp2_with fail
        refine (shareP_any h _ _ _ _ _ HV1).mono ?_
        rintro e w3 ⟨rfl, hB3⟩
        have hB13 := up_trans hB hB3
        have hB03 := up_trans hB0 hB13
        clear d0 d1 d2 d3 d4 d5 cf
        cases hq : pB (chk h 2)
        · have HN : Hid (pB (HouseOk h) = false) := pB_no fun t => pB_not.1 hq (((house_chk h).1 t) 2 (by omega))
          have hq' : pB (chk h 2) = false := hq
          unfold chk at hq'
          go_wp2_with fail
          go_ret
          exact ⟨ret_bool HN.out.symm, hB03⟩
        · have HY : Hid (∀ j, j < 2 + 1 → chk h j) := fun j hj => by
            rcases Nat.lt_or_ge j 2 with h' | h'
            · exact HI.out j h'
            · obtain rfl : j = 2 := by omega
              exact pB_iff.1 hq
          have hq' : pB (chk h 2) = true := hq
          unfold chk at hq'
          go_wp2_with fail
          go_roundw
          case rel => exact ⟨3, by omega, by go_num, HY.out, hB13, up_trans hBW hB3⟩
          case measure => simp [intOf]
      · have cf : wr.cell? ⟨W1.heap.size, 3, none⟩ = some (.func (.func 27) #[] #[]) := hF.1 3 _ rfl
        go_wp2_with fail
        refine (namesP_any h _ _ _ _ _ HV1 (HI.out 2 (by omega)).book).mono ?_
        rintro e w3 ⟨rfl, hB3⟩
        have hB13 := up_trans hB hB3
        have hB03 := up_trans hB0 hB13
        clear d0 d1 d2 d3 d4 d5 cf
        cases hq : pB (chk h 3)
        · have HN : Hid (pB (HouseOk h) = false) := pB_no fun t => pB_not.1 hq (((house_chk h).1 t) 3 (by omega))
          have hq' : pB (chk h 3) = false := hq
          unfold chk at hq'
          go_wp2_with fail
          go_ret
          exact ⟨ret_bool HN.out.symm, hB03⟩
        · have HY : Hid (∀ j, j < 3 + 1 → chk h j) := fun j hj => by
            rcases Nat.lt_or_ge j 3 with h' | h'
            · exact HI.out j h'
            · obtain rfl : j = 3 := by omega
              exact pB_iff.1 hq
          have hq' : pB (chk h 3) = true := hq
          unfold chk at hq'
          go_wp2_with fail
          go_roundw
          case rel => exact ⟨4, by omega, by go_num, HY.out, hB13, up_trans hBW hB3⟩
          case measure => simp [intOf]
      · have cf : wr.cell? ⟨W1.heap.size, 4, none⟩ = some (.func (.func 28) #[] #[]) := hF.1 4 _ rfl
        go_wp2_with fail
        refine (batsP_any h _ _ _ _ _ hE1 HV1).mono ?_
        rintro e w3 ⟨rfl, hB3⟩
        have hB13 := up_trans hB hB3
        have hB03 := up_trans hB0 hB13
        clear d0 d1 d2 d3 d4 d5 cf
        cases hq : pB (chk h 4)
        · have HN : Hid (pB (HouseOk h) = false) := pB_no fun t => pB_not.1 hq (((house_chk h).1 t) 4 (by omega))
          have hq' : pB (chk h 4) = false := hq
          unfold chk at hq'
          go_wp2_with fail
          go_ret
          exact ⟨ret_bool HN.out.symm, hB03⟩
        · have HY : Hid (∀ j, j < 4 + 1 → chk h j) := fun j hj => by
            rcases Nat.lt_or_ge j 4 with h' | h'
            · exact HI.out j h'
            · obtain rfl : j = 4 := by omega
              exact pB_iff.1 hq
          have hq' : pB (chk h 4) = true := hq
          unfold chk at hq'
          go_wp2_with fail
          go_roundw
          case rel => exact ⟨5, by omega, by go_num, HY.out, hB13, up_trans hBW hB3⟩
          case measure => simp [intOf]
      · have cf : wr.cell? ⟨W1.heap.size, 5, none⟩ = some (.func (.func 29) #[] #[]) := hF.1 5 _ rfl
        go_wp2_with fail
        refine (needsP_any h _ _ _ _ _ hE1 HV1 (HI.out 2 (by omega)).book (HI.out 3 (by omega))).mono ?_
        rintro e w3 ⟨rfl, hB3⟩
        have hB13 := up_trans hB hB3
        have hB03 := up_trans hB0 hB13
        clear d0 d1 d2 d3 d4 d5 cf
        cases hq : pB (chk h 5)
        · have HN : Hid (pB (HouseOk h) = false) := pB_no fun t => pB_not.1 hq (((house_chk h).1 t) 5 (by omega))
          have hq' : pB (chk h 5) = false := hq
          unfold chk at hq'
          go_wp2_with fail
          go_ret
          exact ⟨ret_bool HN.out.symm, hB03⟩
        · have HY : Hid (∀ j, j < 5 + 1 → chk h j) := fun j hj => by
            rcases Nat.lt_or_ge j 5 with h' | h'
            · exact HI.out j h'
            · obtain rfl : j = 5 := by omega
              exact pB_iff.1 hq
          have hq' : pB (chk h 5) = true := hq
          unfold chk at hq'
          go_wp2_with fail
          go_roundw
          case rel => exact ⟨6, by omega, by go_num, HY.out, hB13, up_trans hBW hB3⟩
          case measure => simp [intOf]
      · have cf : wr.cell? ⟨W1.heap.size, 6, none⟩ = some (.func (.func 30) #[] #[]) := hF.1 6 _ rfl
        go_wp2_with fail
        refine (haveP_any h _ _ _ _ _ hE1 HV1 (HI.out 2 (by omega)).book (HI.out 3 (by omega)) (HI.out 4 (by omega))).mono ?_
        rintro e w3 ⟨rfl, hB3⟩
        have hB13 := up_trans hB hB3
        have hB03 := up_trans hB0 hB13
        clear d0 d1 d2 d3 d4 d5 cf
        cases hq : pB (chk h 6)
        · have HN : Hid (pB (HouseOk h) = false) := pB_no fun t => pB_not.1 hq (((house_chk h).1 t) 6 (by omega))
          have hq' : pB (chk h 6) = false := hq
          unfold chk at hq'
          go_wp2_with fail
          go_ret
          exact ⟨ret_bool HN.out.symm, hB03⟩
        · have HY : Hid (∀ j, j < 6 + 1 → chk h j) := fun j hj => by
            rcases Nat.lt_or_ge j 6 with h' | h'
            · exact HI.out j h'
            · obtain rfl : j = 6 := by omega
              exact pB_iff.1 hq
          have hq' : pB (chk h 6) = true := hq
          unfold chk at hq'
          go_wp2_with fail
          go_roundw
          case rel => exact ⟨7, by omega, by go_num, HY.out, hB13, up_trans hBW hB3⟩
          case measure => simp [intOf]
    · have HY : Hid (pB (HouseOk h) = true) := pB_yes ((house_chk h).2 fun j hj => HI.out j (by omega))
      go_wp2_with fail
      go_ret
      exact ⟨ret_bool HY.out.symm, up_trans hB0 hB⟩
end Go.Proofs.YtlkpgiifdclijaaGreatDoor
