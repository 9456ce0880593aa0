/- The specification's RunSay (chapter 23). -/
import Derived.Test.YtliebjbbomghiaaGreatDoorC8
namespace Go.Proofs.YtliebjbbomghiaaGreatDoor
open Go.RowKit

theorem idx_found {bs : List Rb} {nm : ByteArray} (h : memS (rnms bs) nm = true) : ∃ (k : Nat) (x : Rb), bs[k]? = some x ∧ idxI (rnms bs) nm = (k : Int) := by
  have h0 : idxI (rnms bs) nm = ((rnms bs).findIdx fun x => x.toList == nm.toList : Nat) := by rw [idxI, if_pos h]
  have h1 : ((rnms bs).findIdx fun x => x.toList == nm.toList) < (rnms bs).length := by
    rw [List.findIdx_lt_length]
    unfold memS at h
    rw [List.any_eq_true] at h
    exact h
  rw [rnms_length] at h1
  exact ⟨_, bs[_]'h1, List.getElem?_eq_getElem h1, h0⟩
/-- Where the phase of a batch goes on to. -/
def toOf (p : Ph) (well : Bool) : ByteArray := if well = true then p.t else p.e
def CantGo (x : Rb) (p : Ph) (well : Bool) : Prop := x.si < 0 ∨ (well = true ∧ p.k = 3 ∧ x.si < p.n)
/-- What saying gives. -/
def SayIs (h : House) (nm : ByteArray) (well : Bool) (cd : Int) (h' : House) : Prop :=
  (¬ HouseOk h ∧ cd = 1 ∧ h' = noHouse) ∨ (HouseOk h ∧ memS (rnms h.bs) nm = false ∧ cd = 3 ∧ h' = h) ∨
  ∃ (k : Nat) (x : Rb), HouseOk h ∧ h.bs[k]? = some x ∧ idxI (rnms h.bs) nm = (k : Int) ∧ ((CantGo x (phOf x.ps x.ad) well ∧ cd = 6 ∧ h' = h) ∨
    (¬ CantGo x (phOf x.ps x.ad) well ∧ cd = 0 ∧ AsksTo (onH h k (toOf (phOf x.ps x.ad) well)) (onH h k (toOf (phOf x.ps x.ad) well)).bs.length h'))

/-- The house of its own that is answered where nothing is done. -/
theorem say_back {w W : World} {base : Nat} {h : House} {tv bv xv dv : Value} (H : HW W base h tv bv xv dv) (kR : W.ownsRow w.heap.size 99 6 (.slice (some ⟨w.heap.size + 1, 0, none⟩) 1 1) 1 [.int .i64 0, .int .i64 0, .slice none 0 0, .slice none 0 0, .slice none 0 0, .slice none 0 0]) (hb : w.heap.size ≤ base) (y0 y1 : Value) : HX ((((((W.setCell ⟨w.heap.size + 1, 0, none⟩ y0).setCell ⟨w.heap.size + 1, 1, none⟩ y1).setCell ⟨w.heap.size + 1, 2, none⟩ tv).setCell ⟨w.heap.size + 1, 3, none⟩ bv).setCell ⟨w.heap.size + 1, 4, none⟩ xv).setCell ⟨w.heap.size + 1, 5, none⟩ dv) w.heap.size h tv bv xv dv :=
  .inl ((H.box kR (grown_set6 W (w.heap.size + 1) y0 y1 tv bv xv dv)).low hb)
set_option maxRecDepth 20000 in
set_option maxHeartbeats 8000000 in
theorem sayS_any (h : House) (tv bv xv dv : Value) (nm : ByteArray) (well : Bool) (w : World) (H : HV w h tv bv xv dv) :
    Calls Tryz.prog 95 #[.agg #[.int .i64 h.now, .int .i64 h.last, tv, bv, xv, dv], .string nm, .bool well] w fun e w' => (∃ h' tu bu xu du cd, e = .returned (.tuple #[.agg #[.int .i64 h'.now, .int .i64 h'.last, tu, bu, xu, du], .int .i64 cd]) ∧ SayIs h nm well cd h' ∧ Few h' ∧ HX w' w.heap.size h' tu bu xu du) ∧ Below w.heap.size w w' := by
  obtain ⟨a1, c1, a2, c2, a3, c3, a4, c4, rfl, rfl, rfl, rfl⟩ := H.shapes
  obtain ⟨W1, hW1, kA, kR, hB1⟩ : ∃ W1, (w.alloc (.cells #[.int .i64 h.now, .int .i64 h.last, .slice a1 h.sh.things.length c1, .slice a2 h.sh.bs.length c2, .slice a3 h.bs.length c3, .slice a4 h.ds.length c4] 99)).alloc (.cells #[.int .i64 0, .int .i64 0, .slice none 0 0, .slice none 0 0, .slice none 0 0, .slice none 0 0] 99) = W1 ∧ W1.ownsRow w.heap.size 99 6 (.slice (some ⟨w.heap.size, 0, none⟩) 1 1) 1 [.int .i64 h.now, .int .i64 h.last, .slice a1 h.sh.things.length c1, .slice a2 h.sh.bs.length c2, .slice a3 h.bs.length c3, .slice a4 h.ds.length c4] ∧ W1.ownsRow w.heap.size 99 6 (.slice (some ⟨w.heap.size + 1, 0, none⟩) 1 1) 1 [.int .i64 0, .int .i64 0, .slice none 0 0, .slice none 0 0, .slice none 0 0, .slice none 0 0] ∧ Below w.heap.size w W1 := ⟨_, rfl, two_rows w [.int .i64 h.now, .int .i64 h.last, .slice a1 h.sh.things.length c1, .slice a2 h.sh.bs.length c2, .slice a3 h.bs.length c3, .slice a4 h.ds.length c4] [.int .i64 0, .int .i64 0, .slice none 0 0, .slice none 0 0, .slice none 0 0, .slice none 0 0] rfl rfl⟩
  go_enter Tryz.func95, Tryz.ntmps95
  go_upto_region 1 with fail
  try rw [hW1]
  clear hW1
  have H1 := H.up hB1
  obtain ⟨e0, e1, e2, e3, e4, e5⟩ := (cb_of_rowK kA).c6
  have hcall := houseOkS_any h _ _ _ _ W1 H1
  by_cases hk : HouseOk h
  case neg =>
    rw [pB_no hk] at hcall
    have HI : Hid (SayIs h nm well 1 noHouse) := .inl ⟨hk, rfl, rfl⟩
    go_upto_region 2 with (go_at_call 110; refine hcall.mono ?_; rintro e w2 ⟨rfl, hb2⟩)
    have kR2 := own_up kR hb2
    obtain ⟨y0, y1, y2, y3, y4, y5⟩ := (cb_of_rowK kR2).c6
    obtain ⟨f0, f1, f2, f3, f4, f5⟩ := (cb_of_rowK kR2).f6
    have hB2 := up_trans hB1 hb2
    clear hcall hb2
    go_wp2_with fail
    refine end_cb6b Tryz.results95 Tryz.underlying99 rfl sizeHouseS (cb_of_rowK kR2) rfl rfl ?_
    exact ⟨⟨noHouse, _, _, _, _, 1, rfl, HI.out, few_none, hx_none _ _⟩, below_set6 hB2 (by omega) _ _ _ _ _ _⟩
  have HK : Hid (HouseOk h) := hk
  obtain ⟨hty, hb5, hd20⟩ := hk.tiny
  rw [pB_yes hk] at hcall
  clear hk
  go_upto_region 3 with (go_at_call 110; refine hcall.mono ?_; rintro e w2 ⟨rfl, hb2⟩)
  have kA2 := own_up kA hb2
  have kR2 := own_up kR hb2
  have hB2 := up_trans hB1 hb2
  have H2 := H1.up hb2
  clear hcall hb2 e0 e1 e2 e3 e4 e5 kA kR H1 H hB1
  obtain ⟨e0, e1, e2, e3, e4, e5⟩ := (cb_of_rowK kA2).c6
  have hcopy := copy22_any h _ _ _ _ w2 H2 (by have := hty.1; omega) (by have := hty.2.1; omega) (fun y hy => by have := hty.2.2 y hy; omega) (by omega) (by omega)
  go_upto_region 4 with (go_at_call 111; refine hcopy.mono ?_; rintro e w3 ⟨⟨tu, bu, xu, du, rfl, H3⟩, hb3⟩; obtain ⟨p1, q1, p2, q2, p3, q3, p4, q4, rfl, rfl, rfl, rfl⟩ := H3.v.shapes)
  obtain ⟨W4, hW4, kX, hb4⟩ : ∃ W4, w3.alloc (.cells #[.int .i64 h.now, .int .i64 h.last, .slice p1 h.sh.things.length q1, .slice p2 h.sh.bs.length q2, .slice p3 h.bs.length q3, .slice p4 h.ds.length q4] 99) = W4 ∧ W4.ownsRow w3.heap.size 99 6 (.slice (some ⟨w3.heap.size, 0, none⟩) 1 1) 1 [.int .i64 h.now, .int .i64 h.last, .slice p1 h.sh.things.length q1, .slice p2 h.sh.bs.length q2, .slice p3 h.bs.length q3, .slice p4 h.ds.length q4] ∧ Below w3.heap.size w3 W4 := ⟨_, rfl, World.ownsRow_lit w3 _ 1 (Nat.le_refl _) (by unfold maxLen; omega) rfl, (Below.refl _ _).alloc (Nat.le_refl _) _⟩
  try rw [hW4]
  have hb34 := up_trans hb3 hb4
  have H4 := H3.up hb4
  have kA4 := own_up kA2 hb34
  have kR4 := own_up kR2 hb34
  have hB4 := up_trans hB2 hb34
  have hz2 : w.heap.size + 1 < w2.heap.size := (kR2.lt _ rfl).2
  have hz3 := hb3.size
  have hz4 := hb4.size
  have Hv4 := H2.up hb34
  clear hW4 hcopy e0 e1 e2 e3 e4 e5 H3 H2 hb3 hb4 hb34 kA2 kR2 hB2
  obtain ⟨e0, e1, e2, e3, e4, e5⟩ := (cb_of_rowK kA4).c6
  have hof := of22_any h _ _ _ _ nm W4 Hv4
  cases hme : memS (rnms h.bs) nm
  · rw [idxI_none hme] at hof
    have HI : Hid (SayIs h nm well 3 h) := .inr (.inl ⟨HK.out, hme, rfl, rfl⟩)
    go_upto_region 6 with (go_at_call 114; refine hof.mono ?_; rintro e W5 ⟨rfl, hb5'⟩)
    have kR5 := own_up kR4 hb5'
    have kX5 := own_up kX hb5'
    have H5 := H4.up hb5'
    have hB5 := up_trans hB4 hb5'
    clear hof e0 e1 e2 e3 e4 e5 hb5'
    obtain ⟨x0', x1', x2', x3', x4', x5'⟩ := (cb_of_rowK kX5).c6
    obtain ⟨y0, y1, y2, y3, y4, y5⟩ := (cb_of_rowK kR5).c6
    obtain ⟨f0, f1, f2, f3, f4, f5⟩ := (cb_of_rowK kR5).f6
    go_wp2_with fail; refine end_cb6b Tryz.results95 Tryz.underlying99 rfl sizeHouseS (cb_of_rowK kR5) rfl rfl ?_
    exact ⟨⟨h, _, _, _, _, 3, rfl, HI.out, ⟨hty, by omega, by omega⟩, say_back H5 kR5 (by omega) _ _⟩, below_set6 hB5 (by omega) _ _ _ _ _ _⟩
  obtain ⟨k, x0, hx0, hidx⟩ := idx_found hme
  have HID : Hid (idxI (rnms h.bs) nm = (k : Int)) := hidx
  rw [hidx] at hof
  clear hidx hme
  have Hx0 : Hid (h.bs[k]? = some x0) := hx0
  have hkl : k < h.bs.length := (List.getElem?_eq_some_iff.1 hx0).1
  clear hx0
  go_upto_region 7 with (go_at_call 114; refine hof.mono ?_; rintro e W5 ⟨rfl, hb5'⟩)
  have kA5 := own_up kA4 hb5'
  have kR5 := own_up kR4 hb5'
  have kX5 := own_up kX hb5'
  have H5 := H4.up hb5'
  have Hv5 := Hv4.up hb5'
  have hB5 := up_trans hB4 hb5'
  have hz5 := hb5'.size
  clear hof e0 e1 e2 e3 e4 e5 hb5' kA4 kR4 kX H4 Hv4 hB4
  obtain ⟨-, hpos⟩ := Hv5.x.inv rfl
  obtain ⟨bb, ob, rfl, hSb, hbb⟩ := hpos (by omega)
  obtain ⟨b, o, c, gs, qs, d, ⟨q0, q1', q2', q3', q4', q5'⟩, hv⟩ := (hSb k x0 Hx0.out).open
  obtain ⟨-, -, -, -, e4, -⟩ := (cb_of_rowK kA5).c6
  have hrk := HK.out.batch Hx0.out
  have hrec := hrk.2.1
  obtain ⟨j, hj, hja⟩ := hasB_at hrk.2.2.2.2.1
  have Hph : Hid (phOf x0.ps x0.ad = x0.ps[j]) := phOf_at hj hja
  have np := hv.np
  have hat := fun W (hW : RecAt W b o x0.ps) => at_any x0.ps b o c x0.ad W hW np
  rw [hja] at hat
  have Hat : Hid (∀ W, RecAt W b o x0.ps → Calls Tryz.prog 30 #[.slice (some ⟨b, o, none⟩) x0.ps.length c, .string x0.ad] W fun e w' => e = .returned (.int .i64 (j : Int)) ∧ w' = W) := hat
  obtain ⟨b9, o9, c9, e9, hr, hb, -, -⟩ := hv.r
  simp only [Value.slice.injEq, Option.some.injEq, Addr.mk.injEq, and_true, true_and] at e9
  obtain ⟨⟨rfl, rfl⟩, rfl⟩ := e9
  clear hat hja hrk hSb hpos
  go_upto_region 8 with fail
  obtain ⟨W2, hW2, kL, hb52⟩ : ∃ W2, W5.alloc (.cells #[.string x0.nm, .slice (some ⟨b, o, none⟩) x0.ps.length c, .slice (some ⟨gs, qs, none⟩) x0.sl.length d, .string x0.ad, .int .i64 x0.si, .int .i64 x0.st] 26) = W2 ∧ CB W2 W5.heap.size [.string x0.nm, .slice (some ⟨b, o, none⟩) x0.ps.length c, .slice (some ⟨gs, qs, none⟩) x0.sl.length d, .string x0.ad, .int .i64 x0.si, .int .i64 x0.st] ∧ Below W5.heap.size W5 W2 := ⟨_, rfl, cb_alloc W5 _ _, (Below.refl _ _).alloc (Nat.le_refl _) _⟩
  try rw [hW2]
  clear hW2 q0 q1' q2' q3' q4' q5' e4
  have Hr : Hid (RecAt W2 b o x0.ps) := hr.up hb52 hb
  have hb2 : b < W2.heap.size := Nat.lt_of_lt_of_le hb hb52.size
  have hlt2 : W5.heap.size < W2.heap.size := kL.2.2
  obtain ⟨r0, r1, r2, r3, r4, r5, r6, r7⟩ := Hr.out.cells j hj
  generalize x0.ps[j] = p at *
  have mk : ∀ w', Below W2.heap.size W2 w' → Below W2.heap.size W2 w' ∧ World.cell? w' ⟨W5.heap.size, 1, none⟩ = some (.slice (some ⟨b, o, none⟩) x0.ps.length c) ∧ World.cell? w' ⟨W5.heap.size, 3, none⟩ = some (.string x0.ad) ∧ World.cell? w' ⟨b, o + j * 8, none⟩ = some (.string p.nm) ∧ World.cell? w' ⟨b, o + j * 8 + 1, none⟩ = some (.int .i64 p.k) ∧ World.cell? w' ⟨b, o + j * 8 + 2, none⟩ = some (.string p.a) ∧ World.cell? w' ⟨b, o + j * 8 + 3, none⟩ = some (.string p.b) ∧ World.cell? w' ⟨b, o + j * 8 + 4, none⟩ = some (.int .i64 p.n) ∧ World.cell? w' ⟨b, o + j * 8 + 5, none⟩ = some (.int .i64 p.wi) ∧ World.cell? w' ⟨b, o + j * 8 + 6, none⟩ = some (.string p.t) ∧ World.cell? w' ⟨b, o + j * 8 + 7, none⟩ = some (.string p.e) := fun w' hb' => by
    obtain ⟨z0, z1, z2, z3, z4, z5⟩ := (kL.up hb' hlt2).c6
    exact ⟨hb', z1, z3, (hb'.cell (p := ⟨b, o + j * 8, none⟩) hb2).trans r0, (hb'.cell (p := ⟨b, o + j * 8 + 1, none⟩) hb2).trans r1, (hb'.cell (p := ⟨b, o + j * 8 + 2, none⟩) hb2).trans r2, (hb'.cell (p := ⟨b, o + j * 8 + 3, none⟩) hb2).trans r3, (hb'.cell (p := ⟨b, o + j * 8 + 4, none⟩) hb2).trans r4, (hb'.cell (p := ⟨b, o + j * 8 + 5, none⟩) hb2).trans r5, (hb'.cell (p := ⟨b, o + j * 8 + 6, none⟩) hb2).trans r6, (hb'.cell (p := ⟨b, o + j * 8 + 7, none⟩) hb2).trans r7⟩
  have Mk : Hid (∀ w', Below W2.heap.size W2 w' → Below W2.heap.size W2 w' ∧ World.cell? w' ⟨W5.heap.size, 1, none⟩ = some (.slice (some ⟨b, o, none⟩) x0.ps.length c) ∧ World.cell? w' ⟨W5.heap.size, 3, none⟩ = some (.string x0.ad) ∧ World.cell? w' ⟨b, o + j * 8, none⟩ = some (.string p.nm) ∧ World.cell? w' ⟨b, o + j * 8 + 1, none⟩ = some (.int .i64 p.k) ∧ World.cell? w' ⟨b, o + j * 8 + 2, none⟩ = some (.string p.a) ∧ World.cell? w' ⟨b, o + j * 8 + 3, none⟩ = some (.string p.b) ∧ World.cell? w' ⟨b, o + j * 8 + 4, none⟩ = some (.int .i64 p.n) ∧ World.cell? w' ⟨b, o + j * 8 + 5, none⟩ = some (.int .i64 p.wi) ∧ World.cell? w' ⟨b, o + j * 8 + 6, none⟩ = some (.string p.t) ∧ World.cell? w' ⟨b, o + j * 8 + 7, none⟩ = some (.string p.e)) := mk
  clear mk r0 r1 r2 r3 r4 r5 r6 r7
  go_cut [11] (fun v11 wc => ∃ Y : Nat, v11 = .pointer (some ⟨Y, 0, none⟩) ∧ CB wc Y [.string p.nm, .int .i64 p.k, .string p.a, .string p.b, .int .i64 p.n, .int .i64 p.wi, .string p.t, .string p.e] ∧ Below W2.heap.size W2 wc)
  case first =>
    have hC : Below W2.heap.size W2 W2.drew := (Below.refl _ _).drew
    refine wp_region_x 99 (fun w' => Below W2.heap.size W2 w' ∧ World.cell? w' ⟨W5.heap.size, 1, none⟩ = some (.slice (some ⟨b, o, none⟩) x0.ps.length c) ∧ World.cell? w' ⟨W5.heap.size, 3, none⟩ = some (.string x0.ad) ∧ World.cell? w' ⟨b, o + j * 8, none⟩ = some (.string p.nm) ∧ World.cell? w' ⟨b, o + j * 8 + 1, none⟩ = some (.int .i64 p.k) ∧ World.cell? w' ⟨b, o + j * 8 + 2, none⟩ = some (.string p.a) ∧ World.cell? w' ⟨b, o + j * 8 + 3, none⟩ = some (.string p.b) ∧ World.cell? w' ⟨b, o + j * 8 + 4, none⟩ = some (.int .i64 p.n) ∧ World.cell? w' ⟨b, o + j * 8 + 5, none⟩ = some (.int .i64 p.wi) ∧ World.cell? w' ⟨b, o + j * 8 + 6, none⟩ = some (.string p.t) ∧ World.cell? w' ⟨b, o + j * 8 + 7, none⟩ = some (.string p.e)) (by kernel_rfl) ?_
    generalize W2.drew = X1 at hC ⊢
    have hX : W2.heap.size ≤ X1.heap.size := hC.size
    have hS1 := Mk.out _ hC
    refine tkx 0 rfl hS1 ?_
    refine tkx 1 rfl hS1 ?_
    refine tkx 2 rfl hS1 ?_
    refine tkx 3 rfl hS1 ?_
    refine tkx 4 rfl hS1 ?_
    refine tkx 5 rfl hS1 ?_
    clear hS1
    refine anyX_two (i := 6) (j := 9) (by kernel_rfl) rfl rfl (fun K hK => ?_) (fun K hK => ?_)
    · (go_simp; go_wp2_with (go_at_call 30; refine (Hat.out _ (Hr.out.up hC hb2)).mono ?_; rintro e X2 ⟨rfl, hw⟩; obtain rfl := hw.symm; clear hw); refine hK.out _ _ (fun _ => (Mk.out _ hC)) ?_; clear hK K; (refine tkx 7 rfl (Mk.out _ hC) ?_); (refine tkx 8 rfl (Mk.out _ hC) ?_))
      refine anyX_one (i := 9) (by kernel_rfl) rfl (fun K hK => ?_)
      (go_simp; have kY := cb_alloc X1 [.string ⟨#[]⟩, .int .i64 0, .string ⟨#[]⟩, .string ⟨#[]⟩, .int .i64 0, .int .i64 0, .string ⟨#[]⟩, .string ⟨#[]⟩] 34; replace hC : Below W2.heap.size W2 (X1.alloc (.cells #[.string ⟨#[]⟩, .int .i64 0, .string ⟨#[]⟩, .string ⟨#[]⟩, .int .i64 0, .int .i64 0, .string ⟨#[]⟩, .string ⟨#[]⟩] 34)) := hC.alloc hC.size _; have hy := hX; refine hK.out _ _ (fun _ => (Mk.out _ hC)) ?_; clear hK K; have kY : CB (X1.alloc (.cells #[.string ⟨#[]⟩, .int .i64 0, .string ⟨#[]⟩, .string ⟨#[]⟩, .int .i64 0, .int .i64 0, .string ⟨#[]⟩, .string ⟨#[]⟩] 34)) X1.heap.size [.string ⟨#[]⟩, .int .i64 0, .string ⟨#[]⟩, .string ⟨#[]⟩, .int .i64 0, .int .i64 0, .string ⟨#[]⟩, .string ⟨#[]⟩] := kY; generalize X1.alloc (.cells #[.string ⟨#[]⟩, .int .i64 0, .string ⟨#[]⟩, .string ⟨#[]⟩, .int .i64 0, .int .i64 0, .string ⟨#[]⟩, .string ⟨#[]⟩] 34) = X4 at hC kY ⊢)
      (obtain ⟨⟨j0, j1, j2, j3, j4, j5, j6, j7⟩, m0, m1, m2, m3, m4, m5, m6, m7⟩ := kY.c8; have kF := kY.copy8 (.string p.nm) (.int .i64 p.k) (.string p.a) (.string p.b) (.int .i64 p.n) (.int .i64 p.wi) (.string p.t) (.string p.e); have hF := below_set8 hC hy (.string p.nm) (.int .i64 p.k) (.string p.a) (.string p.b) (.int .i64 p.n) (.int .i64 p.wi) (.string p.t) (.string p.e); refine anyX_one (i := 10) (by kernel_rfl) rfl (fun K hK => ?_); go_simp; refine hK.out _ _ (fun _ => Mk.out _ hF) ?_; clear hK K j0 j1 j2 j3 j4 j5 j6 j7 m0 m1 m2 m3 m4 m5 m6 m7 kY; (try simp only [Act.put, List.setIfInBounds_toArray, List.set_cons_zero, List.set_cons_succ]); refine anyX_done (by kernel_rfl) ?_ _; go_wp2_with fail; go_meet; exact ⟨_, rfl, kF, hF⟩)
    · (go_simp; have kY := cb_alloc X1 [.string ⟨#[]⟩, .int .i64 0, .string ⟨#[]⟩, .string ⟨#[]⟩, .int .i64 0, .int .i64 0, .string ⟨#[]⟩, .string ⟨#[]⟩] 34; replace hC : Below W2.heap.size W2 (X1.alloc (.cells #[.string ⟨#[]⟩, .int .i64 0, .string ⟨#[]⟩, .string ⟨#[]⟩, .int .i64 0, .int .i64 0, .string ⟨#[]⟩, .string ⟨#[]⟩] 34)) := hC.alloc hC.size _; have hy := hX; refine hK.out _ _ (fun _ => (Mk.out _ hC)) ?_; clear hK K; have kY : CB (X1.alloc (.cells #[.string ⟨#[]⟩, .int .i64 0, .string ⟨#[]⟩, .string ⟨#[]⟩, .int .i64 0, .int .i64 0, .string ⟨#[]⟩, .string ⟨#[]⟩] 34)) X1.heap.size [.string ⟨#[]⟩, .int .i64 0, .string ⟨#[]⟩, .string ⟨#[]⟩, .int .i64 0, .int .i64 0, .string ⟨#[]⟩, .string ⟨#[]⟩] := kY; generalize X1.alloc (.cells #[.string ⟨#[]⟩, .int .i64 0, .string ⟨#[]⟩, .string ⟨#[]⟩, .int .i64 0, .int .i64 0, .string ⟨#[]⟩, .string ⟨#[]⟩] 34) = X4 at hC kY ⊢)
      refine anyX_one (i := 6) (by kernel_rfl) rfl (fun K hK => ?_)
      (go_simp; go_wp2_with (go_at_call 30; refine (Hat.out _ (Hr.out.up hC hb2)).mono ?_; rintro e X2 ⟨rfl, hw⟩; obtain rfl := hw.symm; clear hw); refine hK.out _ _ (fun _ => (Mk.out _ hC)) ?_; clear hK K; (refine tkx 7 rfl (Mk.out _ hC) ?_); (refine tkx 8 rfl (Mk.out _ hC) ?_))
      (obtain ⟨⟨j0, j1, j2, j3, j4, j5, j6, j7⟩, m0, m1, m2, m3, m4, m5, m6, m7⟩ := kY.c8; have kF := kY.copy8 (.string p.nm) (.int .i64 p.k) (.string p.a) (.string p.b) (.int .i64 p.n) (.int .i64 p.wi) (.string p.t) (.string p.e); have hF := below_set8 hC hy (.string p.nm) (.int .i64 p.k) (.string p.a) (.string p.b) (.int .i64 p.n) (.int .i64 p.wi) (.string p.t) (.string p.e); refine anyX_one (i := 10) (by kernel_rfl) rfl (fun K hK => ?_); go_simp; refine hK.out _ _ (fun _ => Mk.out _ hF) ?_; clear hK K j0 j1 j2 j3 j4 j5 j6 j7 m0 m1 m2 m3 m4 m5 m6 m7 kY; (try simp only [Act.put, List.setIfInBounds_toArray, List.set_cons_zero, List.set_cons_succ]); refine anyX_done (by kernel_rfl) ?_ _; go_wp2_with fail; go_meet; exact ⟨_, rfl, kF, hF⟩)
  case rest =>
    obtain ⟨Y, rfl, kY, hBc⟩ := hcut
    have h5c := up_trans hb52 hBc
    have kRc := own_up kR5 h5c
    have kXc := own_up kX5 h5c
    have Hc := H5.up h5c
    have hBB := up_trans hB5 h5c
    have hzc := h5c.size
    obtain ⟨-, -, -, -, l4, -⟩ := (kL.up hBc hlt2).c6
    obtain ⟨⟨-, z1, -, -, z4, -, z6, z7⟩, -⟩ := kY.c8
    have hcl : k < h.bs.length := hkl
    clear Mk Hat Hr kL hBc hb52 H5 kA5 kR5 kX5 hr hv kY hB5 Hv5 h5c
    go_upto_region 9 with fail
    go_cut [56] (fun v56 wd => ∃ cb : Bool, v56 = .bool cb ∧ (cb = true → CantGo x0 p well) ∧ (cb = false → ¬ CantGo x0 p well) ∧ wd = wc)
    case first =>
      by_cases hsi : x0.si < 0
      · go_wp2_with fail
        go_meet
        case rel => exact ⟨true, rfl, fun _ => .inl hsi, fun h => (by cases h), rfl⟩
      · cases well
        · go_wp2_with fail
          go_meet
          case rel => exact ⟨false, rfl, fun h => (by cases h), fun _ hc => hc.elim (fun h => by omega) (fun h => by cases h.1), rfl⟩
        · by_cases hk3 : p.k = 3
          · by_cases hn : x0.si < p.n
            · go_wp2_with fail
              go_meet
              case rel => exact ⟨true, rfl, fun _ => .inr ⟨rfl, hk3, hn⟩, fun h => (by cases h), rfl⟩
            · go_wp2_with fail
              go_meet
              case rel => exact ⟨false, rfl, fun h => (by cases h), fun _ hc => hc.elim (fun h => by omega) (fun h => by omega), rfl⟩
          · go_wp2_with fail
            go_meet
            case rel => exact ⟨false, rfl, fun h => (by cases h), fun _ hc => hc.elim (fun h => by omega) (fun h => by omega), rfl⟩
    case rest =>
      obtain ⟨cb, rfl, hc1, hc0, rfl⟩ := hcut
      cases cb
      case true =>
        have HI : Hid (SayIs h nm well 6 h) := .inr (.inr ⟨k, x0, HK.out, Hx0.out, HID.out, .inl ⟨by rw [Hph.out]; exact hc1 rfl, rfl, rfl⟩⟩)
        obtain ⟨x0', x1', x2', x3', x4', x5'⟩ := (cb_of_rowK kXc).c6
        obtain ⟨y0, y1, y2, y3, y4, y5⟩ := (cb_of_rowK kRc).c6
        obtain ⟨f0, f1, f2, f3, f4, f5⟩ := (cb_of_rowK kRc).f6
        go_wp2_with fail; refine end_cb6b Tryz.results95 Tryz.underlying99 rfl sizeHouseS (cb_of_rowK kRc) rfl rfl ?_
        exact ⟨⟨h, _, _, _, _, 6, rfl, HI.out, ⟨hty, by omega, by omega⟩, say_back Hc kRc (by omega) _ _⟩, below_set6 hBB (by omega) _ _ _ _ _ _⟩
      case false =>
        have hng := hc0 rfl
        obtain ⟨hl1, hl2, hl3, -, hl4, -⟩ := on_facts (h := h) (k := k) (nm := toOf p well) hkl
        have hon := on23_any h _ _ _ _ w2.heap.size k x0 (toOf p well) wc Hc (by omega) hty Hx0.out hrec (by omega) (by omega)
        have HTI : Hid (∀ h', AsksTo (onH h k (toOf p well)) (onH h k (toOf p well)).bs.length h' → SayIs h nm well 0 h') := fun h' ha => .inr (.inr ⟨k, x0, HK.out, Hx0.out, HID.out, .inr ⟨by rw [Hph.out]; exact hng, rfl, by rw [Hph.out]; exact ha⟩⟩)
        generalize onH h k (toOf p well) = L at *
        have hl5 : L.ds.length ≤ 20 := hl3 hd20
        have HAsk : Hid (∀ (w5 : World) (t5 b5 x5 d5 : Value), HW w5 w2.heap.size L t5 b5 x5 d5 → w2.heap.size ≤ w5.heap.size → Tiny L.sh → Calls Tryz.prog 113 #[.agg #[.int .i64 h.now, .int .i64 h.last, t5, b5, x5, d5]] w5 fun e w' => (∃ h' tu bu, e = .returned (.agg #[.int .i64 h.now, .int .i64 h.last, tu, bu, x5, d5]) ∧ AsksTo L L.bs.length h' ∧ Tiny h'.sh ∧ HW w' w2.heap.size h' tu bu x5 d5) ∧ w5.grownBy w' x5.ownBlock) := fun w5 t5 b5 x5 d5 h1 h2 h3 => by
          have := asks23_any L t5 b5 x5 d5 w2.heap.size w5 h1 h2 h3
          rw [hl1, hl2] at this; exact this
        have HCop : Hid (∀ (w6 : World) (h' : House) (t5 b5 x5 d5 : Value), HV w6 h' t5 b5 x5 d5 → AsksTo L L.bs.length h' → Tiny h'.sh → Few h' ∧ Calls Tryz.prog 111 #[.agg #[.int .i64 h.now, .int .i64 h.last, t5, b5, x5, d5]] w6 fun e w' => (∃ tu bu xu du, e = .returned (.agg #[.int .i64 h'.now, .int .i64 h'.last, tu, bu, xu, du]) ∧ HW w' w6.heap.size h' tu bu xu du) ∧ Below w6.heap.size w6 w') := fun w6 h' t5 b5 x5 d5 h1 h2 h3 => by
          obtain ⟨s1, s2, s3, s4⟩ := h2.same
          have hd : h'.ds.length ≤ 20 := by rw [s3]; exact hl5
          refine ⟨⟨h3, by omega, by omega⟩, ?_⟩
          have := copy22_any h' t5 b5 x5 d5 w6 h1 (by have := h3.1; omega) (by have := h3.2.1; omega) (fun y hy => by have := h3.2.2 y hy; omega) (by omega) (by omega)
          rw [s1, s2, hl1, hl2] at this
          rw [s1, s2, hl1, hl2]; exact this
        obtain ⟨ps, hW, -⟩ := Hc.x
        have Hrow : Hid (wc.ownsRow w2.heap.size 26 6 (.slice p3 h.bs.length q3) ps.length (rowsF rowR ps)) := hW.1
        have Hd : Hid (DnsW wc w2.heap.size (.slice p4 h.ds.length q4) h.ds) := Hc.d
        have Hxb : Hid _ := Hc.xb
        have Hdb : Hid _ := Hc.db
        have hz := hBB.size
        have hwr : w2.heap.size ≤ wc.heap.size := by omega
        obtain ⟨x0', x1', x2', x3', x4', x5'⟩ := (cb_of_rowK kXc).c6
        clear hW hl1 hl2 hl3 hl4 hl5
        cases well
        case false =>
          have hon : Calls Tryz.prog 115 #[.agg #[.int .i64 h.now, .int .i64 h.last, .slice p1 h.sh.things.length q1, .slice p2 h.sh.bs.length q2, .slice p3 h.bs.length q3, .slice p4 h.ds.length q4], .int .i64 k, .string p.e] wc _ := hon
          (go_wp2_with (first | (go_at_call 115; refine hon.mono ?_; rintro e w5 ⟨⟨t5, b5, x5, d5, rfl, hT5, H5, -, -⟩, hG5⟩; have kR5 := row_g2 kRc hG5 Hrow.out Hd.out (by decide) (by decide); have hB5 := hBB.trans (hG5.below hz (fun k e => by have := Hxb.out k e; omega) (fun k e => by have := Hdb.out k e; omega)); have hz5 := hG5.size) | (go_at_call 113; refine (HAsk.out w5 t5 b5 x5 d5 H5 (Nat.le_trans hwr hz5) hT5).mono ?_; rintro e w6 ⟨⟨h6, t6, b6, rfl, ha6, hT6, H6⟩, hG6⟩; obtain ⟨ps5, hW5, -⟩ := H5.x; have kR6 := own_keep2 kR5 hG6 (own_apart2 kR5 hW5.1 (by decide)); have hB6 := hB5.trans (gr_below hG6 (Nat.le_trans hz hz5) (fun k e => by have := H5.xb k e; omega))) | (go_at_call 111; obtain ⟨hfew, hc6⟩ := HCop.out w6 h6 t6 b6 x5 d5 H6.v ha6 hT6; refine hc6.mono ?_; rintro e w7 ⟨⟨t7, b7, x7, d7, rfl, H7⟩, hb7⟩; have kR7 := own_up kR6 hb7; have hB7 := up_trans hB6 hb7; obtain ⟨u1, v1, u2, v2, u3, v3, u4, v4, rfl, rfl, rfl, rfl⟩ := H7.v.shapes; obtain ⟨y0, y1, y2, y3, y4, y5⟩ := (cb_of_rowK kR7).c6; obtain ⟨f0, f1, f2, f3, f4, f5⟩ := (cb_of_rowK kR7).f6)); refine end_cb6b Tryz.results95 Tryz.underlying99 rfl sizeHouseS (cb_of_rowK kR7) rfl rfl ?_; exact ⟨⟨h6, _, _, _, _, 0, rfl, HTI.out h6 ha6, hfew, say_back H7 kR7 hB6.size _ _⟩, below_set6 hB7 (by omega) _ _ _ _ _ _⟩)
        case true =>
          have hon : Calls Tryz.prog 115 #[.agg #[.int .i64 h.now, .int .i64 h.last, .slice p1 h.sh.things.length q1, .slice p2 h.sh.bs.length q2, .slice p3 h.bs.length q3, .slice p4 h.ds.length q4], .int .i64 k, .string p.t] wc _ := hon
          (go_wp2_with (first | (go_at_call 115; refine hon.mono ?_; rintro e w5 ⟨⟨t5, b5, x5, d5, rfl, hT5, H5, -, -⟩, hG5⟩; have kR5 := row_g2 kRc hG5 Hrow.out Hd.out (by decide) (by decide); have hB5 := hBB.trans (hG5.below hz (fun k e => by have := Hxb.out k e; omega) (fun k e => by have := Hdb.out k e; omega)); have hz5 := hG5.size) | (go_at_call 113; refine (HAsk.out w5 t5 b5 x5 d5 H5 (Nat.le_trans hwr hz5) hT5).mono ?_; rintro e w6 ⟨⟨h6, t6, b6, rfl, ha6, hT6, H6⟩, hG6⟩; obtain ⟨ps5, hW5, -⟩ := H5.x; have kR6 := own_keep2 kR5 hG6 (own_apart2 kR5 hW5.1 (by decide)); have hB6 := hB5.trans (gr_below hG6 (Nat.le_trans hz hz5) (fun k e => by have := H5.xb k e; omega))) | (go_at_call 111; obtain ⟨hfew, hc6⟩ := HCop.out w6 h6 t6 b6 x5 d5 H6.v ha6 hT6; refine hc6.mono ?_; rintro e w7 ⟨⟨t7, b7, x7, d7, rfl, H7⟩, hb7⟩; have kR7 := own_up kR6 hb7; have hB7 := up_trans hB6 hb7; obtain ⟨u1, v1, u2, v2, u3, v3, u4, v4, rfl, rfl, rfl, rfl⟩ := H7.v.shapes; obtain ⟨y0, y1, y2, y3, y4, y5⟩ := (cb_of_rowK kR7).c6; obtain ⟨f0, f1, f2, f3, f4, f5⟩ := (cb_of_rowK kR7).f6)); refine end_cb6b Tryz.results95 Tryz.underlying99 rfl sizeHouseS (cb_of_rowK kR7) rfl rfl ?_; exact ⟨⟨h6, _, _, _, _, 0, rfl, HTI.out h6 ha6, hfew, say_back H7 kR7 hB6.size _ _⟩, below_set6 hB7 (by omega) _ _ _ _ _ _⟩)
end Go.Proofs.YtliebjbbomghiaaGreatDoor
