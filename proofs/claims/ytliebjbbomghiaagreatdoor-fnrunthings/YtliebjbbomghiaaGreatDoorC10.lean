/- The specification's RunStart (chapter 23). -/
import Derived.Test.YtliebjbbomghiaaGreatDoorC8
import Derived.Test.YtliebjbbomghiaaGreatDoorKt7
namespace Go.Proofs.YtliebjbbomghiaaGreatDoor
open Go.RowKit

/-- A batch that begins. -/
def newB (h : House) (nm : ByteArray) (ps : List Ph) (sl : List Sl) : Rb := ⟨nm, ps, sl, fstN ps, -1, h.last + 1⟩
def CanBegin (nm : ByteArray) (ps : List Ph) (sl : List Sl) : Prop := recB ps = true ∧ SlotsOk ps sl ∧ nameB nm = true
noncomputable def startC (h : House) (nm : ByteArray) (ps : List Ph) (sl : List Sl) : Int := enterC h.sh nm (rbThings (newB h nm ps sl) (fstN ps))
noncomputable def startH (h : House) (nm : ByteArray) (ps : List Ph) (sl : List Sl) : House := { h with last := h.last + 1, sh := enterB h.sh nm (rbThings (newB h nm ps sl) (fstN ps)), bs := h.bs ++ [newB h nm ps sl] }
/-- What beginning gives. -/
def StartIs (h : House) (nm : ByteArray) (ps : List Ph) (sl : List Sl) (cd : Int) (h' : House) : Prop :=
  (¬ HouseOk h ∧ cd = 1 ∧ h' = noHouse) ∨ (HouseOk h ∧ ¬ CanBegin nm ps sl ∧ cd = 2 ∧ h' = h) ∨
  (HouseOk h ∧ CanBegin nm ps sl ∧ startC h nm ps sl ≠ 0 ∧ cd = startC h nm ps sl ∧ h' = h) ∨
  (HouseOk h ∧ CanBegin nm ps sl ∧ startC h nm ps sl = 0 ∧ 1000000 ≤ h.last ∧ cd = 4 ∧ h' = h) ∨
  (HouseOk h ∧ CanBegin nm ps sl ∧ startC h nm ps sl = 0 ∧ ¬ 1000000 ≤ h.last ∧ cd = 0 ∧ AsksTo (startH h nm ps sl) (startH h nm ps sl).bs.length h')
theorem rbV_as {w : World} {x y : Rb} {rv sv : Value} (h : RbV w x rv sv) (h1 : y.ps = x.ps) (h2 : y.sl = x.sl) (h3 : y.nm = x.nm) : RbV w y rv sv :=
  ⟨by rw [h1]; exact h.r, by rw [h2]; exact h.s, by rw [h1]; exact h.zp, by rw [h2]; exact h.zs, by rw [h3]; exact h.zn, by rw [h1]; exact h.np, by rw [h2]; exact h.ns⟩
/-- What beginning has made so far: the batch's lists, its place. -/
structure NB (W : World) (x : Rb) (X : World) (k11 : Option (Value × Value)) (k12 : Option Nat) : Prop where
  B : Below W.heap.size W X
  s11 : ∀ r, k11 = some r → RcW X W.heap.size (x, r.1, r.2)
  s12 : ∀ y, k12 = some y → X.ownsRow W.heap.size 26 6 (.slice (some ⟨y, 0, none⟩) 1 1) 1 [.string ⟨#[]⟩, .slice none 0 0, .slice none 0 0, .string ⟨#[]⟩, .int .i64 0, .int .i64 0]
theorem nb_nil (W : World) (x : Rb) : NB W x W none none := ⟨Below.refl _ _, fun _ h => (by cases h), fun _ h => (by cases h)⟩
theorem NB.up {W X X' : World} {x : Rb} {k11 : Option (Value × Value)} {k12 : Option Nat} (H : NB W x X k11 k12) (hb : Below X.heap.size X X') : NB W x X' k11 k12 :=
  ⟨up_trans H.B hb, fun r e => (H.s11 r e).up hb, fun y e => own_up (H.s12 y e) hb⟩
theorem NB.call {W X X' : World} {x : Rb} {k11 : Option (Value × Value)} {k12 : Option Nat} {ru su : Value} (H : NB W x X k11 k12) (hb : Below X.heap.size X X') (hv : RcW X' X.heap.size (x, ru, su)) : NB W x X' (some (ru, su)) k12 :=
  { H.up hb with s11 := fun r e => by cases e; exact hv.low H.B.size }
theorem NB.new {W X : World} {x : Rb} {k11 : Option (Value × Value)} {k12 : Option Nat} (H : NB W x X k11 k12) : NB W x (X.alloc (.cells #[.string ⟨#[]⟩, .slice none 0 0, .slice none 0 0, .string ⟨#[]⟩, .int .i64 0, .int .i64 0] 26)) k11 (some X.heap.size) :=
  { H.up ((Below.refl _ _).alloc (Nat.le_refl _) _) with s12 := fun u e => by cases e; exact World.ownsRow_lit X _ 1 H.B.size (by unfold maxLen; omega) rfl }
theorem NB.fin {W X : World} {x : Rb} {ru su : Value} {y : Nat} (H : NB W x X (some (ru, su)) (some y)) : Below W.heap.size W ((((((X.setCell ⟨y, 0, none⟩ (.string x.nm)).setCell ⟨y, 1, none⟩ ru).setCell ⟨y, 2, none⟩ su).setCell ⟨y, 3, none⟩ (.string x.ad)).setCell ⟨y, 4, none⟩ (.int .i64 x.si)).setCell ⟨y, 5, none⟩ (.int .i64 x.st)) ∧ (((((((X.setCell ⟨y, 0, none⟩ (.string x.nm)).setCell ⟨y, 1, none⟩ ru).setCell ⟨y, 2, none⟩ su).setCell ⟨y, 3, none⟩ (.string x.ad)).setCell ⟨y, 4, none⟩ (.int .i64 x.si)).setCell ⟨y, 5, none⟩ (.int .i64 x.st))).ownsRow W.heap.size 26 6 (.slice (some ⟨y, 0, none⟩) 1 1) 1 (rowR (x, ru, su)) ∧ RcW ((((((X.setCell ⟨y, 0, none⟩ (.string x.nm)).setCell ⟨y, 1, none⟩ ru).setCell ⟨y, 2, none⟩ su).setCell ⟨y, 3, none⟩ (.string x.ad)).setCell ⟨y, 4, none⟩ (.int .i64 x.si)).setCell ⟨y, 5, none⟩ (.int .i64 x.st)) W.heap.size (x, ru, su) := by
  have h12 := H.s12 y rfl
  have h1 := World.ownsRow.stored h12 0 (.string x.nm)
  have h2 := World.ownsRow.stored h1.1 1 ru
  have h3 := World.ownsRow.stored h2.1 2 su
  have h4 := World.ownsRow.stored h3.1 3 (.string x.ad)
  have h5 := World.ownsRow.stored h4.1 4 (.int .i64 x.si)
  have h6 := World.ownsRow.stored h5.1 5 (.int .i64 x.st)
  have hg : X.grownBy ((((((X.setCell ⟨y, 0, none⟩ (.string x.nm)).setCell ⟨y, 1, none⟩ ru).setCell ⟨y, 2, none⟩ su).setCell ⟨y, 3, none⟩ (.string x.ad)).setCell ⟨y, 4, none⟩ (.int .i64 x.si)).setCell ⟨y, 5, none⟩ (.int .i64 x.st)) (Value.slice (some ⟨y, 0, none⟩) 1 1).ownBlock := grown_trans (grown_trans (grown_trans (grown_trans (grown_trans h1.2 h2.2) h3.2) h4.2) h5.2) h6.2
  exact ⟨below_ownB H.B H.B.size h12 hg (Nat.le_refl _), h6.1, (H.s11 _ rfl).step h12 (by decide) (by decide) hg⟩
/-- What coming has made so far: the things, the book, its place. -/
structure EN (W : World) (h : House) (x : Rb) (X : World) (k6 k7 : Option Value) (k11 : Option Nat) : Prop where
  B : Below W.heap.size W X
  s6 : ∀ v, k6 = some v → Txt X v (rbThings x x.ad)
  s7 : ∀ v, k7 = some v → BkW X W.heap.size v (enterB h.sh x.nm (rbThings x x.ad))
  s11 : ∀ y, k11 = some y → X.ownsRow W.heap.size 95 2 (.slice (some ⟨y, 0, none⟩) 1 1) 1 [.slice none 0 0, .slice none 0 0]
theorem en_nil (W : World) (h : House) (x : Rb) : EN W h x W none none none := ⟨Below.refl _ _, fun _ h => (by cases h), fun _ h => (by cases h), fun _ h => (by cases h)⟩
theorem EN.up {W X X' : World} {h : House} {x : Rb} {k6 k7 : Option Value} {k11 : Option Nat} (H : EN W h x X k6 k7 k11) (hb : Below X.heap.size X X') : EN W h x X' k6 k7 k11 :=
  ⟨up_trans H.B hb, fun v e => (H.s6 v e).up hb, fun v e => (H.s7 v e).up hb, fun y e => own_up (H.s11 y e) hb⟩
theorem EN.c6 {W X X' : World} {h : House} {x : Rb} {k6 k7 : Option Value} {k11 : Option Nat} {v : Value} (H : EN W h x X k6 k7 k11) (hb : Below X.heap.size X X') (hv : Txt X' v (rbThings x x.ad)) : EN W h x X' (some v) k7 k11 :=
  { H.up hb with s6 := fun u e => by cases e; exact hv }
theorem EN.c7 {W X X' : World} {h : House} {x : Rb} {k6 k7 : Option Value} {k11 : Option Nat} {v : Value} (H : EN W h x X k6 k7 k11) (hb : Below X.heap.size X X') (hv : BkW X' X.heap.size v (enterB h.sh x.nm (rbThings x x.ad))) : EN W h x X' k6 (some v) k11 :=
  { H.up hb with s7 := fun u e => by cases e; exact hv.low H.B.size }
theorem EN.c11 {W X : World} {h : House} {x : Rb} {k6 k7 : Option Value} {k11 : Option Nat} (H : EN W h x X k6 k7 k11) : EN W h x (X.alloc (.cells #[.slice none 0 0, .slice none 0 0] 95)) k6 k7 (some X.heap.size) :=
  { H.up ((Below.refl _ _).alloc (Nat.le_refl _) _) with s11 := fun u e => by cases e; exact World.ownsRow_lit X _ 1 H.B.size (by unfold maxLen; omega) rfl }
theorem EN.fin {W X : World} {h : House} {x : Rb} {k6 : Option Value} {tu bu : Value} {y : Nat} (H : EN W h x X k6 (some (.agg #[tu, bu])) (some y)) :
    Below W.heap.size W ((X.setCell ⟨y, 0, none⟩ tu).setCell ⟨y, 1, none⟩ bu) ∧ BkW ((X.setCell ⟨y, 0, none⟩ tu).setCell ⟨y, 1, none⟩ bu) W.heap.size (.agg #[tu, bu]) (enterB h.sh x.nm (rbThings x x.ad)) ∧ CB ((X.setCell ⟨y, 0, none⟩ tu).setCell ⟨y, 1, none⟩ bu) y [tu, bu] := by
  have h18 := H.s11 y rfl
  have h1 := World.ownsRow.stored h18 0 tu
  have h2 := World.ownsRow.stored h1.1 1 bu
  have hg : X.grownBy ((X.setCell ⟨y, 0, none⟩ tu).setCell ⟨y, 1, none⟩ bu) (Value.slice (some ⟨y, 0, none⟩) 1 1).ownBlock := grown_trans h1.2 h2.2
  exact ⟨below_ownB H.B H.B.size h18 hg (Nat.le_refl _), (H.s7 _ rfl).step h18 (by decide) (by decide) hg, cb_of_rowK h2.1⟩
/-- A batch comes to a house. -/
theorem HW.comes {w w' : World} {base : Nat} {h : House} {tv bv xv dv tu bu xu ru su : Value} {b' : Bk} {x : Rb} {ps : List Rv} (H : HW w base h tv bv xv dv) (hW : RbsW w base xv ps) (hm : ps.map (·.1) = h.bs) (hb : BkW w base (.agg #[tu, bu]) b') (hz : Szb b') (hx : RcW w base (x, ru, su)) (hg : w.grownBy w' xv.ownBlock) (ho : w'.ownsRow base 26 6 xu (ps.length + 1) (rowsF rowR ps ++ rowR (x, ru, su))) (l : Int) :
    HW w' base { h with last := l, sh := b', bs := h.bs ++ [x] } tu bu xu dv :=
  ⟨hb.step hW.1 (by decide) (by decide) hg, hz, ⟨_, hW.app hx hg ho, by rw [List.map_append, hm]; rfl⟩, H.d.step hW.1 (by decide) hg⟩

theorem start_back {w W : World} {base : Nat} {h : House} {tv bv xv dv : Value} (H : HW W base h tv bv xv dv) (kR : W.ownsRow w.heap.size 99 6 (.slice (some ⟨w.heap.size + 1, 0, none⟩) 1 1) 1 [.int .i64 0, .int .i64 0, .slice none 0 0, .slice none 0 0, .slice none 0 0, .slice none 0 0]) (hb : w.heap.size ≤ base) (y0 y1 : Value) : HX ((((((W.setCell ⟨w.heap.size + 1, 0, none⟩ y0).setCell ⟨w.heap.size + 1, 1, none⟩ y1).setCell ⟨w.heap.size + 1, 2, none⟩ tv).setCell ⟨w.heap.size + 1, 3, none⟩ bv).setCell ⟨w.heap.size + 1, 4, none⟩ xv).setCell ⟨w.heap.size + 1, 5, none⟩ dv) w.heap.size h tv bv xv dv :=
  .inl ((H.box kR (grown_set6 W (w.heap.size + 1) y0 y1 tv bv xv dv)).low hb)
set_option maxRecDepth 20000 in
set_option maxHeartbeats 8000000 in
theorem startS_any (h : House) (tv bv xv dv : Value) (nm : ByteArray) (ps : List Ph) (sl : List Sl) (rv sv : Value) (w : World) (H : HV w h tv bv xv dv) (hR : RbV w (newB h nm ps sl) rv sv) :
    Calls Tryz.prog 94 #[.agg #[.int .i64 h.now, .int .i64 h.last, tv, bv, xv, dv], .string nm, rv, sv] w fun e w' => (∃ h' tu bu xu du cd, e = .returned (.tuple #[.agg #[.int .i64 h'.now, .int .i64 h'.last, tu, bu, xu, du], .int .i64 cd]) ∧ StartIs h nm ps sl cd h' ∧ Few h' ∧ HX w' w.heap.size h' tu bu xu du) ∧ Below w.heap.size w w' := by
  obtain ⟨rb, ro, rc, erv, hr0, hrb, -, -⟩ := hR.r
  obtain ⟨sb, so, sc, esv, hs0, hsb⟩ := hR.s
  have erv : rv = .slice (some ⟨rb, ro, none⟩) ps.length rc := erv
  have esv : sv = .slice (some ⟨sb, so, none⟩) sl.length sc := esv
  subst erv esv
  have hr0 : RecAt w rb ro ps := hr0
  have hs0 : SlAt w sb so sl := hs0
  have hzp : Sized ps := hR.zp
  have hzs : ∀ y ∈ sl, y.s.size ≤ maxLen ∧ y.t.size ≤ maxLen := hR.zs
  have hzn : nm.size ≤ maxLen := hR.zn
  have hnp : ps.length ≤ 1048576 := hR.np
  have hnl : sl.length ≤ 1048576 := hR.ns
  obtain ⟨a1, c1, a2, c2, a3, c3, a4, c4, rfl, rfl, rfl, rfl⟩ := H.shapes
  obtain ⟨W1, hW1, kA, kR, hB1⟩ : ∃ W1, (w.alloc (.cells #[.int .i64 h.now, .int .i64 h.last, .slice a1 h.sh.things.length c1, .slice a2 h.sh.bs.length c2, .slice a3 h.bs.length c3, .slice a4 h.ds.length c4] 99)).alloc (.cells #[.int .i64 0, .int .i64 0, .slice none 0 0, .slice none 0 0, .slice none 0 0, .slice none 0 0] 99) = W1 ∧ W1.ownsRow w.heap.size 99 6 (.slice (some ⟨w.heap.size, 0, none⟩) 1 1) 1 [.int .i64 h.now, .int .i64 h.last, .slice a1 h.sh.things.length c1, .slice a2 h.sh.bs.length c2, .slice a3 h.bs.length c3, .slice a4 h.ds.length c4] ∧ W1.ownsRow w.heap.size 99 6 (.slice (some ⟨w.heap.size + 1, 0, none⟩) 1 1) 1 [.int .i64 0, .int .i64 0, .slice none 0 0, .slice none 0 0, .slice none 0 0, .slice none 0 0] ∧ Below w.heap.size w W1 := ⟨_, rfl, two_rows w [.int .i64 h.now, .int .i64 h.last, .slice a1 h.sh.things.length c1, .slice a2 h.sh.bs.length c2, .slice a3 h.bs.length c3, .slice a4 h.ds.length c4] [.int .i64 0, .int .i64 0, .slice none 0 0, .slice none 0 0, .slice none 0 0, .slice none 0 0] rfl rfl⟩
  go_enter Tryz.func94, Tryz.ntmps94
  go_upto_region 1 with fail
  try rw [hW1]
  clear hW1
  have H1 := H.up hB1
  obtain ⟨e0, e1, e2, e3, e4, e5⟩ := (cb_of_rowK kA).c6
  have hcall := houseOkS_any h _ _ _ _ W1 H1
  by_cases hk : HouseOk h
  case neg =>
    rw [pB_no hk] at hcall
    have HI : Hid (StartIs h nm ps sl 1 noHouse) := .inl ⟨hk, rfl, rfl⟩
    go_upto_region 2 with (go_at_call 110; refine hcall.mono ?_; rintro e w2 ⟨rfl, hb2⟩)
    have kR2 := own_up kR hb2
    obtain ⟨y0, y1, y2, y3, y4, y5⟩ := (cb_of_rowK kR2).c6
    obtain ⟨f0, f1, f2, f3, f4, f5⟩ := (cb_of_rowK kR2).f6
    have hB2 := up_trans hB1 hb2
    clear hcall hb2
    go_wp2_with fail
    refine end_cb6b Tryz.results94 Tryz.underlying99 rfl sizeHouseS (cb_of_rowK kR2) rfl rfl ?_
    exact ⟨⟨noHouse, _, _, _, _, 1, rfl, HI.out, few_none, hx_none _ _⟩, below_set6 hB2 (by omega) _ _ _ _ _ _⟩
  have HK : Hid (HouseOk h) := hk
  obtain ⟨hty, hb5, hd20⟩ := hk.tiny
  rw [pB_yes hk] at hcall
  clear hk
  go_upto_region 3 with (go_at_call 110; refine hcall.mono ?_; rintro e w2 ⟨rfl, hb2⟩)
  have kA2 := own_up kA hb2
  have kR2 := own_up kR hb2
  have hB2 := up_trans hB1 hb2
  have H2 := H1.up hb2
  clear hcall hb2 e0 e1 e2 e3 e4 e5 kA kR H1 H hB1
  obtain ⟨e0, e1, e2, e3, e4, e5⟩ := (cb_of_rowK kA2).c6
  have hcopy := copy22_any h _ _ _ _ w2 H2 (by have := hty.1; omega) (by have := hty.2.1; omega) (fun y hy => by have := hty.2.2 y hy; omega) (by omega) (by omega)
  go_upto_region 4 with (go_at_call 111; refine hcopy.mono ?_; rintro e w3 ⟨⟨tu, bu, xu, du, rfl, H3⟩, hb3⟩; obtain ⟨p1, q1, p2, q2, p3, q3, p4, q4, rfl, rfl, rfl, rfl⟩ := H3.v.shapes)
  obtain ⟨W4, hW4, kX, hb4⟩ : ∃ W4, w3.alloc (.cells #[.int .i64 h.now, .int .i64 h.last, .slice p1 h.sh.things.length q1, .slice p2 h.sh.bs.length q2, .slice p3 h.bs.length q3, .slice p4 h.ds.length q4] 99) = W4 ∧ W4.ownsRow w3.heap.size 99 6 (.slice (some ⟨w3.heap.size, 0, none⟩) 1 1) 1 [.int .i64 h.now, .int .i64 h.last, .slice p1 h.sh.things.length q1, .slice p2 h.sh.bs.length q2, .slice p3 h.bs.length q3, .slice p4 h.ds.length q4] ∧ Below w3.heap.size w3 W4 := ⟨_, rfl, World.ownsRow_lit w3 _ 1 (Nat.le_refl _) (by unfold maxLen; omega) rfl, (Below.refl _ _).alloc (Nat.le_refl _) _⟩
  try rw [hW4]
  have hb34 := up_trans hb3 hb4
  have H4 := H3.up hb4
  have kA4 := own_up kA2 hb34
  have kR4 := own_up kR2 hb34
  have hB4 := up_trans hB2 hb34
  have hz2 : w.heap.size + 1 < w2.heap.size := (kR2.lt _ rfl).2
  have hz3 := hb3.size
  have hz4 := hb4.size
  clear hW4 hcopy e0 e1 e2 e3 e4 e5 H3 H2 hb3 hb4 hb34 kA2 kR2 hB2
  have HR4 : Hid (RbV W4 (newB h nm ps sl) (.slice (some ⟨rb, ro, none⟩) ps.length rc) (.slice (some ⟨sb, so, none⟩) sl.length sc)) := hR.up hB4
  have hr4 := hr0.up hB4 hrb
  have hs4 := hs0.up hB4 hsb
  have hz0 := hB4.size
  have hrb4 : rb < W4.heap.size := by omega
  have hsb4 : sb < W4.heap.size := by omega
  clear hR hr0 hs0
  go_cut [33] (fun v33 wc => ∃ cb : Bool, v33 = .bool cb ∧ (cb = true → ¬ CanBegin nm ps sl) ∧ (cb = false → CanBegin nm ps sl) ∧ Below W4.heap.size W4 wc)
  case first =>
    have hc1 := specOk_any ps rb ro rc W4 hr4 hrb4 hzp hnp
    by_cases h1 : recB ps = true
    · rw [h1] at hc1
      have HC2 : Hid (∀ W, Below W4.heap.size W4 W → Calls Tryz.prog 29 #[.slice (some ⟨rb, ro, none⟩) ps.length rc, .slice (some ⟨sb, so, none⟩) sl.length sc] W fun e w' => e = .returned (.bool (pB (SlotsOk ps sl))) ∧ Below W.heap.size W w') := fun W hW => slotsOkS_any ps sl rb ro rc sb so sc W (hr4.up hW hrb4) (Nat.lt_of_lt_of_le hrb4 hW.size) h1 (hs4.up hW hsb4) (Nat.lt_of_lt_of_le hsb4 hW.size) hnl hzs
      by_cases h2 : SlotsOk ps sl
      · rw [pB_yes h2] at HC2
        cases h3 : nameB nm
        · go_wp2_with (first | (go_at_call 28; refine hc1.mono ?_; rintro e x1 ⟨rfl, hx1⟩) | (go_at_call 29; refine (HC2.out _ hx1).mono ?_; rintro e x2 ⟨rfl, hx2⟩; have hx12 := up_trans hx1 hx2) | (go_at_call 27; refine (specNameB nm _ hzn).mono ?_; rw [h3]; rintro e x3 ⟨rfl, hx3⟩; have hx13 := up_trans hx12 hx3))
          go_meet
          case rel => exact ⟨true, rfl, fun _ hc => (by rw [hc.2.2] at h3; cases h3), fun h => (by cases h), hx13⟩
        · go_wp2_with (first | (go_at_call 28; refine hc1.mono ?_; rintro e x1 ⟨rfl, hx1⟩) | (go_at_call 29; refine (HC2.out _ hx1).mono ?_; rintro e x2 ⟨rfl, hx2⟩; have hx12 := up_trans hx1 hx2) | (go_at_call 27; refine (specNameB nm _ hzn).mono ?_; rw [h3]; rintro e x3 ⟨rfl, hx3⟩; have hx13 := up_trans hx12 hx3))
          go_meet
          case rel => exact ⟨false, rfl, fun h => (by cases h), fun _ => ⟨h1, h2, h3⟩, hx13⟩
      · rw [pB_no h2] at HC2
        go_wp2_with (first | (go_at_call 28; refine hc1.mono ?_; rintro e x1 ⟨rfl, hx1⟩) | (go_at_call 29; refine (HC2.out _ hx1).mono ?_; rintro e x2 ⟨rfl, hx2⟩; have hx12 := up_trans hx1 hx2))
        go_meet
        case rel => exact ⟨true, rfl, fun _ hc => h2 hc.2.1, fun h => (by cases h), hx12⟩
    · have h1' : recB ps = false := by simpa using h1
      rw [h1'] at hc1
      go_wp2_with (go_at_call 28; refine hc1.mono ?_; rintro e x1 ⟨rfl, hx1⟩)
      go_meet
      case rel => exact ⟨true, rfl, fun _ hc => h1 hc.1, fun h => (by cases h), hx1⟩
  case rest =>
    obtain ⟨cb, rfl, hcb1, hcb0, hBc⟩ := hcut
    obtain ⟨wa, rfl⟩ : ∃ wa, wa = wc := ⟨_, rfl⟩
    have kR5 := own_up kR4 hBc
    have kX5 := own_up kX hBc
    have kA5 := own_up kA4 hBc
    have H5 := H4.up hBc
    have hB5 := up_trans hB4 hBc
    have HR5 : Hid (RbV wa (newB h nm ps sl) (.slice (some ⟨rb, ro, none⟩) ps.length rc) (.slice (some ⟨sb, so, none⟩) sl.length sc)) := HR4.out.up hBc
    have hr5 := hr4.up hBc hrb4
    have hz5 := hBc.size
    have hrb5 : rb < wa.heap.size := by omega
    clear hr4 hs4 kR4 kX kA4 H4 hB4 HR4 hBc
    cases cb
    case true =>
      have HI : Hid (StartIs h nm ps sl 2 h) := .inr (.inl ⟨HK.out, hcb1 rfl, rfl, rfl⟩)
      obtain ⟨x0', x1', x2', x3', x4', x5'⟩ := (cb_of_rowK kX5).c6
      obtain ⟨y0, y1, y2, y3, y4, y5⟩ := (cb_of_rowK kR5).c6
      obtain ⟨f0, f1, f2, f3, f4, f5⟩ := (cb_of_rowK kR5).f6
      go_wp2_with fail; refine end_cb6b Tryz.results94 Tryz.underlying99 rfl sizeHouseS (cb_of_rowK kR5) rfl rfl ?_
      exact ⟨⟨h, _, _, _, _, 2, rfl, HI.out, ⟨hty, by omega, by omega⟩, start_back H5 kR5 (by omega) _ _⟩, below_set6 hB5 (by omega) _ _ _ _ _ _⟩
    case false =>
      have HCB : Hid (CanBegin nm ps sl) := hcb0 rfl
      clear hcb0 hcb1
      obtain ⟨hrec, -, -⟩ := HCB.out
      have hp1 : 0 < ps.length := ((recB_iff ps).1 hrec).1
      have hl0 : 0 ≤ h.last ∧ h.last ≤ 1000000 := HK.out.1.2.2
      have hw1 : IntKind.i64.wrap (h.last + 1) = h.last + 1 := by rw [IntKind.wrap_i64]; omega
      have c0 : World.cell? wa ⟨rb, ro, none⟩ = some (.string (fstN ps)) := by
        have := (hr5.cells 0 hp1).1
        rw [show ro + 0 * 8 = ro by omega, ← fstN_zero hp1] at this; exact this
      have a1' : World.cell? wa ⟨w.heap.size, 1, none⟩ = some (.int .i64 h.last) := (cb_of_rowK kA5).c6.2.1
      have hwc : w.heap.size < wa.heap.size := (kA5.lt w.heap.size rfl).2
      have mk : ∀ w', Below wa.heap.size wa w' → Below wa.heap.size wa w' ∧ World.cell? w' ⟨rb, ro, none⟩ = some (.string (fstN ps)) ∧ World.cell? w' ⟨w.heap.size, 1, none⟩ = some (.int .i64 h.last) := fun w' hb' => ⟨hb', (hb'.cell (p := ⟨rb, ro, none⟩) hrb5).trans c0, (hb'.cell (p := ⟨w.heap.size, 1, none⟩) hwc).trans a1'⟩
      have Mk : Hid (∀ w', Below wa.heap.size wa w' → Below wa.heap.size wa w' ∧ World.cell? w' ⟨rb, ro, none⟩ = some (.string (fstN ps)) ∧ World.cell? w' ⟨w.heap.size, 1, none⟩ = some (.int .i64 h.last)) := mk
      have HC11 : Hid (∀ X, Below wa.heap.size wa X → Calls Tryz.prog 59 #[.agg #[.string nm, .slice (some ⟨rb, ro, none⟩) ps.length rc, .slice (some ⟨sb, so, none⟩) sl.length sc, .string (fstN ps), .int .i64 (-1), .int .i64 (h.last + 1)]] X fun e w' => (∃ ru su, e = .returned (.agg #[.string nm, ru, su, .string (fstN ps), .int .i64 (-1), .int .i64 (h.last + 1)]) ∧ RcW w' X.heap.size (newB h nm ps sl, ru, su)) ∧ Below X.heap.size X w') := fun X hX => copy21_any (newB h nm ps sl) _ _ X (HR5.out.up hX)
      clear mk c0 a1' hr5
      go_upto_region 6 with fail
      go_cut [11] (fun v11 wd => ∃ (L : Nat) (ru su : Value), v11 = .pointer (some ⟨L, 0, none⟩) ∧ Below wa.heap.size wa wd ∧ wd.ownsRow wa.heap.size 26 6 (.slice (some ⟨L, 0, none⟩) 1 1) 1 (rowR (newB h nm ps sl, ru, su)) ∧ RcW wd wa.heap.size (newB h nm ps sl, ru, su))
      case first =>
        have hC : NB wa (newB h nm ps sl) wa.drew none none := (nb_nil wa _).up (Below.refl _ _).drew
        refine wp_region_x 99 (fun w' => Below wa.heap.size wa w' ∧ World.cell? w' ⟨rb, ro, none⟩ = some (.string (fstN ps)) ∧ World.cell? w' ⟨w.heap.size, 1, none⟩ = some (.int .i64 h.last)) (by kernel_rfl) ?_
        generalize wa.drew = X1 at hC ⊢
        have hS1 := Mk.out _ hC.B
        refine tkx 0 rfl hS1 ?_
        refine tkx 1 rfl hS1 ?_
        refine tkx 2 rfl hS1 ?_
        refine tkx 3 rfl hS1 ?_
        refine tkx 4 rfl hS1 ?_
        refine tkx 5 rfl hS1 ?_
        refine tkx 6 rfl hS1 ?_
        refine tkx 7 rfl hS1 ?_
        refine tkx 8 rfl hS1 ?_
        refine tkx 9 rfl hS1 ?_
        refine tkx 10 rfl hS1 ?_
        clear hS1
        refine anyX_two (i := 11) (j := 12) (by kernel_rfl) rfl rfl (fun K hK => ?_) (fun K hK => ?_)
        · (go_simp; go_wp2_with (go_at_call 59; refine (HC11.out _ hC.B).mono ?_; rintro e X2 ⟨⟨ru, su, rfl, hrc⟩, hb2⟩; replace hC := hC.call hb2 hrc; have hnr : NN ru := hrc.nr; have hns : NN su := hrc.ns; clear hrc hb2; obtain ⟨g3, n3, m3, rfl⟩ := hnr; obtain ⟨g4, n4, m4, rfl⟩ := hns); refine hK.out _ _ (fun _ => (Mk.out _ hC.B)) ?_; clear hK K)
          refine anyX_one (i := 12) (by kernel_rfl) rfl (fun K hK => ?_)
          (go_simp; replace hC := hC.new; refine hK.out _ _ (fun _ => (Mk.out _ hC.B)) ?_; clear hK K; generalize World.alloc _ (.cells #[.string ⟨#[]⟩, .slice none 0 0, .slice none 0 0, .string ⟨#[]⟩, .int .i64 0, .int .i64 0] 26) = X4 at hC ⊢)
          (have kY := cb_of_rowK (hC.s12 _ rfl); obtain ⟨j0, j1, j2, j3, j4, j5⟩ := kY.c6; obtain ⟨m0, m1, m2, m3', m4', m5⟩ := kY.f6; have hF := hC.fin; refine anyX_one (i := 13) (by kernel_rfl) rfl (fun K hK => ?_); go_simp; refine hK.out _ _ (fun _ => Mk.out _ hF.1) ?_; clear hK K j0 j1 j2 j3 j4 j5 m0 m1 m2 m3' m4' m5 kY; (try simp only [Act.put, List.setIfInBounds_toArray, List.set_cons_zero, List.set_cons_succ]); refine anyX_done (by kernel_rfl) ?_ _; go_wp2_with fail; go_meet; exact ⟨_, _, _, rfl, hF⟩)
        · (go_simp; replace hC := hC.new; refine hK.out _ _ (fun _ => (Mk.out _ hC.B)) ?_; clear hK K; generalize World.alloc _ (.cells #[.string ⟨#[]⟩, .slice none 0 0, .slice none 0 0, .string ⟨#[]⟩, .int .i64 0, .int .i64 0] 26) = X4 at hC ⊢)
          refine anyX_one (i := 11) (by kernel_rfl) rfl (fun K hK => ?_)
          (go_simp; go_wp2_with (go_at_call 59; refine (HC11.out _ hC.B).mono ?_; rintro e X2 ⟨⟨ru, su, rfl, hrc⟩, hb2⟩; replace hC := hC.call hb2 hrc; have hnr : NN ru := hrc.nr; have hns : NN su := hrc.ns; clear hrc hb2; obtain ⟨g3, n3, m3, rfl⟩ := hnr; obtain ⟨g4, n4, m4, rfl⟩ := hns); refine hK.out _ _ (fun _ => (Mk.out _ hC.B)) ?_; clear hK K)
          (have kY := cb_of_rowK (hC.s12 _ rfl); obtain ⟨j0, j1, j2, j3, j4, j5⟩ := kY.c6; obtain ⟨m0, m1, m2, m3', m4', m5⟩ := kY.f6; have hF := hC.fin; refine anyX_one (i := 13) (by kernel_rfl) rfl (fun K hK => ?_); go_simp; refine hK.out _ _ (fun _ => Mk.out _ hF.1) ?_; clear hK K j0 j1 j2 j3 j4 j5 m0 m1 m2 m3' m4' m5 kY; (try simp only [Act.put, List.setIfInBounds_toArray, List.set_cons_zero, List.set_cons_succ]); refine anyX_done (by kernel_rfl) ?_ _; go_wp2_with fail; go_meet; exact ⟨_, _, _, rfl, hF⟩)
      case rest =>
        obtain ⟨L, ru, su, rfl, hBd, kL, hrcd⟩ := hcut
        obtain ⟨wd, rfl⟩ : ∃ wd, wd = wc := ⟨_, rfl⟩
        have hnr : NN ru := hrcd.nr
        have hns : NN su := hrcd.ns
        obtain ⟨g3, n3, m3, rfl⟩ := hnr
        obtain ⟨g4, n4, m4, rfl⟩ := hns
        have kR6 := own_up kR5 hBd
        have kX6 := own_up kX5 hBd
        have kA6 := own_up kA5 hBd
        have H6 := H5.up hBd
        have hB6 := up_trans hB5 hBd
        have hz6 := hBd.size
        have hv6 := hrcd.v
        have HB : Hid (BkV wd (.agg #[.slice p1 h.sh.things.length q1, .slice p2 h.sh.bs.length q2]) h.sh) := H6.v.book
        have hxd : w3.heap.size < wd.heap.size := (kX6.lt w3.heap.size rfl).2
        have hld : L < wd.heap.size := (kL.lt L rfl).2
        have kL : wd.ownsRow wa.heap.size 26 6 (.slice (some ⟨L, 0, none⟩) 1 1) 1 [.string nm, .slice (some ⟨g3, 0, none⟩) n3 m3, .slice (some ⟨g4, 0, none⟩) n4 m4, .string (fstN ps), .int .i64 (-1), .int .i64 (h.last + 1)] := kL
        have HDK : Hid (Szb (enterB h.sh nm (rbThings (newB h nm ps sl) (fstN ps))) ∧ Tiny (enterB h.sh nm (rbThings (newB h nm ps sl) (fstN ps)))) := enter_dk H6.z hty (rbThings_sized hv6 _)
        have HC6 : Hid (∀ X, Below wd.heap.size wd X → Calls Tryz.prog 7 #[.agg #[.string nm, .slice (some ⟨g3, 0, none⟩) n3 m3, .slice (some ⟨g4, 0, none⟩) n4 m4, .string (fstN ps), .int .i64 (-1), .int .i64 (h.last + 1)], .string (fstN ps)] X fun e w' => (∃ u, e = .returned u ∧ Txt w' u (rbThings (newB h nm ps sl) (fstN ps))) ∧ Below X.heap.size X w') := fun X hX => thingsS_any (newB h nm ps sl) _ _ (fstN ps) X (hv6.up hX)
        have HC7 : Hid (∀ X v, Below wd.heap.size wd X → Txt X v (rbThings (newB h nm ps sl) (fstN ps)) → Calls Tryz.prog 112 #[.agg #[.slice p1 h.sh.things.length q1, .slice p2 h.sh.bs.length q2], .string nm, v] X fun e w' => (∃ v', e = .returned (.tuple #[v', .int .i64 (startC h nm ps sl)]) ∧ BkW w' X.heap.size v' (enterB h.sh nm (rbThings (newB h nm ps sl) (fstN ps)))) ∧ Below X.heap.size X w') := fun X v hX hv => specEnter_any h.sh _ _ nm _ X (HB.out.up hX) ((Lst.ls (.inr hv)) (rbThings_sized hv6 _)) hzn (Nat.le_trans (rbThings_len _ _) (by omega))
        have mk : ∀ w', Below wd.heap.size wd w' → Below wd.heap.size wd w' ∧ World.cell? w' ⟨w3.heap.size, 2, none⟩ = some (.slice p1 h.sh.things.length q1) ∧ World.cell? w' ⟨w3.heap.size, 3, none⟩ = some (.slice p2 h.sh.bs.length q2) ∧ World.cell? w' ⟨L, 0, none⟩ = some (.string nm) ∧ World.cell? w' ⟨L, 1, none⟩ = some (.slice (some ⟨g3, 0, none⟩) n3 m3) ∧ World.cell? w' ⟨L, 2, none⟩ = some (.slice (some ⟨g4, 0, none⟩) n4 m4) ∧ World.cell? w' ⟨L, 3, none⟩ = some (.string (fstN ps)) ∧ World.cell? w' ⟨L, 4, none⟩ = some (.int .i64 (-1)) ∧ World.cell? w' ⟨L, 5, none⟩ = some (.int .i64 (h.last + 1)) := fun w' hb' => by
          obtain ⟨-, -, z2, z3, -, -⟩ := (cb_of_rowK (own_up kX6 hb')).c6
          obtain ⟨l0, l1, l2, l3, l4, l5⟩ := (cb_of_rowK (own_up kL hb')).c6
          exact ⟨hb', z2, z3, l0, l1, l2, l3, l4, l5⟩
        have Mk2 : Hid (∀ w', Below wd.heap.size wd w' → Below wd.heap.size wd w' ∧ World.cell? w' ⟨w3.heap.size, 2, none⟩ = some (.slice p1 h.sh.things.length q1) ∧ World.cell? w' ⟨w3.heap.size, 3, none⟩ = some (.slice p2 h.sh.bs.length q2) ∧ World.cell? w' ⟨L, 0, none⟩ = some (.string nm) ∧ World.cell? w' ⟨L, 1, none⟩ = some (.slice (some ⟨g3, 0, none⟩) n3 m3) ∧ World.cell? w' ⟨L, 2, none⟩ = some (.slice (some ⟨g4, 0, none⟩) n4 m4) ∧ World.cell? w' ⟨L, 3, none⟩ = some (.string (fstN ps)) ∧ World.cell? w' ⟨L, 4, none⟩ = some (.int .i64 (-1)) ∧ World.cell? w' ⟨L, 5, none⟩ = some (.int .i64 (h.last + 1))) := mk
        clear mk Mk HC11 kR5 kX5 kA5 H5 hB5 HR5
        go_upto_region 7 with fail
        go_cut [12, 13] (fun v12 v13 we => ∃ (Y : Nat) (tw bw : Value), v12 = .pointer (some ⟨Y, 0, none⟩) ∧ v13 = .int .i64 (startC h nm ps sl) ∧ Below wd.heap.size wd we ∧ BkW we wd.heap.size (.agg #[tw, bw]) (enterB h.sh nm (rbThings (newB h nm ps sl) (fstN ps))) ∧ CB we Y [tw, bw])
        case first =>
          have hC : EN wd h (newB h nm ps sl) wd.drew none none none := (en_nil wd h _).up (Below.refl _ _).drew
          refine wp_region_x 99 (fun w' => Below wd.heap.size wd w' ∧ World.cell? w' ⟨w3.heap.size, 2, none⟩ = some (.slice p1 h.sh.things.length q1) ∧ World.cell? w' ⟨w3.heap.size, 3, none⟩ = some (.slice p2 h.sh.bs.length q2) ∧ World.cell? w' ⟨L, 0, none⟩ = some (.string nm) ∧ World.cell? w' ⟨L, 1, none⟩ = some (.slice (some ⟨g3, 0, none⟩) n3 m3) ∧ World.cell? w' ⟨L, 2, none⟩ = some (.slice (some ⟨g4, 0, none⟩) n4 m4) ∧ World.cell? w' ⟨L, 3, none⟩ = some (.string (fstN ps)) ∧ World.cell? w' ⟨L, 4, none⟩ = some (.int .i64 (-1)) ∧ World.cell? w' ⟨L, 5, none⟩ = some (.int .i64 (h.last + 1))) (by kernel_rfl) ?_
          generalize wd.drew = X1 at hC ⊢
          have hS1 := Mk2.out _ hC.B
          refine tkx 0 rfl hS1 ?_
          refine tkx 1 rfl hS1 ?_
          refine tkx 2 rfl hS1 ?_
          refine tkx 3 rfl hS1 ?_
          refine tkx 4 rfl hS1 ?_
          refine tkx 5 rfl hS1 ?_
          clear hS1
          refine anyX_two (i := 6) (j := 11) (by kernel_rfl) rfl rfl (fun K hK => ?_) (fun K hK => ?_)
          · (go_simp; go_wp2_with (go_at_call 7; refine (HC6.out _ hC.B).mono ?_; rintro e X2 ⟨⟨u8, rfl, hu⟩, hb2⟩; replace hC := hC.c6 hb2 hu; clear hb2; obtain ⟨g9, c9, rfl, -⟩ := hu); refine hK.out _ _ (fun _ => (Mk2.out _ hC.B)) ?_; clear hK K)
            refine anyX_two (i := 7) (j := 11) (by kernel_rfl) rfl rfl (fun K hK => ?_) (fun K hK => ?_)
            · (go_simp; go_wp2_with (go_at_call 112; refine (HC7.out _ _ hC.B (hC.s6 _ rfl)).mono ?_; rintro e X5 ⟨⟨v8, rfl, hk8⟩, hb8⟩; replace hC := hC.c7 hb8 hk8; obtain ⟨t1, d1, t2, d2, ps8, rfl, -⟩ := hk8.parts; clear hk8 hb8); refine hK.out _ _ (fun _ => (Mk2.out _ hC.B)) ?_; clear hK K; (refine tkx 8 rfl (Mk2.out _ hC.B) ?_); (refine tkx 9 rfl (Mk2.out _ hC.B) ?_); (refine tkx 10 rfl (Mk2.out _ hC.B) ?_))
              refine anyX_one (i := 11) (by kernel_rfl) rfl (fun K hK => ?_)
              (go_simp; replace hC := hC.c11; refine hK.out _ _ (fun _ => (Mk2.out _ hC.B)) ?_; clear hK K; generalize World.alloc _ (.cells #[.slice none 0 0, .slice none 0 0] 95) = X4 at hC ⊢)
              (have kY := cb_of_rowK (hC.s11 _ rfl); obtain ⟨⟨j0, j1⟩, m0, m1⟩ := kY.c2; have hF := hC.fin; refine anyX_one (i := 12) (by kernel_rfl) rfl (fun K hK => ?_); go_simp; refine hK.out _ _ (fun _ => Mk2.out _ hF.1) ?_; clear hK K j0 j1 m0 m1 kY; (try simp only [Act.put, List.setIfInBounds_toArray, List.set_cons_zero, List.set_cons_succ]); refine anyX_one (i := 13) (by kernel_rfl) rfl (fun K hK => ?_); go_simp; refine hK.out _ _ (fun _ => Mk2.out _ hF.1) ?_; clear hK K; (try simp only [Act.put, List.setIfInBounds_toArray, List.set_cons_zero, List.set_cons_succ]); refine anyX_done (by kernel_rfl) ?_ _; go_wp2_with fail; go_meet; exact ⟨_, _, _, rfl, rfl, hF⟩)
            · (go_simp; replace hC := hC.c11; refine hK.out _ _ (fun _ => (Mk2.out _ hC.B)) ?_; clear hK K; generalize World.alloc _ (.cells #[.slice none 0 0, .slice none 0 0] 95) = X4 at hC ⊢)
              refine anyX_one (i := 7) (by kernel_rfl) rfl (fun K hK => ?_)
              (go_simp; go_wp2_with (go_at_call 112; refine (HC7.out _ _ hC.B (hC.s6 _ rfl)).mono ?_; rintro e X5 ⟨⟨v8, rfl, hk8⟩, hb8⟩; replace hC := hC.c7 hb8 hk8; obtain ⟨t1, d1, t2, d2, ps8, rfl, -⟩ := hk8.parts; clear hk8 hb8); refine hK.out _ _ (fun _ => (Mk2.out _ hC.B)) ?_; clear hK K; (refine tkx 8 rfl (Mk2.out _ hC.B) ?_); (refine tkx 9 rfl (Mk2.out _ hC.B) ?_); (refine tkx 10 rfl (Mk2.out _ hC.B) ?_))
              (have kY := cb_of_rowK (hC.s11 _ rfl); obtain ⟨⟨j0, j1⟩, m0, m1⟩ := kY.c2; have hF := hC.fin; refine anyX_one (i := 12) (by kernel_rfl) rfl (fun K hK => ?_); go_simp; refine hK.out _ _ (fun _ => Mk2.out _ hF.1) ?_; clear hK K j0 j1 m0 m1 kY; (try simp only [Act.put, List.setIfInBounds_toArray, List.set_cons_zero, List.set_cons_succ]); refine anyX_one (i := 13) (by kernel_rfl) rfl (fun K hK => ?_); go_simp; refine hK.out _ _ (fun _ => Mk2.out _ hF.1) ?_; clear hK K; (try simp only [Act.put, List.setIfInBounds_toArray, List.set_cons_zero, List.set_cons_succ]); refine anyX_done (by kernel_rfl) ?_ _; go_wp2_with fail; go_meet; exact ⟨_, _, _, rfl, rfl, hF⟩)
          · (go_simp; replace hC := hC.c11; refine hK.out _ _ (fun _ => (Mk2.out _ hC.B)) ?_; clear hK K; generalize World.alloc _ (.cells #[.slice none 0 0, .slice none 0 0] 95) = X4 at hC ⊢)
            refine anyX_one (i := 6) (by kernel_rfl) rfl (fun K hK => ?_)
            (go_simp; go_wp2_with (go_at_call 7; refine (HC6.out _ hC.B).mono ?_; rintro e X2 ⟨⟨u8, rfl, hu⟩, hb2⟩; replace hC := hC.c6 hb2 hu; clear hb2; obtain ⟨g9, c9, rfl, -⟩ := hu); refine hK.out _ _ (fun _ => (Mk2.out _ hC.B)) ?_; clear hK K)
            refine anyX_one (i := 7) (by kernel_rfl) rfl (fun K hK => ?_)
            (go_simp; go_wp2_with (go_at_call 112; refine (HC7.out _ _ hC.B (hC.s6 _ rfl)).mono ?_; rintro e X5 ⟨⟨v8, rfl, hk8⟩, hb8⟩; replace hC := hC.c7 hb8 hk8; obtain ⟨t1, d1, t2, d2, ps8, rfl, -⟩ := hk8.parts; clear hk8 hb8); refine hK.out _ _ (fun _ => (Mk2.out _ hC.B)) ?_; clear hK K; (refine tkx 8 rfl (Mk2.out _ hC.B) ?_); (refine tkx 9 rfl (Mk2.out _ hC.B) ?_); (refine tkx 10 rfl (Mk2.out _ hC.B) ?_))
            (have kY := cb_of_rowK (hC.s11 _ rfl); obtain ⟨⟨j0, j1⟩, m0, m1⟩ := kY.c2; have hF := hC.fin; refine anyX_one (i := 12) (by kernel_rfl) rfl (fun K hK => ?_); go_simp; refine hK.out _ _ (fun _ => Mk2.out _ hF.1) ?_; clear hK K j0 j1 m0 m1 kY; (try simp only [Act.put, List.setIfInBounds_toArray, List.set_cons_zero, List.set_cons_succ]); refine anyX_one (i := 13) (by kernel_rfl) rfl (fun K hK => ?_); go_simp; refine hK.out _ _ (fun _ => Mk2.out _ hF.1) ?_; clear hK K; (try simp only [Act.put, List.setIfInBounds_toArray, List.set_cons_zero, List.set_cons_succ]); refine anyX_done (by kernel_rfl) ?_ _; go_wp2_with fail; go_meet; exact ⟨_, _, _, rfl, rfl, hF⟩)
        case rest =>
          obtain ⟨Y, tw, bw, rfl, rfl, hBe, hbk, kY⟩ := hcut
          obtain ⟨we, rfl⟩ : ∃ we, we = wc := ⟨_, rfl⟩
          obtain ⟨t1, d1, t2, d2, qs, e9, -⟩ := hbk.parts
          simp only [Value.agg.injEq, Array.mk.injEq, List.cons.injEq, and_true] at e9
          obtain ⟨rfl, rfl⟩ := e9
          have kR7 := own_up kR6 hBe
          have kX7 := own_up kX6 hBe
          have kA7 := own_up kA6 hBe
          have kL7 := own_up kL hBe
          have H7 := H6.up hBe
          have hB7 := up_trans hB6 hBe
          have hrc7 := hrcd.up hBe
          have hz7 := hBe.size
          have HST : Hid (∀ cd h', StartIs h nm ps sl cd h' ↔ StartIs h nm ps sl cd h') := fun _ _ => Iff.rfl
          have HS3 : Hid (startC h nm ps sl ≠ 0 → StartIs h nm ps sl (startC h nm ps sl) h) := fun hc => .inr (.inr (.inl ⟨HK.out, HCB.out, hc, rfl, rfl⟩))
          have HS4 : Hid (startC h nm ps sl = 0 → 1000000 ≤ h.last → StartIs h nm ps sl 4 h) := fun hc hl => .inr (.inr (.inr (.inl ⟨HK.out, HCB.out, hc, hl, rfl, rfl⟩)))
          have HS0 : Hid (startC h nm ps sl = 0 → ¬ 1000000 ≤ h.last → ∀ h', AsksTo (startH h nm ps sl) (startH h nm ps sl).bs.length h' → StartIs h nm ps sl 0 h') := fun hc hl h' ha => .inr (.inr (.inr (.inr ⟨HK.out, HCB.out, hc, hl, rfl, ha⟩)))
          clear HST kR6 kX6 kA6 kL H6 hB6 hBe hrcd Mk2 HC6 HC7 HB hv6
          generalize startC h nm ps sl = cc at *
          obtain ⟨x0', x1', x2', x3', x4', x5'⟩ := (cb_of_rowK kX7).c6
          obtain ⟨y0, y1, y2, y3, y4, y5⟩ := (cb_of_rowK kR7).c6
          obtain ⟨f0, f1, f2, f3, f4, f5⟩ := (cb_of_rowK kR7).f6
          have a1' : World.cell? we ⟨w.heap.size, 1, none⟩ = some (.int .i64 h.last) := (cb_of_rowK kA7).c6.2.1
          by_cases hcc : cc = 0
          case neg =>
            go_wp2_with fail; refine end_cb6b Tryz.results94 Tryz.underlying99 rfl sizeHouseS (cb_of_rowK kR7) rfl rfl ?_
            exact ⟨⟨h, _, _, _, _, cc, rfl, HS3.out (by simpa using hcc), ⟨hty, by omega, by omega⟩, start_back H7 kR7 (by omega) _ _⟩, below_set6 hB7 (by omega) _ _ _ _ _ _⟩
          case pos =>
            subst hcc
            by_cases hll : 1000000 ≤ h.last
            case pos =>
              go_wp2_with fail; refine end_cb6b Tryz.results94 Tryz.underlying99 rfl sizeHouseS (cb_of_rowK kR7) rfl rfl ?_
              exact ⟨⟨h, _, _, _, _, 4, rfl, HS4.out (by simp) hll, ⟨hty, by omega, by omega⟩, start_back H7 kR7 (by omega) _ _⟩, below_set6 hB7 (by omega) _ _ _ _ _ _⟩
            case neg =>
              obtain ⟨v0, v1⟩ := kY.c2'
              obtain ⟨l0, l1, l2, l3, l4, l5⟩ := (cb_of_rowK kL7).c6
              obtain ⟨g0', g1', g2', g3', g4', g5'⟩ := (cb_of_rowK kX7).f6
              generalize eB : enterB h.sh nm (rbThings (newB h nm ps sl) (fstN ps)) = B' at *
              have s1 := World.ownsRow.stored kX7 2 (.slice t1 B'.things.length d1)
              have s2 := World.ownsRow.stored s1.1 3 (.slice t2 B'.bs.length d2)
              have s3 := World.ownsRow.stored s2.1 1 (.int .i64 (h.last + 1))
              have hgX : we.grownBy (((we.setCell ⟨w3.heap.size, 2, none⟩ (.slice t1 B'.things.length d1)).setCell ⟨w3.heap.size, 3, none⟩ (.slice t2 B'.bs.length d2)).setCell ⟨w3.heap.size, 1, none⟩ (.int .i64 (h.last + 1))) (Value.slice (some ⟨w3.heap.size, 0, none⟩) 1 1).ownBlock := grown_trans (grown_trans s1.2 s2.2) s3.2
              obtain ⟨W8, hW8, kX8, kR8, kL8, H8, hbk8, hrc8, hB8⟩ : ∃ W8, ((we.setCell ⟨w3.heap.size, 2, none⟩ (.slice t1 B'.things.length d1)).setCell ⟨w3.heap.size, 3, none⟩ (.slice t2 B'.bs.length d2)).setCell ⟨w3.heap.size, 1, none⟩ (.int .i64 (h.last + 1)) = W8 ∧ W8.ownsRow w3.heap.size 99 6 (.slice (some ⟨w3.heap.size, 0, none⟩) 1 1) 1 [.int .i64 h.now, .int .i64 (h.last + 1), .slice t1 B'.things.length d1, .slice t2 B'.bs.length d2, .slice p3 h.bs.length q3, .slice p4 h.ds.length q4] ∧ W8.ownsRow w.heap.size 99 6 (.slice (some ⟨w.heap.size + 1, 0, none⟩) 1 1) 1 [.int .i64 0, .int .i64 0, .slice none 0 0, .slice none 0 0, .slice none 0 0, .slice none 0 0] ∧ W8.ownsRow wa.heap.size 26 6 (.slice (some ⟨L, 0, none⟩) 1 1) 1 [.string nm, .slice (some ⟨g3, 0, none⟩) n3 m3, .slice (some ⟨g4, 0, none⟩) n4 m4, .string (fstN ps), .int .i64 (-1), .int .i64 (h.last + 1)] ∧ HW W8 w2.heap.size h (.slice p1 h.sh.things.length q1) (.slice p2 h.sh.bs.length q2) (.slice p3 h.bs.length q3) (.slice p4 h.ds.length q4) ∧ BkW W8 w2.heap.size (.agg #[.slice t1 B'.things.length d1, .slice t2 B'.bs.length d2]) B' ∧ RcW W8 w2.heap.size (newB h nm ps sl, .slice (some ⟨g3, 0, none⟩) n3 m3, .slice (some ⟨g4, 0, none⟩) n4 m4) ∧ Below w.heap.size w W8 :=
                ⟨_, rfl, s3.1, own_keep2 kR7 hgX (by simp [Value.ownBlock]; omega), own_keep2 kL7 hgX (own_apart2 kL7 kX7 (by decide)), H7.box kX7 hgX, (hbk.step kX7 (by decide) (by decide) hgX).low (by omega), (hrc7.step kX7 (by decide) (by decide) hgX).low (by omega), ((hB7.setCell (p := ⟨w3.heap.size, 2, none⟩) (by show _ ≤ w3.heap.size; omega) _).setCell (p := ⟨w3.heap.size, 3, none⟩) (by show _ ≤ w3.heap.size; omega) _).setCell (p := ⟨w3.heap.size, 1, none⟩) (by show _ ≤ w3.heap.size; omega) _⟩
              go_upto_region 14 with fail
              try rw [hW8]
              clear hW8 s1 s2 s3 hgX kX7 kR7 kL7 kA7 H7 hbk hrc7 hB7 v0 v1 l0 l1 l2 l3 l4 l5 g0' g1' g2' g3' g4' g5' x0' x1' x2' x3' x4' x5' y0 y1 y2 y3 y4 y5 f0 f1 f2 f3 f4 f5 a1' kY
              obtain ⟨l0, l1, l2, l3, l4, l5⟩ := (cb_of_rowK kL8).c6
              obtain ⟨-, -, -, -, x4', -⟩ := (cb_of_rowK kX8).c6
              obtain ⟨rs, hW8', hm8⟩ := H8.x
              have hrl : rs.length = h.bs.length := by have := congrArg List.length hm8; rwa [List.length_map] at this
              obtain ⟨irb, hirb, r0, r1, r2⟩ := info_parts infoRbR
              obtain ⟨W9, hW9, hb9, hnews⟩ : ∃ W9, W8.alloc (.cells #[.string nm, .slice (some ⟨g3, 0, none⟩) n3 m3, .slice (some ⟨g4, 0, none⟩) n4 m4, .string (fstN ps), .int .i64 (-1), .int .i64 (h.last + 1)] 26) = W9 ∧ Below W8.heap.size W8 W9 ∧ ∀ (j : Nat) (u : Value), (rowR (newB h nm ps sl, .slice (some ⟨g3, 0, none⟩) n3 m3, .slice (some ⟨g4, 0, none⟩) n4 m4))[j]? = some u → W9.cell? ((⟨W8.heap.size, 0, none⟩ : Addr).add j) = some u := ⟨_, rfl, (Below.refl _ _).alloc (Nat.le_refl _) _, fun j u hj => hnew6 _ _ _ _ _ _ _ _ hj⟩
              have hW9' := hW8'.up hb9
              have H9 := H8.up hb9
              have hrc9 := hrc8.up hb9
              have hbk9 := hbk8.up hb9
              have kX9 := own_up kX8 hb9
              have kR9 := own_up kR8 hb9
              have hB9 := up_trans hB8 hb9
              have hone := rowR_one hrc9
              have hrow9 := hW9'.1
              have hlz : W8.heap.size ≤ W9.heap.size := hb9.size
              have hxW : w3.heap.size < W8.heap.size := (kX8.lt w3.heap.size rfl).2
              have hLW : L < W8.heap.size := (kL8.lt L rfl).2
              clear hW8' H8 hrc8 hbk8 kX8 kR8 hB8 kL8
              obtain ⟨v', w', hr', ho', hg', -⟩ := run_append_own (P := Tryz.prog) W9 w2.heap.size 96 96 26 irb _ 6 96 Tryz.underlying96 hirb r0 r1 r2 rfl (by decide) _ rs.length (rowsF rowR rs) hrow9 ⟨W8.heap.size, 0, none⟩ 1 1 (rowR (newB h nm ps sl, .slice (some ⟨g3, 0, none⟩) n3 m3, .slice (some ⟨g4, 0, none⟩) n4 m4)) rfl hnews hone (by unfold maxLen; omega) (by omega) (by omega)
              have H10 := H9.comes hW9' hm8 hbk9 HDK.out.1 hrc9 hg' ho' (h.last + 1)
              have kX10 := own_keep2 kX9 hg' (own_apart2 kX9 hrow9 (by decide))
              have kR10 := own_keep2 kR9 hg' (own_apart2 kR9 hrow9 (by decide))
              have hB10 := hB9.trans (gr_below hg' hB9.size (fun k e => by have := H9.xb k e; omega))
              obtain ⟨g7, c7, rfl⟩ := own_ptr2 ho' (by omega)
              rw [hrl] at hr' H10
              go_upto_region 15 with (at_builtin; (try rw [hW9]); refine wpList_append_run _ rfl _ _ 96 rfl _ _ rfl rfl (.slice (some ⟨g7, 0, none⟩) (h.bs.length + 1) c7) w' hr' ?_; obtain ⟨e0, e1, e2, e3, e4, e5⟩ := (cb_of_rowK kX10).c6; obtain ⟨f0, f1, f2, f3, f4, f5⟩ := (cb_of_rowK kX10).f6)
              have st := World.ownsRow.stored kX10 4 (.slice (some ⟨g7, 0, none⟩) (h.bs.length + 1) c7)
              have hgB : w'.grownBy (w'.setCell ⟨w3.heap.size, 4, none⟩ (.slice (some ⟨g7, 0, none⟩) (h.bs.length + 1) c7)) (Value.slice (some ⟨w3.heap.size, 0, none⟩) 1 1).ownBlock := st.2
              obtain ⟨WB, hWB, kXB, kRB, HWB, hBB⟩ : ∃ WB, w'.setCell ⟨w3.heap.size, 4, none⟩ (.slice (some ⟨g7, 0, none⟩) (h.bs.length + 1) c7) = WB ∧ WB.ownsRow w3.heap.size 99 6 (.slice (some ⟨w3.heap.size, 0, none⟩) 1 1) 1 [.int .i64 h.now, .int .i64 (h.last + 1), .slice t1 B'.things.length d1, .slice t2 B'.bs.length d2, .slice (some ⟨g7, 0, none⟩) (h.bs.length + 1) c7, .slice p4 h.ds.length q4] ∧ WB.ownsRow w.heap.size 99 6 (.slice (some ⟨w.heap.size + 1, 0, none⟩) 1 1) 1 [.int .i64 0, .int .i64 0, .slice none 0 0, .slice none 0 0, .slice none 0 0, .slice none 0 0] ∧ HW WB w2.heap.size { h with last := h.last + 1, sh := B', bs := h.bs ++ [newB h nm ps sl] } (.slice t1 B'.things.length d1) (.slice t2 B'.bs.length d2) (.slice (some ⟨g7, 0, none⟩) (h.bs.length + 1) c7) (.slice p4 h.ds.length q4) ∧ Below w.heap.size w WB :=
                ⟨_, rfl, st.1, own_keep2 kR10 hgB (by simp [Value.ownBlock]; omega), H10.box kX10 hgB, hB10.setCell (p := ⟨w3.heap.size, 4, none⟩) (by show _ ≤ w3.heap.size; omega) _⟩
              try rw [hWB]
              have hzB : w2.heap.size ≤ WB.heap.size := by have := (kXB.lt w3.heap.size rfl).2; omega
              clear hWB st hgB e0 e1 e2 e3 e4 e5 f0 f1 f2 f3 f4 f5 kX10 kR10 H10 hB10 hr' ho' hg' H9 hW9' hrc9 hbk9 kX9 kR9 hB9 hone hrow9 hnews hb9 hm8 l0 l1 l2 l3 l4 l5 x4'
              have HEQ : Hid (startH h nm ps sl = { h with last := h.last + 1, sh := B', bs := h.bs ++ [newB h nm ps sl] }) := by show _ = _; unfold startH; rw [eB]
              have hll2 : ({ h with last := h.last + 1, sh := B', bs := h.bs ++ [newB h nm ps sl] } : House).bs.length ≤ 6 := by show (h.bs ++ [newB h nm ps sl]).length ≤ 6; rw [List.length_append, List.length_singleton]; omega
              have hask := asks23_any { h with last := h.last + 1, sh := B', bs := h.bs ++ [newB h nm ps sl] } _ _ _ _ w2.heap.size WB HWB hzB HDK.out.2
              have HCop : Hid (∀ (w6 : World) (h' : House) (t5 b5 x5 d5 : Value), HV w6 h' t5 b5 x5 d5 → AsksTo { h with last := h.last + 1, sh := B', bs := h.bs ++ [newB h nm ps sl] } ({ h with last := h.last + 1, sh := B', bs := h.bs ++ [newB h nm ps sl] } : House).bs.length h' → Tiny h'.sh → Few h' ∧ Calls Tryz.prog 111 #[.agg #[.int .i64 h.now, .int .i64 (h.last + 1), t5, b5, x5, d5]] w6 fun e w' => (∃ tu bu xu du, e = .returned (.agg #[.int .i64 h'.now, .int .i64 h'.last, tu, bu, xu, du]) ∧ HW w' w6.heap.size h' tu bu xu du) ∧ Below w6.heap.size w6 w') := fun w6 h' t5 b5 x5 d5 h1 h2 h3 => by
                obtain ⟨s1, s2, s3, s4⟩ := h2.same
                have hd : h'.ds.length ≤ 20 := by rw [s3]; exact hd20
                have hb6 : h'.bs.length ≤ 6 := by rw [s4]; exact hll2
                refine ⟨⟨h3, by omega, by omega⟩, ?_⟩
                have := copy22_any h' t5 b5 x5 d5 w6 h1 (by have := h3.1; omega) (by have := h3.2.1; omega) (fun y hy => by have := h3.2.2 y hy; omega) (by omega) (by omega)
                rw [s1, s2] at this
                rw [s1, s2]; exact this
              obtain ⟨rsB, hWB2, -⟩ := HWB.x
              have HrB : Hid (WB.ownsRow w2.heap.size 26 6 (.slice (some ⟨g7, 0, none⟩) (h.bs.length + 1) c7) rsB.length (rowsF rowR rsB)) := hWB2.1
              have Hxb : Hid _ := HWB.xb
              have hzz := hBB.size
              obtain ⟨e0, e1, e2, e3, e4, e5⟩ := (cb_of_rowK kXB).c6
              clear hWB2 HWB eB hll2
              go_wp2_with (first
                | (go_at_call 113; refine hask.mono ?_; rintro e w6 ⟨⟨h6, t6, b6, rfl, ha6, hT6, H6⟩, hG6⟩; have kR6 := own_keep2 kRB hG6 (own_apart2 kRB HrB.out (by decide)); have hB6 := hBB.trans (gr_below hG6 hzz (fun k e => by have := Hxb.out k e; omega)))
                | (go_at_call 111; obtain ⟨hfew, hc6⟩ := HCop.out w6 h6 t6 b6 _ _ H6.v ha6 hT6; refine hc6.mono ?_; rintro e w7 ⟨⟨t7, b7, x7, d7, rfl, H7⟩, hb7⟩; have kR7 := own_up kR6 hb7; have hB7 := up_trans hB6 hb7; obtain ⟨u1, v1, u2, v2, u3, v3, u4, v4, rfl, rfl, rfl, rfl⟩ := H7.v.shapes; obtain ⟨y0, y1, y2, y3, y4, y5⟩ := (cb_of_rowK kR7).c6; obtain ⟨f0, f1, f2, f3, f4, f5⟩ := (cb_of_rowK kR7).f6))
              refine end_cb6b Tryz.results94 Tryz.underlying99 rfl sizeHouseS (cb_of_rowK kR7) rfl rfl ?_
              exact ⟨⟨h6, _, _, _, _, 0, rfl, HS0.out (by simp) (by omega) h6 (by rw [HEQ.out]; exact ha6), hfew, start_back H7 kR7 hB6.size _ _⟩, below_set6 hB7 (by omega) _ _ _ _ _ _⟩
end Go.Proofs.YtliebjbbomghiaaGreatDoor
