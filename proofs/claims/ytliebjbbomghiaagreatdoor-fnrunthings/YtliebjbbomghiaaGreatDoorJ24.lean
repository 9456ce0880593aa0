/- The specification's copy of a house (chapter 22): what it makes. -/
import Derived.Test.YtliebjbbomghiaaGreatDoorJ20
import Derived.Test.YtliebjbbomghiaaGreatDoorJ23
import Derived.Test.YtliebjbbomghiaaGreatDoorJ3
namespace Go.Proofs.YtliebjbbomghiaaGreatDoor
open Go.RowKit


theorem sizeHouseS : (Tryz.prog.info? 99).map (·.size) = some 6 := by kernel_rfl
/-- What has been made of the copy so far: the book, the empty list, those that ended, the house. -/
structure CS (W1 : World) (h : House) (X : World) (k6 k7 k10 : Option Value) (k12 : Option Nat) : Prop where
  B : Below W1.heap.size W1 X
  s6 : ∀ v, k6 = some v → BkW X W1.heap.size v h.sh
  s7 : ∀ v, k7 = some v → X.ownsRow W1.heap.size 186 3 v 0 [] ∧ NN v
  s10 : ∀ v, k10 = some v → X.ownsRow W1.heap.size 186 3 v h.ds.length (rowsF Done.cells h.ds) ∧ NN v
  s12 : ∀ y, k12 = some y → X.ownsRow W1.heap.size 99 6 (.slice (some ⟨y, 0, none⟩) 1 1) 1 [.int .i64 0, .int .i64 0, .slice none 0 0, .slice none 0 0, .slice none 0 0, .slice none 0 0]
theorem cs_nil (W1 : World) (h : House) : CS W1 h W1 none none none none := ⟨Below.refl _ _, fun _ h => (by cases h), fun _ h => (by cases h), fun _ h => (by cases h), fun _ h => (by cases h)⟩
theorem CS.up {W1 X X' : World} {h : House} {k6 k7 k10 : Option Value} {k12 : Option Nat} (H : CS W1 h X k6 k7 k10 k12) (hb : Below X.heap.size X X') : CS W1 h X' k6 k7 k10 k12 :=
  ⟨up_trans H.B hb, fun v e => (H.s6 v e).up hb, fun v e => ⟨own_up (H.s7 v e).1 hb, (H.s7 v e).2⟩, fun v e => ⟨own_up (H.s10 v e).1 hb, (H.s10 v e).2⟩, fun y e => own_up (H.s12 y e) hb⟩
theorem CS.call {W1 X X' : World} {h : House} {k6 k7 k10 : Option Value} {k12 : Option Nat} {v : Value} (H : CS W1 h X k6 k7 k10 k12) (hb : Below X.heap.size X X') (hv : BkW X' X.heap.size v h.sh) : CS W1 h X' (some v) k7 k10 k12 :=
  { H.up hb with s6 := fun u e => by cases e; exact hv.low H.B.size }
theorem CS.lit {W1 X : World} {h : House} {k6 k7 k10 : Option Value} {k12 : Option Nat} (H : CS W1 h X k6 k7 k10 k12) : CS W1 h (X.alloc (.cells #[] 186)) k6 (some (.slice (some ⟨X.heap.size, 0, none⟩) 0 0)) k10 k12 :=
  { H.up ((Below.refl _ _).alloc (Nat.le_refl _) _) with s7 := fun u e => by cases e; exact ⟨own_low (ownT_lit X _ _) H.B.size, _, _, _, rfl⟩ }
theorem CS.new {W1 X : World} {h : House} {k6 k7 k10 : Option Value} {k12 : Option Nat} (H : CS W1 h X k6 k7 k10 k12) : CS W1 h (X.alloc (.cells #[.int .i64 0, .int .i64 0, .slice none 0 0, .slice none 0 0, .slice none 0 0, .slice none 0 0] 99)) k6 k7 k10 (some X.heap.size) :=
  { H.up ((Below.refl _ _).alloc (Nat.le_refl _) _) with s12 := fun u e => by cases e; exact World.ownsRow_lit X _ 1 H.B.size (by unfold maxLen; omega) rfl }
theorem CS.app {W1 X X' : World} {h : House} {k6 k10 : Option Value} {k12 : Option Nat} {v v' : Value} (H : CS W1 h X k6 (some v) k10 k12) (hg : X.grownBy X' v.ownBlock) (hv : X'.ownsRow W1.heap.size 186 3 v' (0 + h.ds.length) ([] ++ rowsF Done.cells h.ds)) (hn : NN v') : CS W1 h X' k6 none (some v') k12 := by
  have h7 := (H.s7 v rfl).1
  refine ⟨below_ownB H.B H.B.size h7 hg (Nat.le_refl _), fun u e => (H.s6 u e).step h7 (by decide) (by decide) hg, fun _ e => (by cases e), fun u e => ?_, fun y e => own_keep2 (H.s12 y e) hg (own_apart2 (H.s12 y e) h7 (by decide))⟩
  cases e
  exact ⟨by simpa using hv, hn⟩
/-- A struct's block as a row of one. -/
theorem cb_of_row {w : World} {base e y : Nat} {cs : List Value} (h : w.ownsRow base e 6 (.slice (some ⟨y, 0, none⟩) 1 1) 1 cs) : CB w y cs := by
  have hl : cs.length = 6 := h.1
  refine ⟨fun j v hv => ?_, fun j hj => ?_, (h.lt y rfl).2⟩
  · have hj : j < cs.length := (List.getElem?_eq_some_iff.1 hv).1
    rw [Nat.zero_add, h.cellAt j (by omega)]; exact hv
  · rw [Nat.zero_add]
    refine ⟨?_, h.frozenAt j⟩
    rw [h.cellAt j (by omega), List.getElem?_eq_getElem hj]; rfl
/-- The copy, its batches still to come. -/
structure CX (W1 : World) (h : House) (X : World) (y : Nat) (tu bu xu du : Value) : Prop where
  B : Below W1.heap.size W1 X
  k : BkW X W1.heap.size (.agg #[tu, bu]) h.sh
  d : X.ownsRow W1.heap.size 186 3 du h.ds.length (rowsF Done.cells h.ds)
  nd : NN du
  y : X.ownsRow W1.heap.size 99 6 (.slice (some ⟨y, 0, none⟩) 1 1) 1 [.int .i64 h.now, .int .i64 h.last, tu, bu, xu, du]
theorem CX.up {W1 X X' : World} {h : House} {y : Nat} {tu bu xu du : Value} (H : CX W1 h X y tu bu xu du) (hb : Below X.heap.size X X') : CX W1 h X' y tu bu xu du :=
  ⟨up_trans H.B hb, H.k.up hb, own_up H.d hb, H.nd, own_up H.y hb⟩
theorem CX.row {W1 X X' : World} {h : House} {y n : Nat} {tu bu xu du v : Value} {xs : List Value} (H : CX W1 h X y tu bu xu du) (hrow : X.ownsRow W1.heap.size 26 6 v n xs) (hg : X.grownBy X' v.ownBlock) : CX W1 h X' y tu bu xu du :=
  ⟨below_ownB H.B H.B.size hrow hg (Nat.le_refl _), H.k.step hrow (by decide) (by decide) hg, own_keep2 H.d hg (own_apart2 H.d hrow (by decide)), H.nd, own_keep2 H.y hg (own_apart2 H.y hrow (by decide))⟩
theorem CX.put {W1 X : World} {h : House} {y : Nat} {tu bu xu du : Value} (H : CX W1 h X y tu bu xu du) (u : Value) : CX W1 h (X.setCell ⟨y, 4, none⟩ u) y tu bu u du := by
  obtain ⟨h1, h2⟩ := World.ownsRow.stored H.y 4 u
  have hg : X.grownBy (X.setCell ⟨y, 4, none⟩ u) (Value.slice (some ⟨y, 0, none⟩) 1 1).ownBlock := h2
  exact ⟨below_ownB H.B H.B.size H.y hg (Nat.le_refl _), H.k.step H.y (by decide) (by decide) hg, own_keep2 H.d hg (own_apart2 H.d H.y (by decide)), H.nd, h1⟩
theorem RbsW.off {W1 X : World} {h : House} {y base j : Nat} {tu bu xu du v u : Value} {ps : List Rv} (H : CX W1 h X y tu bu xu du) (hr : RbsW X base v ps) : RbsW (X.setCell ⟨y, j, none⟩ u) base v ps := by
  have hg : X.grownBy (X.setCell ⟨y, j, none⟩ u) (Value.slice (some ⟨y, 0, none⟩) 1 1).ownBlock := (World.ownsRow.stored H.y j u).2
  exact ⟨own_keep2 hr.1 hg (own_apart2 hr.1 H.y (by decide)), fun p hp => (hr.2 p hp).step H.y (by decide) (by decide) hg⟩
theorem CS.fin {W1 X : World} {h : House} {y : Nat} {tu bu du : Value} (H : CS W1 h X (some (.agg #[tu, bu])) none (some du) (some y)) : CX W1 h ((((((X.setCell ⟨y, 0, none⟩ (.int .i64 h.now)).setCell ⟨y, 1, none⟩ (.int .i64 h.last)).setCell ⟨y, 2, none⟩ tu).setCell ⟨y, 3, none⟩ bu).setCell ⟨y, 4, none⟩ (.slice none 0 0)).setCell ⟨y, 5, none⟩ du) y tu bu (.slice none 0 0) du := by
  have h12 := H.s12 y rfl
  have h1 := World.ownsRow.stored h12 0 (.int .i64 h.now)
  have h2 := World.ownsRow.stored h1.1 1 (.int .i64 h.last)
  have h3 := World.ownsRow.stored h2.1 2 tu
  have h4 := World.ownsRow.stored h3.1 3 bu
  have h5 := World.ownsRow.stored h4.1 4 (.slice none 0 0)
  have h6 := World.ownsRow.stored h5.1 5 du
  have hg : X.grownBy ((((((X.setCell ⟨y, 0, none⟩ (.int .i64 h.now)).setCell ⟨y, 1, none⟩ (.int .i64 h.last)).setCell ⟨y, 2, none⟩ tu).setCell ⟨y, 3, none⟩ bu).setCell ⟨y, 4, none⟩ (.slice none 0 0)).setCell ⟨y, 5, none⟩ du) (Value.slice (some ⟨y, 0, none⟩) 1 1).ownBlock := grown_trans (grown_trans (grown_trans (grown_trans (grown_trans h1.2 h2.2) h3.2) h4.2) h5.2) h6.2
  exact ⟨below_ownB H.B H.B.size h12 hg (Nat.le_refl _), (H.s6 _ rfl).step h12 (by decide) (by decide) hg, own_keep2 (H.s10 _ rfl).1 hg (own_apart2 (H.s10 _ rfl).1 h12 (by decide)), (H.s10 _ rfl).2, h6.1⟩
theorem newsD {w w' : World} {a4 : Option Addr} {ds : List Done} (h : 0 < ds.length → ∃ b o, a4 = some ⟨b, o, none⟩ ∧ DnsAt w b o ds ∧ b < w.heap.size) (hb : Below w.heap.size w w') : 0 < ds.length → ∃ d, a4 = some d ∧ ∀ j u, (rowsF Done.cells ds)[j]? = some u → w'.cell? (d.add j) = some u := fun hp => by
  obtain ⟨b, o, rfl, hD, hlt⟩ := h hp
  refine ⟨_, rfl, news_rows (by decide) cellsD_len fun i d hd j u hu => ?_⟩
  have h1 := (hD i d hd).1 j u hu
  rw [hb.cell (p := ⟨b, o + i * 3 + j, none⟩) hlt]; exact h1

set_option maxRecDepth 20000 in
set_option maxHeartbeats 8000000 in
theorem copy22_any (h : House) (tv bv xv dv : Value) (w : World) (H : HV w h tv bv xv dv) (hz1 : h.sh.things.length ≤ 100) (hz2 : h.sh.bs.length ≤ 100) (hz3 : ∀ y ∈ h.sh.bs, y.has.length ≤ 100 ∧ y.needs.length ≤ 100) (hnb : h.bs.length ≤ 1048576) (hnd : h.ds.length ≤ 1048576) :
    Calls Tryz.prog 111 #[.agg #[.int .i64 h.now, .int .i64 h.last, tv, bv, xv, dv]] w fun e w' => (∃ tu bu xu du, e = .returned (.agg #[.int .i64 h.now, .int .i64 h.last, tu, bu, xu, du]) ∧ HW w' w.heap.size h tu bu xu du) ∧ Below w.heap.size w w' := by
  have Hsz := H.book.szb
  obtain ⟨a1, c1, a2, c2, a3, c3, a4, c4, rfl, rfl, rfl, rfl⟩ := H.shapes
  obtain ⟨idn, hidn, n0, n1, n2⟩ := info_parts infoDnR
  obtain ⟨W1, hW1, kA, kR, hB1, hs1⟩ : ∃ W1, (w.alloc (.cells #[.int .i64 h.now, .int .i64 h.last, .slice a1 h.sh.things.length c1, .slice a2 h.sh.bs.length c2, .slice a3 h.bs.length c3, .slice a4 h.ds.length c4] 99)).alloc (.cells #[.int .i64 0, .int .i64 0, .slice none 0 0, .slice none 0 0, .slice none 0 0, .slice none 0 0] 99) = W1 ∧ CB W1 w.heap.size [.int .i64 h.now, .int .i64 h.last, .slice a1 h.sh.things.length c1, .slice a2 h.sh.bs.length c2, .slice a3 h.bs.length c3, .slice a4 h.ds.length c4] ∧ CB W1 (w.heap.size + 1) [.int .i64 0, .int .i64 0, .slice none 0 0, .slice none 0 0, .slice none 0 0, .slice none 0 0] ∧ Below w.heap.size w W1 ∧ W1.heap.size = w.heap.size + 2 := ⟨_, rfl, cb2 w _ _ _ _⟩
  go_enter Tryz.func111, Tryz.ntmps111
  go_upto_region 1 with fail
  try rw [hW1]
  clear hW1
  have hA0 : w.heap.size < W1.heap.size := by omega
  have hR0 : w.heap.size + 1 < W1.heap.size := by omega
  have hLW : w.heap.size ≤ W1.heap.size := by omega
  clear hs1
  have H1 := H.up hB1
  have HB : Hid (BkV W1 (.agg #[.slice a1 h.sh.things.length c1, .slice a2 h.sh.bs.length c2]) h.sh) := H1.book
  have hpd : Hid (0 < h.ds.length → ∃ b o, a4 = some ⟨b, o, none⟩ ∧ DnsAt W1 b o h.ds ∧ b < W1.heap.size) := by
    obtain ⟨a, c, e, -, h2⟩ := H1.d
    simp only [Value.slice.injEq] at e
    obtain ⟨rfl, -, -⟩ := e
    exact h2
  have mk : ∀ w', Below W1.heap.size W1 w' → Below W1.heap.size W1 w' ∧ World.cell? w' ⟨w.heap.size, 0, none⟩ = some (.int .i64 h.now) ∧ World.cell? w' ⟨w.heap.size, 1, none⟩ = some (.int .i64 h.last) ∧ World.cell? w' ⟨w.heap.size, 2, none⟩ = some (.slice a1 h.sh.things.length c1) ∧ World.cell? w' ⟨w.heap.size, 3, none⟩ = some (.slice a2 h.sh.bs.length c2) ∧ World.cell? w' ⟨w.heap.size, 4, none⟩ = some (.slice a3 h.bs.length c3) ∧ World.cell? w' ⟨w.heap.size, 5, none⟩ = some (.slice a4 h.ds.length c4) := fun w' hb' => by
    obtain ⟨e0, e1, e2, e3, e4, e5⟩ := (kA.up hb' hA0).c6
    exact ⟨hb', e0, e1, e2, e3, e4, e5⟩
  have Mk : Hid (∀ w', Below W1.heap.size W1 w' → Below W1.heap.size W1 w' ∧ World.cell? w' ⟨w.heap.size, 0, none⟩ = some (.int .i64 h.now) ∧ World.cell? w' ⟨w.heap.size, 1, none⟩ = some (.int .i64 h.last) ∧ World.cell? w' ⟨w.heap.size, 2, none⟩ = some (.slice a1 h.sh.things.length c1) ∧ World.cell? w' ⟨w.heap.size, 3, none⟩ = some (.slice a2 h.sh.bs.length c2) ∧ World.cell? w' ⟨w.heap.size, 4, none⟩ = some (.slice a3 h.bs.length c3) ∧ World.cell? w' ⟨w.heap.size, 5, none⟩ = some (.slice a4 h.ds.length c4)) := mk
  clear mk
  go_cut [3] (fun v3 wc => ∃ (Y : Nat) (tu bu du : Value), v3 = .pointer (some ⟨Y, 0, none⟩) ∧ CX W1 h wc Y tu bu (.slice none 0 0) du)
  case first =>
    have hC : CS W1 h W1.drew none none none none := (cs_nil W1 h).up (Below.refl _ _).drew
    refine wp_region_x 99 (fun w' => Below W1.heap.size W1 w' ∧ World.cell? w' ⟨w.heap.size, 0, none⟩ = some (.int .i64 h.now) ∧ World.cell? w' ⟨w.heap.size, 1, none⟩ = some (.int .i64 h.last) ∧ World.cell? w' ⟨w.heap.size, 2, none⟩ = some (.slice a1 h.sh.things.length c1) ∧ World.cell? w' ⟨w.heap.size, 3, none⟩ = some (.slice a2 h.sh.bs.length c2) ∧ World.cell? w' ⟨w.heap.size, 4, none⟩ = some (.slice a3 h.bs.length c3) ∧ World.cell? w' ⟨w.heap.size, 5, none⟩ = some (.slice a4 h.ds.length c4)) (by kernel_rfl) ?_
    generalize W1.drew = X1 at hC ⊢
    have hS1 := Mk.out _ hC.B
    refine tkx 0 rfl hS1 ?_
    refine tkx 1 rfl hS1 ?_
    refine tkx 2 rfl hS1 ?_
    refine tkx 3 rfl hS1 ?_
    refine tkx 4 rfl hS1 ?_
    refine tkx 5 rfl hS1 ?_
    refine tkx 8 rfl hS1 ?_
    refine tkx 9 rfl hS1 ?_
    refine anyX_three (i := 6) (j := 7) (l := 12) (by kernel_rfl) rfl rfl rfl (fun K hK => ?_) (fun K hK => ?_) (fun K hK => ?_)
    · (go_simp; go_wp2_with (go_at_call 123; refine (copyS_any h.sh _ _ (HB.out.up hC.B) hz1 hz2 hz3).mono ?_; rintro e X2 ⟨⟨v8, rfl, hk8⟩, hb8⟩; replace hC := hC.call hb8 hk8; obtain ⟨t1, d1, t2, d2, ps8, rfl, -⟩ := hk8.parts; clear hk8 hb8); refine hK.out _ _ (fun _ => (Mk.out _ hC.B)) ?_; clear hK K)
      refine anyX_two (i := 7) (j := 12) (by kernel_rfl) rfl rfl (fun K hK => ?_) (fun K hK => ?_)
      · (go_simp; replace hC := hC.lit; refine hK.out _ _ (fun _ => (Mk.out _ hC.B)) ?_; clear hK K; generalize World.alloc _ (.cells #[] 186) = X3 at hC ⊢)
        refine anyX_two (i := 10) (j := 12) (by kernel_rfl) rfl rfl (fun K hK => ?_) (fun K hK => ?_)
        · (have h7 := hC.s7 _ rfl; refine step_append_both rfl _ _ 97 rfl W1.heap.size 186 idn _ 3 32 Tryz.underlying97 hidn n0 n1 n2 rfl (by decide) _ 0 [] rfl h7.1 a4 h.ds.length c4 (rowsF Done.cells h.ds) rfl (rowsF_length cellsD_len _) (newsD hpd.out hC.B) (oneDn _) (by unfold maxLen; omega) (by omega) hC.B.size ?_; intro v9 X5 hown9 hgr9 hnn9; replace hC := hC.app hgr9 hown9 (hnn9 h7.2); obtain ⟨g9, n9, m9, rfl⟩ := hnn9 h7.2; clear hown9 hgr9 h7 hnn9; refine hK.out _ _ (fun _ => (Mk.out _ hC.B)) ?_; clear hK K)
          refine tkx 11 rfl (Mk.out _ hC.B) ?_
          refine anyX_one (i := 12) (by kernel_rfl) rfl (fun K hK => ?_)
          (go_simp; replace hC := hC.new; refine hK.out _ _ (fun _ => (Mk.out _ hC.B)) ?_; clear hK K; generalize World.alloc _ (.cells #[.int .i64 0, .int .i64 0, .slice none 0 0, .slice none 0 0, .slice none 0 0, .slice none 0 0] 99) = X4 at hC ⊢)
          (have kY := cb_of_row (hC.s12 _ rfl); obtain ⟨j0, j1, j2, j3, j4, j5⟩ := kY.c6; obtain ⟨m0, m1, m2, m3, m4, m5⟩ := kY.f6; replace hC := hC.fin; refine anyX_one (i := 13) (by kernel_rfl) rfl (fun K hK => ?_); go_simp; refine hK.out _ _ (fun _ => Mk.out _ hC.B) ?_; clear hK K j0 j1 j2 j3 j4 j5 m0 m1 m2 m3 m4 m5 kY; refine anyX_done (by kernel_rfl) ?_ _; go_wp2_with fail; go_meet; exact ⟨_, _, _, _, rfl, hC⟩)
        · (go_simp; replace hC := hC.new; refine hK.out _ _ (fun _ => (Mk.out _ hC.B)) ?_; clear hK K; generalize World.alloc _ (.cells #[.int .i64 0, .int .i64 0, .slice none 0 0, .slice none 0 0, .slice none 0 0, .slice none 0 0] 99) = X4 at hC ⊢)
          refine anyX_one (i := 10) (by kernel_rfl) rfl (fun K hK => ?_)
          (have h7 := hC.s7 _ rfl; refine step_append_both rfl _ _ 97 rfl W1.heap.size 186 idn _ 3 32 Tryz.underlying97 hidn n0 n1 n2 rfl (by decide) _ 0 [] rfl h7.1 a4 h.ds.length c4 (rowsF Done.cells h.ds) rfl (rowsF_length cellsD_len _) (newsD hpd.out hC.B) (oneDn _) (by unfold maxLen; omega) (by omega) hC.B.size ?_; intro v9 X5 hown9 hgr9 hnn9; replace hC := hC.app hgr9 hown9 (hnn9 h7.2); obtain ⟨g9, n9, m9, rfl⟩ := hnn9 h7.2; clear hown9 hgr9 h7 hnn9; refine hK.out _ _ (fun _ => (Mk.out _ hC.B)) ?_; clear hK K)
          refine tkx 11 rfl (Mk.out _ hC.B) ?_
          (have kY := cb_of_row (hC.s12 _ rfl); obtain ⟨j0, j1, j2, j3, j4, j5⟩ := kY.c6; obtain ⟨m0, m1, m2, m3, m4, m5⟩ := kY.f6; replace hC := hC.fin; refine anyX_one (i := 13) (by kernel_rfl) rfl (fun K hK => ?_); go_simp; refine hK.out _ _ (fun _ => Mk.out _ hC.B) ?_; clear hK K j0 j1 j2 j3 j4 j5 m0 m1 m2 m3 m4 m5 kY; refine anyX_done (by kernel_rfl) ?_ _; go_wp2_with fail; go_meet; exact ⟨_, _, _, _, rfl, hC⟩)
      · (go_simp; replace hC := hC.new; refine hK.out _ _ (fun _ => (Mk.out _ hC.B)) ?_; clear hK K; generalize World.alloc _ (.cells #[.int .i64 0, .int .i64 0, .slice none 0 0, .slice none 0 0, .slice none 0 0, .slice none 0 0] 99) = X4 at hC ⊢)
        refine anyX_one (i := 7) (by kernel_rfl) rfl (fun K hK => ?_)
        (go_simp; replace hC := hC.lit; refine hK.out _ _ (fun _ => (Mk.out _ hC.B)) ?_; clear hK K; generalize World.alloc _ (.cells #[] 186) = X3 at hC ⊢)
        refine anyX_one (i := 10) (by kernel_rfl) rfl (fun K hK => ?_)
        (have h7 := hC.s7 _ rfl; refine step_append_both rfl _ _ 97 rfl W1.heap.size 186 idn _ 3 32 Tryz.underlying97 hidn n0 n1 n2 rfl (by decide) _ 0 [] rfl h7.1 a4 h.ds.length c4 (rowsF Done.cells h.ds) rfl (rowsF_length cellsD_len _) (newsD hpd.out hC.B) (oneDn _) (by unfold maxLen; omega) (by omega) hC.B.size ?_; intro v9 X5 hown9 hgr9 hnn9; replace hC := hC.app hgr9 hown9 (hnn9 h7.2); obtain ⟨g9, n9, m9, rfl⟩ := hnn9 h7.2; clear hown9 hgr9 h7 hnn9; refine hK.out _ _ (fun _ => (Mk.out _ hC.B)) ?_; clear hK K)
        refine tkx 11 rfl (Mk.out _ hC.B) ?_
        (have kY := cb_of_row (hC.s12 _ rfl); obtain ⟨j0, j1, j2, j3, j4, j5⟩ := kY.c6; obtain ⟨m0, m1, m2, m3, m4, m5⟩ := kY.f6; replace hC := hC.fin; refine anyX_one (i := 13) (by kernel_rfl) rfl (fun K hK => ?_); go_simp; refine hK.out _ _ (fun _ => Mk.out _ hC.B) ?_; clear hK K j0 j1 j2 j3 j4 j5 m0 m1 m2 m3 m4 m5 kY; refine anyX_done (by kernel_rfl) ?_ _; go_wp2_with fail; go_meet; exact ⟨_, _, _, _, rfl, hC⟩)
    · (go_simp; replace hC := hC.lit; refine hK.out _ _ (fun _ => (Mk.out _ hC.B)) ?_; clear hK K; generalize World.alloc _ (.cells #[] 186) = X3 at hC ⊢)
      refine anyX_two (i := 6) (j := 12) (by kernel_rfl) rfl rfl (fun K hK => ?_) (fun K hK => ?_)
      · (go_simp; go_wp2_with (go_at_call 123; refine (copyS_any h.sh _ _ (HB.out.up hC.B) hz1 hz2 hz3).mono ?_; rintro e X2 ⟨⟨v8, rfl, hk8⟩, hb8⟩; replace hC := hC.call hb8 hk8; obtain ⟨t1, d1, t2, d2, ps8, rfl, -⟩ := hk8.parts; clear hk8 hb8); refine hK.out _ _ (fun _ => (Mk.out _ hC.B)) ?_; clear hK K)
        refine anyX_two (i := 10) (j := 12) (by kernel_rfl) rfl rfl (fun K hK => ?_) (fun K hK => ?_)
        · (have h7 := hC.s7 _ rfl; refine step_append_both rfl _ _ 97 rfl W1.heap.size 186 idn _ 3 32 Tryz.underlying97 hidn n0 n1 n2 rfl (by decide) _ 0 [] rfl h7.1 a4 h.ds.length c4 (rowsF Done.cells h.ds) rfl (rowsF_length cellsD_len _) (newsD hpd.out hC.B) (oneDn _) (by unfold maxLen; omega) (by omega) hC.B.size ?_; intro v9 X5 hown9 hgr9 hnn9; replace hC := hC.app hgr9 hown9 (hnn9 h7.2); obtain ⟨g9, n9, m9, rfl⟩ := hnn9 h7.2; clear hown9 hgr9 h7 hnn9; refine hK.out _ _ (fun _ => (Mk.out _ hC.B)) ?_; clear hK K)
          refine tkx 11 rfl (Mk.out _ hC.B) ?_
          refine anyX_one (i := 12) (by kernel_rfl) rfl (fun K hK => ?_)
          (go_simp; replace hC := hC.new; refine hK.out _ _ (fun _ => (Mk.out _ hC.B)) ?_; clear hK K; generalize World.alloc _ (.cells #[.int .i64 0, .int .i64 0, .slice none 0 0, .slice none 0 0, .slice none 0 0, .slice none 0 0] 99) = X4 at hC ⊢)
          (have kY := cb_of_row (hC.s12 _ rfl); obtain ⟨j0, j1, j2, j3, j4, j5⟩ := kY.c6; obtain ⟨m0, m1, m2, m3, m4, m5⟩ := kY.f6; replace hC := hC.fin; refine anyX_one (i := 13) (by kernel_rfl) rfl (fun K hK => ?_); go_simp; refine hK.out _ _ (fun _ => Mk.out _ hC.B) ?_; clear hK K j0 j1 j2 j3 j4 j5 m0 m1 m2 m3 m4 m5 kY; refine anyX_done (by kernel_rfl) ?_ _; go_wp2_with fail; go_meet; exact ⟨_, _, _, _, rfl, hC⟩)
        · (go_simp; replace hC := hC.new; refine hK.out _ _ (fun _ => (Mk.out _ hC.B)) ?_; clear hK K; generalize World.alloc _ (.cells #[.int .i64 0, .int .i64 0, .slice none 0 0, .slice none 0 0, .slice none 0 0, .slice none 0 0] 99) = X4 at hC ⊢)
          refine anyX_one (i := 10) (by kernel_rfl) rfl (fun K hK => ?_)
          (have h7 := hC.s7 _ rfl; refine step_append_both rfl _ _ 97 rfl W1.heap.size 186 idn _ 3 32 Tryz.underlying97 hidn n0 n1 n2 rfl (by decide) _ 0 [] rfl h7.1 a4 h.ds.length c4 (rowsF Done.cells h.ds) rfl (rowsF_length cellsD_len _) (newsD hpd.out hC.B) (oneDn _) (by unfold maxLen; omega) (by omega) hC.B.size ?_; intro v9 X5 hown9 hgr9 hnn9; replace hC := hC.app hgr9 hown9 (hnn9 h7.2); obtain ⟨g9, n9, m9, rfl⟩ := hnn9 h7.2; clear hown9 hgr9 h7 hnn9; refine hK.out _ _ (fun _ => (Mk.out _ hC.B)) ?_; clear hK K)
          refine tkx 11 rfl (Mk.out _ hC.B) ?_
          (have kY := cb_of_row (hC.s12 _ rfl); obtain ⟨j0, j1, j2, j3, j4, j5⟩ := kY.c6; obtain ⟨m0, m1, m2, m3, m4, m5⟩ := kY.f6; replace hC := hC.fin; refine anyX_one (i := 13) (by kernel_rfl) rfl (fun K hK => ?_); go_simp; refine hK.out _ _ (fun _ => Mk.out _ hC.B) ?_; clear hK K j0 j1 j2 j3 j4 j5 m0 m1 m2 m3 m4 m5 kY; refine anyX_done (by kernel_rfl) ?_ _; go_wp2_with fail; go_meet; exact ⟨_, _, _, _, rfl, hC⟩)
      · (go_simp; replace hC := hC.new; refine hK.out _ _ (fun _ => (Mk.out _ hC.B)) ?_; clear hK K; generalize World.alloc _ (.cells #[.int .i64 0, .int .i64 0, .slice none 0 0, .slice none 0 0, .slice none 0 0, .slice none 0 0] 99) = X4 at hC ⊢)
        refine anyX_one (i := 6) (by kernel_rfl) rfl (fun K hK => ?_)
        (go_simp; go_wp2_with (go_at_call 123; refine (copyS_any h.sh _ _ (HB.out.up hC.B) hz1 hz2 hz3).mono ?_; rintro e X2 ⟨⟨v8, rfl, hk8⟩, hb8⟩; replace hC := hC.call hb8 hk8; obtain ⟨t1, d1, t2, d2, ps8, rfl, -⟩ := hk8.parts; clear hk8 hb8); refine hK.out _ _ (fun _ => (Mk.out _ hC.B)) ?_; clear hK K)
        refine anyX_one (i := 10) (by kernel_rfl) rfl (fun K hK => ?_)
        (have h7 := hC.s7 _ rfl; refine step_append_both rfl _ _ 97 rfl W1.heap.size 186 idn _ 3 32 Tryz.underlying97 hidn n0 n1 n2 rfl (by decide) _ 0 [] rfl h7.1 a4 h.ds.length c4 (rowsF Done.cells h.ds) rfl (rowsF_length cellsD_len _) (newsD hpd.out hC.B) (oneDn _) (by unfold maxLen; omega) (by omega) hC.B.size ?_; intro v9 X5 hown9 hgr9 hnn9; replace hC := hC.app hgr9 hown9 (hnn9 h7.2); obtain ⟨g9, n9, m9, rfl⟩ := hnn9 h7.2; clear hown9 hgr9 h7 hnn9; refine hK.out _ _ (fun _ => (Mk.out _ hC.B)) ?_; clear hK K)
        refine tkx 11 rfl (Mk.out _ hC.B) ?_
        (have kY := cb_of_row (hC.s12 _ rfl); obtain ⟨j0, j1, j2, j3, j4, j5⟩ := kY.c6; obtain ⟨m0, m1, m2, m3, m4, m5⟩ := kY.f6; replace hC := hC.fin; refine anyX_one (i := 13) (by kernel_rfl) rfl (fun K hK => ?_); go_simp; refine hK.out _ _ (fun _ => Mk.out _ hC.B) ?_; clear hK K j0 j1 j2 j3 j4 j5 m0 m1 m2 m3 m4 m5 kY; refine anyX_done (by kernel_rfl) ?_ _; go_wp2_with fail; go_meet; exact ⟨_, _, _, _, rfl, hC⟩)
    · (go_simp; replace hC := hC.new; refine hK.out _ _ (fun _ => (Mk.out _ hC.B)) ?_; clear hK K; generalize World.alloc _ (.cells #[.int .i64 0, .int .i64 0, .slice none 0 0, .slice none 0 0, .slice none 0 0, .slice none 0 0] 99) = X4 at hC ⊢)
      refine anyX_two (i := 6) (j := 7) (by kernel_rfl) rfl rfl (fun K hK => ?_) (fun K hK => ?_)
      · (go_simp; go_wp2_with (go_at_call 123; refine (copyS_any h.sh _ _ (HB.out.up hC.B) hz1 hz2 hz3).mono ?_; rintro e X2 ⟨⟨v8, rfl, hk8⟩, hb8⟩; replace hC := hC.call hb8 hk8; obtain ⟨t1, d1, t2, d2, ps8, rfl, -⟩ := hk8.parts; clear hk8 hb8); refine hK.out _ _ (fun _ => (Mk.out _ hC.B)) ?_; clear hK K)
        refine anyX_one (i := 7) (by kernel_rfl) rfl (fun K hK => ?_)
        (go_simp; replace hC := hC.lit; refine hK.out _ _ (fun _ => (Mk.out _ hC.B)) ?_; clear hK K; generalize World.alloc _ (.cells #[] 186) = X3 at hC ⊢)
        refine anyX_one (i := 10) (by kernel_rfl) rfl (fun K hK => ?_)
        (have h7 := hC.s7 _ rfl; refine step_append_both rfl _ _ 97 rfl W1.heap.size 186 idn _ 3 32 Tryz.underlying97 hidn n0 n1 n2 rfl (by decide) _ 0 [] rfl h7.1 a4 h.ds.length c4 (rowsF Done.cells h.ds) rfl (rowsF_length cellsD_len _) (newsD hpd.out hC.B) (oneDn _) (by unfold maxLen; omega) (by omega) hC.B.size ?_; intro v9 X5 hown9 hgr9 hnn9; replace hC := hC.app hgr9 hown9 (hnn9 h7.2); obtain ⟨g9, n9, m9, rfl⟩ := hnn9 h7.2; clear hown9 hgr9 h7 hnn9; refine hK.out _ _ (fun _ => (Mk.out _ hC.B)) ?_; clear hK K)
        refine tkx 11 rfl (Mk.out _ hC.B) ?_
        (have kY := cb_of_row (hC.s12 _ rfl); obtain ⟨j0, j1, j2, j3, j4, j5⟩ := kY.c6; obtain ⟨m0, m1, m2, m3, m4, m5⟩ := kY.f6; replace hC := hC.fin; refine anyX_one (i := 13) (by kernel_rfl) rfl (fun K hK => ?_); go_simp; refine hK.out _ _ (fun _ => Mk.out _ hC.B) ?_; clear hK K j0 j1 j2 j3 j4 j5 m0 m1 m2 m3 m4 m5 kY; refine anyX_done (by kernel_rfl) ?_ _; go_wp2_with fail; go_meet; exact ⟨_, _, _, _, rfl, hC⟩)
      · (go_simp; replace hC := hC.lit; refine hK.out _ _ (fun _ => (Mk.out _ hC.B)) ?_; clear hK K; generalize World.alloc _ (.cells #[] 186) = X3 at hC ⊢)
        refine anyX_one (i := 6) (by kernel_rfl) rfl (fun K hK => ?_)
        (go_simp; go_wp2_with (go_at_call 123; refine (copyS_any h.sh _ _ (HB.out.up hC.B) hz1 hz2 hz3).mono ?_; rintro e X2 ⟨⟨v8, rfl, hk8⟩, hb8⟩; replace hC := hC.call hb8 hk8; obtain ⟨t1, d1, t2, d2, ps8, rfl, -⟩ := hk8.parts; clear hk8 hb8); refine hK.out _ _ (fun _ => (Mk.out _ hC.B)) ?_; clear hK K)
        refine anyX_one (i := 10) (by kernel_rfl) rfl (fun K hK => ?_)
        (have h7 := hC.s7 _ rfl; refine step_append_both rfl _ _ 97 rfl W1.heap.size 186 idn _ 3 32 Tryz.underlying97 hidn n0 n1 n2 rfl (by decide) _ 0 [] rfl h7.1 a4 h.ds.length c4 (rowsF Done.cells h.ds) rfl (rowsF_length cellsD_len _) (newsD hpd.out hC.B) (oneDn _) (by unfold maxLen; omega) (by omega) hC.B.size ?_; intro v9 X5 hown9 hgr9 hnn9; replace hC := hC.app hgr9 hown9 (hnn9 h7.2); obtain ⟨g9, n9, m9, rfl⟩ := hnn9 h7.2; clear hown9 hgr9 h7 hnn9; refine hK.out _ _ (fun _ => (Mk.out _ hC.B)) ?_; clear hK K)
        refine tkx 11 rfl (Mk.out _ hC.B) ?_
        (have kY := cb_of_row (hC.s12 _ rfl); obtain ⟨j0, j1, j2, j3, j4, j5⟩ := kY.c6; obtain ⟨m0, m1, m2, m3, m4, m5⟩ := kY.f6; replace hC := hC.fin; refine anyX_one (i := 13) (by kernel_rfl) rfl (fun K hK => ?_); go_simp; refine hK.out _ _ (fun _ => Mk.out _ hC.B) ?_; clear hK K j0 j1 j2 j3 j4 j5 m0 m1 m2 m3 m4 m5 kY; refine anyX_done (by kernel_rfl) ?_ _; go_wp2_with fail; go_meet; exact ⟨_, _, _, _, rfl, hC⟩)
  case rest =>
    obtain ⟨Y, tu, bu, du, rfl, hX⟩ := hcut
    clear Mk HB hpd
    have hxp : Hid (0 < h.bs.length → ∃ b o, a3 = some ⟨b, o, none⟩ ∧ RbsAt W1 b o h.bs ∧ b < W1.heap.size) := by
      obtain ⟨a, c, e, -, h2⟩ := H1.x
      simp only [Value.slice.injEq] at e
      obtain ⟨rfl, -, -⟩ := e
      exact h2
    have Hz : Hid (Szb h.sh) := Hsz
    have Hdz : Hid (∀ d ∈ h.ds, d.nm.size ≤ maxLen) := H1.d.sized
    clear H H1 Hsz hnd hz1 hz2 hz3
    obtain ⟨irb, hirb, r0, r1, r2⟩ := info_parts infoRbR
    go_upto_region 3 with fail
    go_loopw [4] (fun i w' => ∃ (k : Nat) (ps : List Rv) (xu : Value), k ≤ h.bs.length ∧ i = .int .i64 k ∧ ps.map (·.1) = h.bs.take k ∧ CX W1 h w' Y tu bu xu du ∧ RbsW w' W1.heap.size xu ps) (fun i _ => h.bs.length - (intOf i).toNat)
    case atStart => exact ⟨0, [], .slice none 0 0, by omega, rfl, by simp, hX, World.ownsRow_nil _ _ _ _, fun p hp => by simp at hp⟩
    case round =>
      clear hX
      obtain ⟨k, ps, xu, hk, rfl, hps, hX, hW⟩ := hrel
      have Hps : Hid (ps.map (·.1) = h.bs.take k) := hps
      have hpl : ps.length = k := by have := congrArg List.length hps; simp at this; omega
      clear hps
      obtain ⟨e0, e1, e2, e3, e4, e5⟩ := (kA.up hX.B hA0).c6
      by_cases hp : k < h.bs.length
      · obtain ⟨bb, o, rfl, hS, hb⟩ := hxp.out (by omega)
        obtain ⟨p, q, c, g, r, d, ⟨q0, q1, q2, q3, q4, q5⟩, hv⟩ := ((hS.at hp).up hX.B hb).open
        have HX : Hid (h.bs.take (k + 1) = h.bs.take k ++ [h.bs[k]]) := List.take_succ_eq_append_getElem hp
        have hzx := hX.B.size
        generalize h.bs[k] = x0 at *
        have hbb : bb < wr.heap.size := by omega
        have hA1 : w.heap.size < wr.heap.size := by omega
        have j4 : World.cell? wr ⟨Y, 4, none⟩ = some xu := (cb_of_row hX.y).c6.2.2.2.2.1
        have hS0 : Below W1.heap.size wr wr ∧ World.cell? wr ⟨w.heap.size, 4, none⟩ = some (.slice (some ⟨bb, o, none⟩) h.bs.length c3) ∧ World.cell? wr ⟨bb, o + k * 6, none⟩ = some (.string x0.nm) ∧ World.cell? wr ⟨bb, o + k * 6 + 1, none⟩ = some (.slice (some ⟨p, q, none⟩) x0.ps.length c) ∧ World.cell? wr ⟨bb, o + k * 6 + 2, none⟩ = some (.slice (some ⟨g, r, none⟩) x0.sl.length d) ∧ World.cell? wr ⟨bb, o + k * 6 + 3, none⟩ = some (.string x0.ad) ∧ World.cell? wr ⟨bb, o + k * 6 + 4, none⟩ = some (.int .i64 x0.si) ∧ World.cell? wr ⟨bb, o + k * 6 + 5, none⟩ = some (.int .i64 x0.st) ∧ World.cell? wr ⟨Y, 4, none⟩ = some xu := ⟨Below.refl _ _, e4, q0, q1, q2, q3, q4, q5, j4⟩
        have mk : ∀ w', Below W1.heap.size wr w' → World.cell? w' ⟨Y, 4, none⟩ = some xu → Below W1.heap.size wr w' ∧ World.cell? w' ⟨w.heap.size, 4, none⟩ = some (.slice (some ⟨bb, o, none⟩) h.bs.length c3) ∧ World.cell? w' ⟨bb, o + k * 6, none⟩ = some (.string x0.nm) ∧ World.cell? w' ⟨bb, o + k * 6 + 1, none⟩ = some (.slice (some ⟨p, q, none⟩) x0.ps.length c) ∧ World.cell? w' ⟨bb, o + k * 6 + 2, none⟩ = some (.slice (some ⟨g, r, none⟩) x0.sl.length d) ∧ World.cell? w' ⟨bb, o + k * 6 + 3, none⟩ = some (.string x0.ad) ∧ World.cell? w' ⟨bb, o + k * 6 + 4, none⟩ = some (.int .i64 x0.si) ∧ World.cell? w' ⟨bb, o + k * 6 + 5, none⟩ = some (.int .i64 x0.st) ∧ World.cell? w' ⟨Y, 4, none⟩ = some xu := fun w' hb' hy' => ⟨hb', (hb'.cell (p := ⟨w.heap.size, 4, none⟩) hA0).trans e4, (hb'.cell (p := ⟨bb, o + k * 6, none⟩) hb).trans q0, (hb'.cell (p := ⟨bb, o + k * 6 + 1, none⟩) hb).trans q1, (hb'.cell (p := ⟨bb, o + k * 6 + 2, none⟩) hb).trans q2, (hb'.cell (p := ⟨bb, o + k * 6 + 3, none⟩) hb).trans q3, (hb'.cell (p := ⟨bb, o + k * 6 + 4, none⟩) hb).trans q4, (hb'.cell (p := ⟨bb, o + k * 6 + 5, none⟩) hb).trans q5, hy'⟩
        have Mk : Hid (∀ w', Below W1.heap.size wr w' → World.cell? w' ⟨Y, 4, none⟩ = some xu → Below W1.heap.size wr w' ∧ World.cell? w' ⟨w.heap.size, 4, none⟩ = some (.slice (some ⟨bb, o, none⟩) h.bs.length c3) ∧ World.cell? w' ⟨bb, o + k * 6, none⟩ = some (.string x0.nm) ∧ World.cell? w' ⟨bb, o + k * 6 + 1, none⟩ = some (.slice (some ⟨p, q, none⟩) x0.ps.length c) ∧ World.cell? w' ⟨bb, o + k * 6 + 2, none⟩ = some (.slice (some ⟨g, r, none⟩) x0.sl.length d) ∧ World.cell? w' ⟨bb, o + k * 6 + 3, none⟩ = some (.string x0.ad) ∧ World.cell? w' ⟨bb, o + k * 6 + 4, none⟩ = some (.int .i64 x0.si) ∧ World.cell? w' ⟨bb, o + k * 6 + 5, none⟩ = some (.int .i64 x0.st) ∧ World.cell? w' ⟨Y, 4, none⟩ = some xu) := mk
        have hS1 : Below W1.heap.size wr wr.drew ∧ World.cell? wr.drew ⟨w.heap.size, 4, none⟩ = some (.slice (some ⟨bb, o, none⟩) h.bs.length c3) ∧ World.cell? wr.drew ⟨bb, o + k * 6, none⟩ = some (.string x0.nm) ∧ World.cell? wr.drew ⟨bb, o + k * 6 + 1, none⟩ = some (.slice (some ⟨p, q, none⟩) x0.ps.length c) ∧ World.cell? wr.drew ⟨bb, o + k * 6 + 2, none⟩ = some (.slice (some ⟨g, r, none⟩) x0.sl.length d) ∧ World.cell? wr.drew ⟨bb, o + k * 6 + 3, none⟩ = some (.string x0.ad) ∧ World.cell? wr.drew ⟨bb, o + k * 6 + 4, none⟩ = some (.int .i64 x0.si) ∧ World.cell? wr.drew ⟨bb, o + k * 6 + 5, none⟩ = some (.int .i64 x0.st) ∧ World.cell? wr.drew ⟨Y, 4, none⟩ = some xu := mk _ (Below.refl _ _).drew j4
        clear mk hS0 e0 e1 e2 e3 q0 q1 q2 q3 q4 q5 e5
        go_upto_region 5 with fail
        clear e4 j4
        have hX1 : CX W1 h wr.drew Y tu bu xu du := hX.up (Below.refl _ _).drew
        have hW1' : RbsW wr.drew W1.heap.size xu ps := hW.up (Below.refl _ _).drew
        have hv1 := hv.up (Below.refl wr.heap.size wr).drew
        have hbw : Below W1.heap.size wr wr.drew := (Below.refl _ _).drew
        refine wp_region_x 11 (fun w' => Below W1.heap.size wr w' ∧ World.cell? w' ⟨w.heap.size, 4, none⟩ = some (.slice (some ⟨bb, o, none⟩) h.bs.length c3) ∧ World.cell? w' ⟨bb, o + k * 6, none⟩ = some (.string x0.nm) ∧ World.cell? w' ⟨bb, o + k * 6 + 1, none⟩ = some (.slice (some ⟨p, q, none⟩) x0.ps.length c) ∧ World.cell? w' ⟨bb, o + k * 6 + 2, none⟩ = some (.slice (some ⟨g, r, none⟩) x0.sl.length d) ∧ World.cell? w' ⟨bb, o + k * 6 + 3, none⟩ = some (.string x0.ad) ∧ World.cell? w' ⟨bb, o + k * 6 + 4, none⟩ = some (.int .i64 x0.si) ∧ World.cell? w' ⟨bb, o + k * 6 + 5, none⟩ = some (.int .i64 x0.st) ∧ World.cell? w' ⟨Y, 4, none⟩ = some xu) (by kernel_rfl) ?_
        generalize wr.drew = X1 at hX1 hW1' hv1 hbw hS1 ⊢
        refine tkx 0 rfl hS1 ?_
        refine tkx 1 rfl hS1 ?_
        refine tkx 2 rfl hS1 ?_
        refine tkx 3 rfl hS1 ?_
        refine tkx 4 rfl hS1 ?_
        refine tkx 5 rfl hS1 ?_
        refine tkx 6 rfl hS1 ?_
        refine anyX_one (i := 7) (by kernel_rfl) rfl (fun K hK => ?_)
        go_simp
        go_wp2_with (go_at_call 59; refine (copy21_any x0 _ _ _ hv1).mono ?_; rintro e X2 ⟨⟨ru, su, rfl, hrc⟩, hb2⟩)
        have hX2 := hX1.up hb2
        have hW2 := hW1'.up hb2
        have hbw2 : Below W1.heap.size wr X2 := hbw.trans (hb2.mono hX1.B.size)
        have hS2 := Mk.out _ hbw2 (cb_of_row hX2.y).c6.2.2.2.2.1
        have hrc2 := hrc.low (Nat.le_trans hX1.B.size (Nat.le_refl _))
        obtain ⟨g3, n3, m3, rfl⟩ := hrc.nr
        obtain ⟨g4, n4, m4, rfl⟩ := hrc.ns
        clear hX1 hW1' hS1 hrc
        refine hK.out _ _ (fun _ => hS2) ?_; clear hK K
        have hnb9 : Below X2.heap.size X2 (X2.alloc (.cells #[.string x0.nm, .slice (some ⟨g3, 0, none⟩) n3 m3, .slice (some ⟨g4, 0, none⟩) n4 m4, .string x0.ad, .int .i64 x0.si, .int .i64 x0.st] 26)) := (Below.refl _ _).alloc (Nat.le_refl _) _
        have hX3 := hX2.up hnb9
        have hW3 := hW2.up hnb9
        have hrc3 := hrc2.up hnb9
        have hbw3 : Below W1.heap.size wr (X2.alloc (.cells #[.string x0.nm, .slice (some ⟨g3, 0, none⟩) n3 m3, .slice (some ⟨g4, 0, none⟩) n4 m4, .string x0.ad, .int .i64 x0.si, .int .i64 x0.st] 26)) := hbw2.trans (hnb9.mono hX2.B.size)
        have hS3 := Mk.out _ hbw3 (cb_of_row hX3.y).c6.2.2.2.2.1
        have hnews : ∀ (j : Nat) (u : Value), (rowR (x0, .slice (some ⟨g3, 0, none⟩) n3 m3, .slice (some ⟨g4, 0, none⟩) n4 m4))[j]? = some u → (X2.alloc (.cells #[.string x0.nm, .slice (some ⟨g3, 0, none⟩) n3 m3, .slice (some ⟨g4, 0, none⟩) n4 m4, .string x0.ad, .int .i64 x0.si, .int .i64 x0.st] 26)).cell? ((⟨X2.heap.size, 0, none⟩ : Addr).add j) = some u := fun j u hj => hnew6 _ _ _ _ _ _ _ _ hj
        clear hX2 hW2 hrc2 hS2
        refine anyX_one (i := 8) (by kernel_rfl) rfl (fun K hK => ?_)
        go_simp
        refine hK.out _ _ (fun _ => hS3) ?_; clear hK K
        clear hnb9
        generalize X2.alloc (.cells #[.string x0.nm, .slice (some ⟨g3, 0, none⟩) n3 m3, .slice (some ⟨g4, 0, none⟩) n4 m4, .string x0.ad, .int .i64 x0.si, .int .i64 x0.st] 26) = X3 at hX3 hW3 hrc3 hbw3 hS3 hnews ⊢
        refine anyX_one (i := 9) (by kernel_rfl) rfl (fun K hK => ?_)
        refine step_append_own rfl _ _ 96 rfl W1.heap.size 26 irb _ 6 96 Tryz.underlying96 hirb r0 r1 r2 rfl (by decide) xu _ _ rfl hW3.1 ⟨X2.heap.size, 0, none⟩ 1 1 (rowR (x0, .slice (some ⟨g3, 0, none⟩) n3 m3, .slice (some ⟨g4, 0, none⟩) n4 m4)) rfl rfl hnews (rowR_one hrc3) (by unfold maxLen; omega) (by omega) hX3.B.size ?_
        intro v4 X4 hown4 hgr4
        have hX4 := hX3.row hW3.1 hgr4
        have hW4 := hW3.app hrc3 hgr4 hown4
        have hbw4 : Below W1.heap.size wr X4 := below_ownB hbw3 hX3.B.size hW3.1 hgr4 (Nat.le_refl _)
        have hS4 := Mk.out _ hbw4 (cb_of_row hX4.y).c6.2.2.2.2.1
        obtain ⟨gg, cc, rfl⟩ := own_ptr2 hown4 (by omega)
        clear hown4 hgr4 hX3 hW3 hrc3 hbw3 hS3 hnews
        refine hK.out _ _ (fun _ => hS4) ?_; clear hK K
        refine tkx 10 rfl hS4 ?_
        have hX5 := hX4.put (.slice (some ⟨gg, 0, none⟩) (ps.length + 1) cc)
        have hW5 := RbsW.off (j := 4) (u := .slice (some ⟨gg, 0, none⟩) (ps.length + 1) cc) hX4 hW4
        have kY := cb_of_row hX4.y
        obtain ⟨j0, j1, j2, j3, j4, j5⟩ := kY.c6
        obtain ⟨m0, m1, m2, m3', m4', m5⟩ := kY.f6
        refine anyX_one (i := 11) (by kernel_rfl) rfl (fun K hK => ?_)
        go_simp
        refine hK.out _ _ (fun h => absurd rfl h) ?_
        clear hK K
        refine anyX_done (by kernel_rfl) ?_ _
        have HM : Hid ((ps ++ [((x0, .slice (some ⟨g3, 0, none⟩) n3 m3, .slice (some ⟨g4, 0, none⟩) n4 m4) : Rv)]).map (·.1) = h.bs.take (k + 1)) := by
          show _ = _
          rw [HX.out, List.map_append, Hps.out]; rfl
        clear hX4 hW4 hbw4 hS4 kY j0 j1 j2 j3 j4 j5 m0 m1 m2 m3' m4' m5 Mk hbw hbw2 hv hv1 hS hX hW hb2
        go_wp2_with fail
        go_roundw
        case rel =>
          rw [hpl] at hX5 hW5
          exact ⟨k + 1, _, _, by omega, by go_num, HM.out, hX5, hW5⟩
        case measure => simp [intOf]; omega
      · obtain rfl : k = h.bs.length := by omega
        have kR9 := kR.up hX.B hR0
        obtain ⟨y0, y1, y2, y3, y4, y5⟩ := kR9.c6
        obtain ⟨f0, f1, f2, f3, f4, f5⟩ := kR9.f6
        have kY := cb_of_row hX.y
        obtain ⟨j0, j1, j2, j3, j4, j5⟩ := kY.c6
        have Hps2 : Hid (ps.map (·.1) = h.bs) := by show _ = _; rw [Hps.out, List.take_length]
        have hBB := up_trans hB1 (hX.B.mono (Nat.le_refl _))
        obtain ⟨t1, d1, t2, d2, qs, e9, -⟩ := hX.k.parts
        simp only [Value.agg.injEq, Array.mk.injEq, List.cons.injEq, and_true] at e9
        obtain ⟨rfl, rfl⟩ := e9
        obtain ⟨ax, cx, rfl⟩ := own_shape hW.1
        obtain ⟨gd, nd, md, rfl⟩ := hX.nd
        clear hpl
        go_wp2_with fail
        refine end_cb6 Tryz.results111 Tryz.underlying99 rfl sizeHouseS kR9 rfl ?_
        have hg9 := grown_set6 wr (w.heap.size + 1) (.int .i64 h.now) (.int .i64 h.last) (.slice t1 h.sh.things.length d1) (.slice t2 h.sh.bs.length d2) (.slice ax ps.length cx) (.slice (some ⟨gd, 0, none⟩) nd md)
        refine ⟨⟨_, _, _, _, rfl, ?_⟩, below_set6 hBB (by omega) _ _ _ _ _ _⟩
        exact ⟨(hX.k.gr hg9 hR0).low hLW, Hz.out, ⟨ps, (hW.gr hg9 hR0).low hLW, Hps2.out⟩, (dnsW_of (own_grown hX.d hg9 hR0) hX.nd Hdz.out).low hLW⟩
end Go.Proofs.YtliebjbbomghiaaGreatDoor

/- Books that change, in plain: needing less, asking. -/
namespace Go.Proofs.YtliebjbbomghiaaGreatDoor

/-- One batch is changed. -/
def chg (b : Bk) (p : Nat) (f : Ba → Ba) : Bk := match b.bs[p]? with
  | some x => ⟨b.things, b.bs.set p (f x)⟩
  | none => b
theorem chg_at {b : Bk} {p : Nat} {f : Ba → Ba} {x : Ba} (h : b.bs[p]? = some x) : chg b p f = ⟨b.things, b.bs.set p (f x)⟩ := by simp [chg, h]
def needsAt (b : Bk) (nm : ByteArray) : List ByteArray := ((b.bs[plN b nm]?).map (·.needs)).getD []
theorem needsAt_at {b : Bk} {nm : ByteArray} {x : Ba} (h : b.bs[plN b nm]? = some x) : needsAt b nm = x.needs := by simp [needsAt, h]
def lessF (needs : List ByteArray) (x : Ba) : Ba := ⟨x.nm, x.has.filter (memS needs), needs⟩
def insAll (has things : List ByteArray) : List ByteArray := things.foldl insL has
def askF (things : List ByteArray) (x : Ba) : Ba := ⟨x.nm, insAll x.has things, x.needs⟩
theorem insAll_take (has things : List ByteArray) (k : Nat) (hk : k < things.length) : insAll has (things.take (k + 1)) = insL (insAll has (things.take k)) things[k] := by
  unfold insAll; rw [List.take_succ_eq_append_getElem hk, List.foldl_append]; rfl
theorem insAll_len (has : List ByteArray) : ∀ things : List ByteArray, (insAll has things).length ≤ has.length + things.length := by
  intro things
  induction things generalizing has with
  | nil => simp [insAll]
  | cons x r ih =>
    have h1 := ih (insL has x)
    have h2 := insL_len has x
    simp only [insAll, List.foldl_cons, List.length_cons] at *
    omega
theorem insL_mem (ss : List ByteArray) (x : ByteArray) : ∀ s ∈ insL ss x, s ∈ ss ∨ s = x := by
  induction ss with
  | nil => intro s hs; simp [insL] at hs; exact .inr hs
  | cons y r ih =>
    intro s hs
    simp only [insL] at hs
    split at hs
    · rcases List.mem_cons.1 hs with h | h
      · exact .inl (by simp [h])
      · rcases ih s h with h | h
        · exact .inl (by simp [h])
        · exact .inr h
    · split at hs
      · exact .inl hs
      · rcases List.mem_cons.1 hs with h | h
        · exact .inr h
        · exact .inl h
theorem insAll_mem (has : List ByteArray) : ∀ things : List ByteArray, ∀ s ∈ insAll has things, s ∈ has ∨ s ∈ things := by
  intro things
  induction things generalizing has with
  | nil => intro s hs; exact .inl hs
  | cons x r ih =>
    intro s hs
    rcases ih (insL has x) s hs with h | h
    · rcases insL_mem has x s h with h | h
      · exact .inl h
      · exact .inr (by simp [h])
    · exact .inr (by simp [h])
noncomputable def lsnC (b : Bk) (nm : ByteArray) (needs : List ByteArray) : Int :=
  if bookB b = false then 1 else if memS (nms b.bs) nm = false then 3 else if pB (PartOk needs (needsAt b nm)) = false then 2 else 0
noncomputable def lsnB (b : Bk) (nm : ByteArray) (needs : List ByteArray) : Bk :=
  if bookB b = false then nobody else if lsnC b nm needs = 0 then chg b (plN b nm) (lessF needs) else b
theorem less_no {b : Bk} {nm : ByteArray} {needs : List ByteArray} (h : bookB b = false) : lsnC b nm needs = 1 ∧ lsnB b nm needs = nobody := by simp [lsnC, lsnB, h]
theorem less_none {b : Bk} {nm : ByteArray} {needs : List ByteArray} (h : bookB b = true) (hm : memS (nms b.bs) nm = false) : lsnC b nm needs = 3 ∧ lsnB b nm needs = b := by simp [lsnC, lsnB, h, hm]
theorem less_two {b : Bk} {nm : ByteArray} {needs : List ByteArray} (h : bookB b = true) (hm : memS (nms b.bs) nm = true) (hp : pB (PartOk needs (needsAt b nm)) = false) : lsnC b nm needs = 2 ∧ lsnB b nm needs = b := by simp [lsnC, lsnB, h, hm, hp]
theorem less_yes {b : Bk} {nm : ByteArray} {needs : List ByteArray} (h : bookB b = true) (hm : memS (nms b.bs) nm = true) (hp : pB (PartOk needs (needsAt b nm)) = true) : lsnC b nm needs = 0 ∧ lsnB b nm needs = chg b (plN b nm) (lessF needs) := by
  have hc : lsnC b nm needs = 0 := by simp [lsnC, h, hm, hp]
  exact ⟨hc, by rw [lsnB, h, if_neg (by simp), if_pos hc]⟩
theorem filter_take {ss : List ByteArray} {f : ByteArray → Bool} {k : Nat} (hk : k < ss.length) : (ss.take (k + 1)).filter f = (ss.take k).filter f ++ (if f ss[k] = true then [ss[k]] else []) := by
  rw [List.take_succ_eq_append_getElem hk, List.filter_append]
  congr 1
  by_cases h : f ss[k] = true
  · simp [h]
  · simp [h]
end Go.Proofs.YtliebjbbomghiaaGreatDoor

/- A row of batches, a list of one of them turned. -/
namespace Go.Proofs.YtliebjbbomghiaaGreatDoor
open Go.RowKit

theorem rowsB_set1 : ∀ (ps : List Bv) (k : Nat) (p : Bv) (u : Value) (x : Ba), ps[k]? = some p → x.nm = p.1.nm → (rowsB ps).set (k * 3 + 1) u = rowsB (ps.set k (x, u, p.2.2))
  | q :: r, 0, p, u, x, hp, hx => by
    simp at hp; subst hp
    simp [rowsB, rowB, hx]
  | q :: r, k + 1, p, u, x, hp, hx => by
    have ih := rowsB_set1 r k p u x (by simpa using hp) hx
    have hl : (rowB q).length = 3 := rfl
    rw [List.set_cons_succ, rowsB, rowsB, ← ih, List.set_append_right _ _ (by rw [hl]; omega), hl, show (k + 1) * 3 + 1 - 3 = k * 3 + 1 by omega]
theorem rowsB_set2 : ∀ (ps : List Bv) (k : Nat) (p : Bv) (u : Value) (x : Ba), ps[k]? = some p → x.nm = p.1.nm → (rowsB ps).set (k * 3 + 2) u = rowsB (ps.set k (x, p.2.1, u))
  | q :: r, 0, p, u, x, hp, hx => by
    simp at hp; subst hp
    simp [rowsB, rowB, hx]
  | q :: r, k + 1, p, u, x, hp, hx => by
    have ih := rowsB_set2 r k p u x (by simpa using hp) hx
    have hl : (rowB q).length = 3 := rfl
    rw [List.set_cons_succ, rowsB, rowsB, ← ih, List.set_append_right _ _ (by rw [hl]; omega), hl, show (k + 1) * 3 + 2 - 3 = k * 3 + 2 by omega]

end Go.Proofs.YtliebjbbomghiaaGreatDoor
