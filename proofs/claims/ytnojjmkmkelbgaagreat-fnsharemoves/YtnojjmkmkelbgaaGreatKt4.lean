/- The specification's copy of a book (chapter 11): its walk. -/
import Derived.Test.YtnojjmkmkelbgaaGreatKf
import Derived.Test.YtnojjmkmkelbgaaGreatJ6
import Derived.Test.YtnojjmkmkelbgaaGreatJ4
namespace Go.Proofs.YtnojjmkmkelbgaaGreat
open Go.RowKit


set_option maxRecDepth 20000 in
set_option maxHeartbeats 4000000 in
theorem copy11_any (b : Bk) (v : Value) (w : World) (h : BkV w v b) (hn : b.things.length ≤ 1048576) (hn5 : b.bs.length ≤ 100) (hsm : ∀ y ∈ b.bs, y.has.length ≤ 1048576 ∧ y.needs.length ≤ 1048576) :
    Calls Tryz.prog 49 #[v] w fun e w' => (∃ tu bu ps, e = .returned (.agg #[tu, bu]) ∧ OwnT w' w.heap.size tu b.things ∧ BsW w' w.heap.size bu ps ∧ ps.map (·.1) = b.bs ∧ Fam w' w.heap.size none ((tu, b.things) :: famB ps) ∧ ∀ p ∈ ps, NN p.2.1) ∧ Below w.heap.size w w' := by
  obtain ⟨a1, c1, a2, c2, rfl, h1, h2⟩ := h.parts
  obtain ⟨ii, hi, iz0, iz1, iz2⟩ := info_parts infoBat1
  obtain ⟨W1, hW1, kA, kR, hB1, hs1⟩ : ∃ W1, (w.alloc (.cells #[.slice a1 (b).things.length c1, .slice a2 (b).bs.length c2] 26)).alloc (.cells #[.slice none 0 0, .slice none 0 0] 26) = W1 ∧ CB W1 w.heap.size [.slice a1 b.things.length c1, .slice a2 b.bs.length c2] ∧ CB W1 (w.heap.size + 1) [.slice none 0 0, .slice none 0 0] ∧ Below w.heap.size w W1 ∧ W1.heap.size = w.heap.size + 2 := ⟨_, rfl, cb2 w _ _ _ _⟩
  go_enter Tryz.func49, Tryz.ntmps49
  go_upto_region 1 with fail
  try rw [hW1]
  clear hW1
  have l1 := h1.up hB1
  have l2 := h2.up hB1
  obtain ⟨e0, e1⟩ := kA.c2'
  clear h h1 h2
  go_wp2_with fail
  refine (names11_any b.things _ _ l1 hn).mono ?_
  rintro e w2 ⟨⟨tu, rfl, hot, -⟩, hb2⟩
  obtain ⟨at1, ct1, rfl⟩ := hot.lst.shape
  have hz2 := hb2.size
  have kA2 := kA.up hb2 (by omega)
  have kR2 := kR.up hb2 (by omega)
  have l2' := l2.up hb2
  have hBw2 := up_trans hB1 hb2
  have hW1z : w.heap.size + 1 < W1.heap.size := by omega
  have hW1l : w.heap.size ≤ W1.heap.size := by omega
  have hF2 : Fam w2 W1.heap.size (some w2.heap.size) [(.slice at1 b.things.length ct1, b.things)] := ((fam_nil w2 W1.heap.size none).mk1 hot).avoid (Nat.le_refl _)
  clear e0 e1 l1 l2 kA kR hs1 hB1 hb2
  go_upto_region 2 with fail
  obtain ⟨W3, hW3, kX, hb3, hs3⟩ : ∃ W3, w2.alloc (.cells #[.slice at1 b.things.length ct1, .slice none 0 0] 26) = W3 ∧ CB W3 w2.heap.size [.slice at1 b.things.length ct1, .slice none 0 0] ∧ Below w2.heap.size w2 W3 ∧ W3.heap.size = w2.heap.size + 1 := ⟨_, rfl, cb1 w2 _ _⟩
  rw [hW3]
  clear hW3
  clear hs3
  have hF3 := hF2.up hb3
  clear hF2
  obtain ⟨f0, f1⟩ := kA2.c2'
  have hla := kA2.2.2
  obtain ⟨-, hpos⟩ := l2'.at
  have hax : w.heap.size + 1 < w2.heap.size := kR2.2.2
  go_wp2_with fail
  go_loopw [4] (fun i w' => ∃ (k : Nat) (ps : List Bv) (xv : Value), k ≤ b.bs.length ∧ i = .int .i64 k ∧ ps.map (·.1) = b.bs.take k ∧ CB w' w2.heap.size [.slice at1 b.things.length ct1, xv] ∧ BsW w' (w2.heap.size + 1) xv ps ∧ Below w2.heap.size w2 w' ∧ Fam w' W1.heap.size (some w2.heap.size) ((.slice at1 b.things.length ct1, b.things) :: famB ps) ∧ ∀ p ∈ ps, NN p.2.1) (fun i _ => b.bs.length - (intOf i).toNat)
  case atStart => exact ⟨0, [], .slice none 0 0, by omega, rfl, by simp, kX, ⟨⟨by simp [rowsB], .inl ⟨rfl, rfl⟩⟩, fun p hp => by simp at hp⟩, hb3, hF3, fun p hp => by simp at hp⟩
  case round =>
    clear kX hb3 hF3
    obtain ⟨k, ps, xv, hk, rfl, hps, kX, hW, hB, hF, hnn⟩ := hrel
    have HF : Hid (Fam wr W1.heap.size (some w2.heap.size) ((.slice at1 b.things.length ct1, b.things) :: famB ps)) := hF
    clear hF
    have Hnn : Hid (∀ p ∈ ps, NN p.2.1) := hnn
    clear hnn
    have Hps : Hid (ps.map (·.1) = b.bs.take k) := hps
    have hpl : ps.length = k := by have := congrArg List.length hps; simp at this; omega
    clear hps
    by_cases hp : k < b.bs.length
    · obtain ⟨bb, o, rfl, hS, hb⟩ := hpos (by omega)
      obtain ⟨a3, d3, a4, d4, c3, c4, c5, l3, l4, z0⟩ := (hS.at hp).cells
      have g1 := (hB.cell (p := ⟨w.heap.size, 1, none⟩) hla).trans f1
      have c3 := (hB.cell (p := ⟨bb, o + k * 3, none⟩) hb).trans c3
      have c4 := (hB.cell (p := ⟨bb, o + k * 3 + 1, none⟩) hb).trans c4
      have c5 := (hB.cell (p := ⟨bb, o + k * 3 + 2, none⟩) hb).trans c5
      obtain ⟨s1, s2⟩ := hsm b.bs[k] (by simp)
      have l3 := l3.up hB
      have l4 := l4.up hB
      have HX : Hid (b.bs.take (k + 1) = b.bs.take k ++ [b.bs[k]]) := List.take_succ_eq_append_getElem hp
      generalize b.bs[k] = x0 at *
      obtain ⟨⟨x0c, x1c⟩, xf0, xf1⟩ := kX.c2
      have hxl := kX.2.2
      have hzb := hB.size
      have hA' : w.heap.size < w2.heap.size + 1 := by omega
      have hbb' : bb < w2.heap.size + 1 := by omega
      have mk : ∀ w', Below (w2.heap.size + 1) wr w' → Below (w2.heap.size + 1) wr w' ∧ World.cell? w' ⟨w.heap.size, 1, none⟩ = some (.slice (some ⟨bb, o, none⟩) b.bs.length c2) ∧ World.cell? w' ⟨bb, o + k * 3, none⟩ = some (.string x0.nm) ∧ World.cell? w' ⟨bb, o + k * 3 + 1, none⟩ = some (.slice a3 x0.has.length d3) ∧ World.cell? w' ⟨bb, o + k * 3 + 2, none⟩ = some (.slice a4 x0.needs.length d4) ∧ World.cell? w' ⟨w2.heap.size, 1, none⟩ = some xv := fun w' hb' => ⟨hb', (hb'.cell (p := ⟨w.heap.size, 1, none⟩) hA').trans g1, (hb'.cell (p := ⟨bb, o + k * 3, none⟩) hbb').trans c3, (hb'.cell (p := ⟨bb, o + k * 3 + 1, none⟩) hbb').trans c4, (hb'.cell (p := ⟨bb, o + k * 3 + 2, none⟩) hbb').trans c5, (hb'.cell (p := ⟨w2.heap.size, 1, none⟩) (Nat.lt_succ_self _)).trans x1c⟩
      have hS0 := mk wr (Below.refl _ _)
      have hrow := hW.1
      rw [hpl] at hrow
      have hb0 : Below wr.heap.size wr wr.drew := (Below.refl _ _).drew
      have Mk : Hid (∀ w', Below (w2.heap.size + 1) wr w' → Below (w2.heap.size + 1) wr w' ∧ World.cell? w' ⟨w.heap.size, 1, none⟩ = some (.slice (some ⟨bb, o, none⟩) b.bs.length c2) ∧ World.cell? w' ⟨bb, o + k * 3, none⟩ = some (.string x0.nm) ∧ World.cell? w' ⟨bb, o + k * 3 + 1, none⟩ = some (.slice a3 x0.has.length d3) ∧ World.cell? w' ⟨bb, o + k * 3 + 2, none⟩ = some (.slice a4 x0.needs.length d4) ∧ World.cell? w' ⟨w2.heap.size, 1, none⟩ = some xv) := mk
      clear mk g1 c3 c4 c5 x0c x1c
      have hS1 : Below (w2.heap.size + 1) wr wr.drew ∧ World.cell? wr.drew ⟨w.heap.size, 1, none⟩ = some (.slice (some ⟨bb, o, none⟩) b.bs.length c2) ∧ World.cell? wr.drew ⟨bb, o + k * 3, none⟩ = some (.string x0.nm) ∧ World.cell? wr.drew ⟨bb, o + k * 3 + 1, none⟩ = some (.slice a3 x0.has.length d3) ∧ World.cell? wr.drew ⟨bb, o + k * 3 + 2, none⟩ = some (.slice a4 x0.needs.length d4) ∧ World.cell? wr.drew ⟨w2.heap.size, 1, none⟩ = some xv := Mk.out _ (Below.refl _ _).drew
      go_wp2_with fail
      refine wp_region_x 26 (fun w' => Below (w2.heap.size + 1) wr w' ∧ World.cell? w' ⟨w.heap.size, 1, none⟩ = some (.slice (some ⟨bb, o, none⟩) b.bs.length c2) ∧ World.cell? w' ⟨bb, o + k * 3, none⟩ = some (.string x0.nm) ∧ World.cell? w' ⟨bb, o + k * 3 + 1, none⟩ = some (.slice a3 x0.has.length d3) ∧ World.cell? w' ⟨bb, o + k * 3 + 2, none⟩ = some (.slice a4 x0.needs.length d4) ∧ World.cell? w' ⟨w2.heap.size, 1, none⟩ = some xv) (by kernel_rfl) ?_
      refine tkx 0 rfl hS1 ?_
      refine tkx 1 rfl hS1 ?_
      refine tkx 2 rfl hS1 ?_
      refine tkx 3 rfl hS1 ?_
      refine tkx 4 rfl hS1 ?_
      refine tkx 5 rfl hS1 ?_
      refine tkx 6 rfl hS1 ?_
      refine tkx 7 rfl hS1 ?_
      refine tkx 8 rfl hS1 ?_
      refine tkx 9 rfl hS1 ?_
      refine tkx 10 rfl hS1 ?_
      refine tkx 11 rfl hS1 ?_
      refine tkx 12 rfl hS1 ?_
      refine tkx 13 rfl hS1 ?_
      refine tkx 15 rfl hS1 ?_
      refine tkx 16 rfl hS1 ?_
      refine tkx 17 rfl hS1 ?_
      refine tkx 18 rfl hS1 ?_
      refine tkx 19 rfl hS1 ?_
      refine tkx 20 rfl hS1 ?_
      refine onx 14 rfl (fun K hK => ?_)
      go_simp
      go_wp2_with (go_at_call 73; refine (names11_any x0.has _ _ (l3.up hb0) s1).mono ?_; rintro e w8 ⟨⟨hu, rfl, hoh, hun⟩, hbn8⟩; have Hun : Hid (NN hu) := hun; clear hun; have hb8 := up_trans hb0 hbn8; obtain ⟨ah, ch, rfl⟩ := hoh.lst.shape; have hS8 : Below (w2.heap.size + 1) wr w8 ∧ World.cell? w8 ⟨w.heap.size, 1, none⟩ = some (.slice (some ⟨bb, o, none⟩) b.bs.length c2) ∧ World.cell? w8 ⟨bb, o + k * 3, none⟩ = some (.string x0.nm) ∧ World.cell? w8 ⟨bb, o + k * 3 + 1, none⟩ = some (.slice a3 x0.has.length d3) ∧ World.cell? w8 ⟨bb, o + k * 3 + 2, none⟩ = some (.slice a4 x0.needs.length d4) ∧ World.cell? w8 ⟨w2.heap.size, 1, none⟩ = some xv := Mk.out _ (hb8.mono hxl))
      refine gox hK hS8 ?_; clear hK K
      refine onx 21 rfl (fun K hK => ?_)
      go_simp
      go_wp2_with (go_at_call 73; refine (names11_any x0.needs _ _ (l4.up hb8) s2).mono ?_; rintro e w9 ⟨⟨nu, rfl, hon, -⟩, hbn9⟩; have hb9 := up_trans hb8 hbn9; obtain ⟨an, cn, rfl⟩ := hon.lst.shape; have hS9 : Below (w2.heap.size + 1) wr w9 ∧ World.cell? w9 ⟨w.heap.size, 1, none⟩ = some (.slice (some ⟨bb, o, none⟩) b.bs.length c2) ∧ World.cell? w9 ⟨bb, o + k * 3, none⟩ = some (.string x0.nm) ∧ World.cell? w9 ⟨bb, o + k * 3 + 1, none⟩ = some (.slice a3 x0.has.length d3) ∧ World.cell? w9 ⟨bb, o + k * 3 + 2, none⟩ = some (.slice a4 x0.needs.length d4) ∧ World.cell? w9 ⟨w2.heap.size, 1, none⟩ = some xv := Mk.out _ (hb9.mono hxl))
      refine gox hK hS9 ?_; clear hK K
      refine tkx 22 rfl hS9 ?_
      have hSA : Below (w2.heap.size + 1) wr (w9.alloc (.cells #[.string x0.nm, .slice ah x0.has.length ch, .slice an x0.needs.length cn] 32)) ∧ World.cell? (w9.alloc (.cells #[.string x0.nm, .slice ah x0.has.length ch, .slice an x0.needs.length cn] 32)) ⟨w.heap.size, 1, none⟩ = some (.slice (some ⟨bb, o, none⟩) b.bs.length c2) ∧ World.cell? (w9.alloc (.cells #[.string x0.nm, .slice ah x0.has.length ch, .slice an x0.needs.length cn] 32)) ⟨bb, o + k * 3, none⟩ = some (.string x0.nm) ∧ World.cell? (w9.alloc (.cells #[.string x0.nm, .slice ah x0.has.length ch, .slice an x0.needs.length cn] 32)) ⟨bb, o + k * 3 + 1, none⟩ = some (.slice a3 x0.has.length d3) ∧ World.cell? (w9.alloc (.cells #[.string x0.nm, .slice ah x0.has.length ch, .slice an x0.needs.length cn] 32)) ⟨bb, o + k * 3 + 2, none⟩ = some (.slice a4 x0.needs.length d4) ∧ World.cell? (w9.alloc (.cells #[.string x0.nm, .slice ah x0.has.length ch, .slice an x0.needs.length cn] 32)) ⟨w2.heap.size, 1, none⟩ = some xv := Mk.out _ ((hb9.mono hxl).alloc (Nat.le_trans hxl hb9.size) _)
      have hownA := (own_up hrow hb9).alloc (.cells #[.string x0.nm, .slice ah x0.has.length ch, .slice an x0.needs.length cn] 32)
      refine onx 23 rfl (fun K hK => ?_)
      go_simp
      refine gox hK hSA ?_; clear hK K
      refine onx 24 rfl (fun K hK => ?_)
      refine step_append_own rfl _ _ 24 rfl (w2.heap.size + 1) 32 ii _ 3 64 Tryz.underlying24 hi iz0 iz1 iz2 rfl (by decide) xv _ _ rfl hownA ⟨w9.heap.size, 0, none⟩ 1 1 [.string x0.nm, .slice ah x0.has.length ch, .slice an x0.needs.length cn] rfl rfl (fun j u hj => hnew3 _ _ _ _ _ hj) (by simp [Value.oneCell']) (by unfold maxLen; omega) (by omega) (by have := hb9.size; simp; omega) ?_
      intro v' w10 hown10 hgr10
      have kX10 := ((kX.up hb9 hxl).up ((Below.refl w9.heap.size w9).alloc (Nat.le_refl _) (.cells #[.string x0.nm, .slice ah x0.has.length ch, .slice an x0.needs.length cn] 32)) (Nat.lt_of_lt_of_le hxl hb9.size)).kept hgr10 (own_ne hownA (by omega))
      have hBW10 := bsW_app hW hb9 (own_low (hoh.up hbn9) hxl) (own_low hon (Nat.le_trans hxl hb8.size)) z0 hgr10 (by rw [hpl]; exact hown10)
      have hb10 : Below (w2.heap.size + 1) wr w10 := below_ownB ((hb9.mono hxl).alloc (Nat.le_trans hxl hb9.size) (.cells #[.string x0.nm, .slice ah x0.has.length ch, .slice an x0.needs.length cn] 32)) (by have := hb9.size; simp; omega) hownA hgr10 (Nat.le_refl _)
      have hS10 : Below (w2.heap.size + 1) wr w10 ∧ World.cell? w10 ⟨w.heap.size, 1, none⟩ = some (.slice (some ⟨bb, o, none⟩) b.bs.length c2) ∧ World.cell? w10 ⟨bb, o + k * 3, none⟩ = some (.string x0.nm) ∧ World.cell? w10 ⟨bb, o + k * 3 + 1, none⟩ = some (.slice a3 x0.has.length d3) ∧ World.cell? w10 ⟨bb, o + k * 3 + 2, none⟩ = some (.slice a4 x0.needs.length d4) ∧ World.cell? w10 ⟨w2.heap.size, 1, none⟩ = some xv := Mk.out _ hb10
      obtain ⟨gg, cc, rfl⟩ := own_ptr2 hown10 (by omega)
      obtain ⟨⟨j0, j1⟩, m0, m1⟩ := kX10.c2
      refine gox hK hS10 ?_; clear hK K
      refine tkx 25 rfl hS10 ?_
      refine onx 26 rfl (fun K hK => ?_)
      go_simp
      refine finx hK ?_
      clear hK K
      refine anyX_done (by kernel_rfl) ?_ _
      have hF10 : Fam w10 W1.heap.size (some w2.heap.size) ((.slice at1 b.things.length ct1, b.things) :: famB (ps ++ [((x0, .slice ah x0.has.length ch, .slice an x0.needs.length cn) : Bv)])) := by
        have f0 := HF.out
        have f8 := f0.new (f0.up hb8) hoh (Nat.le_refl _) (by have := hB.size; have := hBw2.size; show W1.heap.size ≤ wr.heap.size; omega) (at_lt hxl)
        have f9 := f8.new (f8.up hbn9) hon (Nat.le_refl _) (by have := hb8.size; omega) (at_lt (by have := hb8.size; omega))
        have fA := (f9.up ((Below.refl w9.heap.size w9).alloc (Nat.le_refl _) (.cells #[.string x0.nm, .slice ah x0.has.length ch, .slice an x0.needs.length cn] 32))).row hownA hgr10
        exact fA.turn.perm (famB_snoc ps (x0, .slice ah x0.has.length ch, .slice an x0.needs.length cn) [(.slice at1 b.things.length ct1, b.things)])
      have HNN : Hid (∀ p ∈ ps ++ [((x0, .slice ah x0.has.length ch, .slice an x0.needs.length cn) : Bv)], NN p.2.1) := fun p hp => by
        rcases List.mem_append.1 hp with h | h
        · exact Hnn.out p h
        · obtain rfl : p = (x0, .slice ah x0.has.length ch, .slice an x0.needs.length cn) := by simpa using h
          exact Hun.out
      have HM : Hid ((ps ++ [((x0, .slice ah x0.has.length ch, .slice an x0.needs.length cn) : Bv)]).map (·.1) = b.bs.take (k + 1)) := by
        show _ = _
        rw [HX.out, List.map_append, Hps.out]; rfl
      have hB10 : Below w2.heap.size w2 (w10.setCell ⟨w2.heap.size, 1, none⟩ (.slice (some ⟨gg, 0, none⟩) (k + 1) cc)) := (hB.trans (hb10.mono (Nat.le_succ _))).setCell (p := ⟨w2.heap.size, 1, none⟩) (Nat.le_refl _) _
      have kX11 : CB (w10.setCell ⟨w2.heap.size, 1, none⟩ (.slice (some ⟨gg, 0, none⟩) (k + 1) cc)) w2.heap.size [.slice at1 b.things.length ct1, .slice (some ⟨gg, 0, none⟩) (k + 1) cc] := kX10.set (j := 1) (by simp)
      have hF11 := hF10.set 1 (.slice (some ⟨gg, 0, none⟩) (k + 1) cc)
      have hBW11 := hBW10.set (j := 1) (u := .slice (some ⟨gg, 0, none⟩) (k + 1) cc) (Nat.lt_succ_self w2.heap.size)
      clear hS1 hS8 hS9 hSA hS10 hownA hown10 hgr10 hb10 hb9 hb8 hbn8 hbn9 hoh hon kX10 hBW10 hF10 j0 j1 m0 m1 Mk hrow hW kX l3 l4 xf0 xf1 hS
      go_wp2_with fail
      go_roundw
      case rel => exact ⟨k + 1, _, _, by omega, by go_num, HM.out, kX11, hBW11, hB10, hF11, HNN.out⟩
      case measure => simp [intOf]; omega
    · obtain rfl : k = b.bs.length := by omega
      have kR := kR2.up hB kR2.2.2
      have g1 := (hB.cell (p := ⟨w.heap.size, 1, none⟩) hla).trans f1
      obtain ⟨⟨x0c, x1c⟩, -⟩ := kX.c2
      obtain ⟨⟨y0c, y1c⟩, yf0, yf1⟩ := kR.c2
      have hot2 := hot.up hB
      have Hps2 : Hid (ps.map (·.1) = b.bs) := by show _ = _; rw [Hps.out, List.take_length]
      have hBB := up_trans hBw2 hB
      obtain ⟨ax, cx, rfl⟩ := own_shape hW.1
      clear hpos hpl
      go_wp2_with fail
      refine end_cb2 Tryz.results49 Tryz.underlying26 rfl sizeBk1 kR rfl ?_
      refine ⟨⟨_, _, ps, rfl, ?_, ?_, Hps2.out, ((HF.out.free.setLow (by omega) _ _).setLow (by omega) _ _).low (by omega), Hnn.out⟩, below_set2 hBB (Nat.le_succ _) _ _⟩
      · exact (show OwnT _ _ _ _ from own_low (own_grown (own_grown hot2 (grown_setCell (rb := w.heap.size + 1) (off := 0) (grown_refl _ _) _) hW1z) (grown_setCell (rb := w.heap.size + 1) (off := 1) (grown_refl _ _) _) hW1z) hW1l)
      · exact ((hW.set (by omega)).set (by omega)).low (by omega)
end Go.Proofs.YtnojjmkmkelbgaaGreat
