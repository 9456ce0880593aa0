/- Drawing batches: one. -/
import Derived.Test.YtliebjbbomghiaaGreatDoorJ45
namespace Go.Proofs.YtliebjbbomghiaaGreatDoor
open Go.RowKit

/-- What was drawn is one's own. -/
theorem rcW_drawn {w : World} {base : Nat} {u su : Value} {ps : List Ph} {sl : List Sl} {x : Rb} (h1 : w.ownsRow base 34 8 u ps.length (rowP ps)) (hp : 1 ≤ ps.length) (hp2 : ps.length ≤ 13) (hz : ∀ p ∈ ps, p.sz) (h2 : w.ownsRow base 69 2 su sl.length (rowsF Sl.cells sl)) (hn : NN su) (hl : sl.length ≤ 1000) (hzs : ∀ y ∈ sl, y.s.size ≤ maxLen ∧ y.t.size ≤ maxLen) (hzn : x.nm.size ≤ maxLen) (e1 : x.ps = ps) (e2 : x.sl = sl) : RcW w base (x, u, su) := by
  subst e1 e2
  refine ⟨by rw [← rowP_rowsF]; exact h1, h2, ?_, hn, fun p hp => ?_, hzs, hzn, ?_, ?_⟩
  · obtain ⟨g, cap, rfl⟩ := own_ptr2 h1 (by omega)
    exact ⟨_, _, _, rfl⟩
  · have := hz p hp; exact ⟨this.1, this.2.1, this.2.2.1, this.2.2.2.1, this.2.2.2.2.1⟩
  · show x.ps.length ≤ 1048576; omega
  · show x.sl.length ≤ 1048576; omega
theorem OwnR.up {w w' : World} {base : Nat} {h : House} {xv : Value} (H : OwnR w base h xv) (hb : Below w.heap.size w w') : OwnR w' base h xv := fun hp => (H hp).imp fun _ x => ⟨x.1.up hb, x.2⟩
def abc25 : List ByteArray := [⟨#[97]⟩, ⟨#[98]⟩, ⟨#[99]⟩, ⟨#[100]⟩, ⟨#[101]⟩, ⟨#[102]⟩]
theorem abc25_sz : ∀ s ∈ abc25, s.size ≤ maxLen := by decide
theorem strs_ls {w : World} {g c : Nat} {ss : List ByteArray} (h : StrsAt w g 0 ss) (hg : g < w.heap.size) (hn : ss.length ≤ 1000) (hz : ∀ s ∈ ss, s.size ≤ maxLen) : Ls w (.slice (some ⟨g, 0, none⟩) ss.length c) ss := ⟨_, _, rfl, by unfold maxLen; omega, hz, fun _ => ⟨_, _, rfl, h, hg⟩⟩
set_option maxRecDepth 20000 in
set_option maxHeartbeats 8000000 in
theorem one25_any (rb len N : Nat) (v : Value) (w : World) (hR : Rd w rb v len N) (hN : N ≤ 400000) :
    Calls Tryz.prog 36 #[.pointer (some ⟨rb, 0, none⟩)] w fun e w' => (∃ (x : Rb) (rv sv : Value), e = .returned (.agg #[.string x.nm, rv, sv, .string x.ad, .int .i64 x.si, .int .i64 x.st]) ∧ Okp x.ps x.sl ∧ RcW w' w.heap.size (x, rv, sv)) ∧ Rd w' rb v len (N + 9400) ∧ w.grownBy w' (some rb) := by
  have hrl := hR.lt
  obtain ⟨W1, hW1, kR, hR1, hG1, hz1⟩ : ∃ W1, w.alloc (.cells #[.string ⟨#[]⟩, .slice none 0 0, .slice none 0 0, .string ⟨#[]⟩, .int .i64 0, .int .i64 0] 26) = W1 ∧ CB W1 w.heap.size [.string ⟨#[]⟩, .slice none 0 0, .slice none 0 0, .string ⟨#[]⟩, .int .i64 0, .int .i64 0] ∧ Rd W1 rb v len N ∧ w.grownBy W1 (some rb) ∧ w.heap.size < W1.heap.size := ⟨_, rfl, cb_alloc w _ _, hR.alloc _, grown_alloc (grown_refl _ _) _, by simp⟩
  go_enter Tryz.func36, Tryz.ntmps36
  go_upto_region 1 with fail
  try rw [hW1]
  clear hW1 hR
  go_upto_region 2 with (go_at_call 56; refine (house25_any rb len _ v _ hR1 hN).mono ?_; rintro e w2 ⟨⟨h, tv, bv, xv, dv, rfl, hf, hq, H2, ho⟩, hR2, hg2⟩; obtain ⟨a1, c1, a2, c2, a3, c3, a4, c4, rfl, rfl, rfl, rfl⟩ := H2.v.shapes)
  have hz2 := hg2.size
  obtain ⟨W3, hW3, kH, kR3, hR3, hG3, ho3⟩ : ∃ W3, w2.alloc (.cells #[.int .i64 h.now, .int .i64 h.last, .slice a1 h.sh.things.length c1, .slice a2 h.sh.bs.length c2, .slice a3 h.bs.length c3, .slice a4 h.ds.length c4] 99) = W3 ∧ CB W3 w2.heap.size [.int .i64 h.now, .int .i64 h.last, .slice a1 h.sh.things.length c1, .slice a2 h.sh.bs.length c2, .slice a3 h.bs.length c3, .slice a4 h.ds.length c4] ∧ CB W3 w.heap.size [.string ⟨#[]⟩, .slice none 0 0, .slice none 0 0, .string ⟨#[]⟩, .int .i64 0, .int .i64 0] ∧ Rd W3 rb v len (N + 9000) ∧ w.grownBy W3 (some rb) ∧ OwnR W3 (w.heap.size + 1) h (.slice a3 h.bs.length c3) := by
    have hb3 : Below w2.heap.size w2 (w2.alloc (.cells #[.int .i64 h.now, .int .i64 h.last, .slice a1 h.sh.things.length c1, .slice a2 h.sh.bs.length c2, .slice a3 h.bs.length c3, .slice a4 h.ds.length c4] 99)) := (Below.refl _ _).alloc (Nat.le_refl _) _
    exact ⟨_, rfl, cb_alloc w2 _ _, (kR.kept hg2 (by simp; omega)).up hb3 (by omega), hR2.kept hb3, grown_trans (grown_trans hG1 hg2) (grown_below hb3), (ho.low (by omega)).up hb3⟩
  try rw [hW3]
  have Hq : Hid (BsQ Okp h) := hq
  have hn := hf.2.1
  clear hW3 H2 ho hR2 hg2 kR hG1 hR1 hf hq
  generalize hHB : w2.heap.size = HB at *
  have hHBz : HB < W3.heap.size := kH.2.2
  by_cases hp : 0 < h.bs.length
  · obtain ⟨ps, hrow, hmap⟩ := ho3 hp
    have hlen : ps.length = h.bs.length := by rw [← hmap, List.length_map]
    obtain ⟨g, cap, e⟩ := own_ptr2 hrow.1 (by omega)
    simp only [Value.slice.injEq] at e
    obtain ⟨rfl, -, rfl⟩ := e
    obtain ⟨-, -, -, -, e4, -⟩ := kH.c6
    go_upto_region 3 with fail
    have hS1 : World.cell? W3.drew ⟨HB, 4, none⟩ = some (.slice (some ⟨g, 0, none⟩) h.bs.length c3) := e4
    have hRd : Rd W3.drew rb v len (N + 9000) := hR3.drew
    have hGd : w.grownBy W3.drew (some rb) := grown_drew hG3
    have hrowd := hrow.up (Below.refl _ _).drew
    have kRd := kR3.up (Below.refl _ _).drew kR3.2.2
    have kHd := kH.up (Below.refl _ _).drew kH.2.2
    have hzd : W3.heap.size = W3.drew.heap.size := rfl
    refine wp_region_x 9 (fun w' => World.cell? w' ⟨HB, 4, none⟩ = some (.slice (some ⟨g, 0, none⟩) h.bs.length c3)) (by kernel_rfl) ?_
    generalize W3.drew = X1 at hS1 hRd hGd hrowd kRd kHd hzd ⊢
    clear hR3 hG3 hrow kR3 kH e4 ho3
    refine tkx 0 rfl hS1 ?_
    refine tkx 1 rfl hS1 ?_
    refine tkx 2 rfl hS1 ?_
    refine tkx 3 rfl hS1 ?_
    refine tkx 4 rfl hS1 ?_
    refine tkx 5 rfl hS1 ?_
    refine anyX_one (i := 6) (by kernel_rfl) rfl (fun K hK => ?_)
    go_simp
    go_wp2_with (go_at_call 37; refine (pick_any rb len _ v (h.bs.length : Int) _ hRd (by omega)).mono ?_; rintro e w4 ⟨⟨y, rfl, hy0, hy1⟩, hR4, hg4⟩)
    have hG4 := grown_trans hGd hg4
    have kR4 := kRd.kept hg4 (by simp; omega)
    have kH4 := kHd.kept hg4 (by simp; omega)
    have hS4 : World.cell? w4 ⟨HB, 4, none⟩ = some (.slice (some ⟨g, 0, none⟩) h.bs.length c3) := kH4.c6.2.2.2.2.1
    have hrow4 := hrowd.gr hg4 (by omega)
    have hy2 := hy1 (by omega)
    obtain ⟨j, rfl⟩ : ∃ j : Nat, y = (j : Int) := ⟨y.toNat, by omega⟩
    have hj : j < h.bs.length := by omega
    have hj' : j < ps.length := by omega
    have hrow5 : w4.ownsRow (w.heap.size + 1) 26 6 (.slice (some ⟨g, 0, none⟩) h.bs.length c3) h.bs.length (rowsF rowR ps) := by
      have := hrow4.1
      rwa [hlen] at this
    have hrg := own_rows rowR_len hrow5 (List.getElem?_eq_getElem hj')
    have hrc := hrow4.2 _ (List.getElem_mem hj')
    have Hqx : Hid (Okp (ps[j]).1.ps (ps[j]).1.sl) := Hq.out _ (by rw [← hmap]; exact List.mem_map_of_mem (List.getElem_mem hj'))
    clear hRd hGd kRd kHd hrowd hrow4 hrow5 hmap hlen hg4 hy1
    generalize ps[j] = p at *
    obtain ⟨x, ru, su⟩ := p
    obtain ⟨g1, n1, m1, e1⟩ : NN ru := hrc.nr
    obtain ⟨g2, n2, m2, e2⟩ : NN su := hrc.ns
    subst e1 e2
    have q0 := hrg 0 _ rfl
    have q1 := hrg 1 _ rfl
    have q2 := hrg 2 _ rfl
    have q3 := hrg 3 _ rfl
    have q4 := hrg 4 _ rfl
    have q5 := hrg 5 _ rfl
    dsimp only at q0 q1 q2 q3 q4 q5
    rw [Nat.add_zero] at q0
    clear hrg
    refine hK.out _ _ (fun _ => hS4) ?_; clear hK K
    refine anyX_one (i := 7) (by kernel_rfl) rfl (fun K hK => ?_)
    go_simp
    refine hK.out _ _ (fun _ => hS4) ?_; clear hK K
    refine anyX_one (i := 8) (by kernel_rfl) rfl (fun K hK => ?_)
    go_simp
    refine hK.out _ _ (fun _ => hS4) ?_; clear hK K
    obtain ⟨y0, y1, y2, y3, y4, y5⟩ := kR4.c6
    obtain ⟨f0, f1, f2, f3, f4, f5⟩ := kR4.f6
    refine anyX_one (i := 9) (by kernel_rfl) rfl (fun K hK => ?_)
    go_simp
    refine hK.out _ _ (fun h => absurd rfl h) ?_
    clear hK K
    refine anyX_done (by kernel_rfl) ?_ _
    go_wp2_with fail
    refine end_cb6 Tryz.results36 Tryz.underlying26 rfl sizeRbR kR4 rfl ?_
    have hg9 := grown_set6 w4 w.heap.size (.string x.nm) (.slice (some ⟨g1, 0, none⟩) n1 m1) (.slice (some ⟨g2, 0, none⟩) n2 m2) (.string x.ad) (.int .i64 x.si) (.int .i64 x.st)
    exact ⟨⟨x, _, _, rfl, Hqx.out, (hrc.gr hg9 (by omega)).low (by omega)⟩, (hR4.row hg9 hrl).mono (by omega), grown_new hG4 hg9 (Nat.le_refl _)⟩
  · have h0 : h.bs.length = 0 := by omega
    obtain ⟨-, -, -, -, e4, -⟩ := kH.c6
    clear ho3
    go_upto_region 5 with (go_at_call 57; refine (recipe25_any rb len _ v _ hR3 (by omega)).mono ?_; rintro e w4 ⟨⟨u, ps, rfl, h1, h12, hpz, hown⟩, hR4, hg4⟩; obtain ⟨gu, cu, rfl⟩ := own_ptr2 hown (by omega))
    have hz4 := hg4.size
    have hp1 : 0 < ps.length := by omega
    have hG4 := grown_trans hG3 hg4
    have kR4 := kR3.kept hg4 (by simp; omega)
    have hgu := hown.lt gu rfl
    have c0 := ((recAt_own hown).cells 0 (by omega)).1
    rw [show 0 + 0 * 8 = 0 from rfl] at c0
    have Hpz : Hid (∀ p ∈ ps, p.sz) := hpz
    have hsz : Sized ps := (fun p hp => by have := hpz p hp; exact ⟨this.1, this.2.1, this.2.2.1, this.2.2.2.1, this.2.2.2.2.1⟩)
    have Hsz : Hid (Sized ps) := hsz
    generalize (ps[0]).nm = n0 at c0
    clear hpz hsz e4 hR3 hG3 kR3 hg4 kH Hq
    have hS1 : World.cell? w4.drew ⟨gu, 0, none⟩ = some (.string n0) := c0
    have hRd : Rd w4.drew rb v len (N + 9301) := hR4.drew
    have hGd : w.grownBy w4.drew (some rb) := grown_drew hG4
    have hownd := own_drew hown
    have kRd := kR4.up (Below.refl _ _).drew kR4.2.2
    have hzd : w4.heap.size = w4.drew.heap.size := rfl
    refine wp_region_x 10 (fun w' => World.cell? w' ⟨gu, 0, none⟩ = some (.string n0)) (by kernel_rfl) ?_
    generalize w4.drew = X1 at hS1 hRd hGd hownd kRd hzd ⊢
    clear hR4 hG4 hown kR4 c0
    refine tkx 0 rfl hS1 ?_
    refine tkx 1 rfl hS1 ?_
    refine tkx 2 rfl hS1 ?_
    refine tkx 5 rfl hS1 ?_
    refine tkx 6 rfl hS1 ?_
    refine tkx 7 rfl hS1 ?_
    refine tkx 8 rfl hS1 ?_
    obtain ⟨X2, hX2, hS2, hR2, hG2, hown2, kR2, hL2, hz2'⟩ : ∃ X2, X1.alloc (.cells (abc25.map Value.string).toArray 9) = X2 ∧ World.cell? X2 ⟨gu, 0, none⟩ = some (.string n0) ∧ Rd X2 rb v len (N + 9301) ∧ w.grownBy X2 (some rb) ∧ X2.ownsRow W3.heap.size 34 8 (.slice (some ⟨gu, 0, none⟩) ps.length cu) ps.length (rowP ps) ∧ CB X2 w.heap.size [.string ⟨#[]⟩, .slice none 0 0, .slice none 0 0, .string ⟨#[]⟩, .int .i64 0, .int .i64 0] ∧ Ls X2 (.slice (some ⟨X1.heap.size, 0, none⟩) 6 6) abc25 ∧ X1.heap.size ≤ X2.heap.size := by
      have hb : Below X1.heap.size X1 (X1.alloc (.cells (abc25.map Value.string).toArray 9)) := (Below.refl _ _).alloc (Nat.le_refl _) _
      exact ⟨_, rfl, (hb.cell (p := ⟨gu, 0, none⟩) (hownd.lt gu rfl).2).trans hS1, hRd.alloc _, grown_alloc hGd _, own_up hownd hb, kRd.up hb kRd.2.2, strs_ls (ss := abc25) (strsAt_alloc _ _ _) (by simp) (by decide) abc25_sz, hb.size⟩
    refine anyX_one (i := 3) (by kernel_rfl) rfl (fun K hK => ?_)
    go_simp
    rw [show (X1.alloc (.cells #[.string ⟨#[97]⟩, .string ⟨#[98]⟩, .string ⟨#[99]⟩, .string ⟨#[100]⟩, .string ⟨#[101]⟩, .string ⟨#[102]⟩] 9)) = X2 from hX2]
    clear hX2 hS1 hRd hGd hownd kRd
    refine hK.out _ _ (fun _ => hS2) ?_; clear hK K
    have hc := slots25_any rb len _ v ps gu 0 cu abc25 _ X2 hR2 (by omega) (recAt_own hown2) (hown2.lt gu rfl).2 Hsz.out (by omega) hL2 (by decide)
    refine anyX_one (i := 4) (by kernel_rfl) rfl (fun K hK => ?_)
    go_simp
    go_wp2_with (go_at_call 58; refine hc.mono ?_; rintro e w6 ⟨⟨us, sl, rfl, hnn, hos, hl, hzs⟩, hR6, hg6⟩)
    obtain ⟨g8, n8, c8, rfl⟩ := hnn
    have hG6 := grown_trans hG2 hg6
    have kR6 := kR2.kept hg6 (by simp; omega)
    have hown6 := own_grown hown2 hg6 (by omega)
    have hS6 : World.cell? w6 ⟨gu, 0, none⟩ = some (.string n0) := hg6.cell hS2 (by simp; omega)
    have Hzs : Hid (∀ y ∈ sl, y.s.size ≤ maxLen ∧ y.t.size ≤ maxLen) := hzs
    clear hzs hc hS2 hR2 hG2 hown2 kR2 hL2 hg6
    refine hK.out _ _ (fun _ => hS6) ?_; clear hK K
    refine tkx 9 rfl hS6 ?_
    obtain ⟨y0, y1, y2, y3, y4, y5⟩ := kR6.c6
    obtain ⟨f0, f1, f2, f3, f4, f5⟩ := kR6.f6
    refine anyX_one (i := 10) (by kernel_rfl) rfl (fun K hK => ?_)
    go_simp
    refine hK.out _ _ (fun h => absurd rfl h) ?_
    clear hK K
    refine anyX_done (by kernel_rfl) ?_ _
    go_wp2_with fail
    refine end_cb6 Tryz.results36 Tryz.underlying26 rfl sizeRbR kR6 rfl ?_
    have hg9 := grown_set6 w6 w.heap.size (.string ⟨#[98]⟩) (.slice (some ⟨gu, 0, none⟩) ps.length cu) (.slice (some ⟨g8, 0, none⟩) n8 c8) (.string n0) (.int .i64 (-1)) (.int .i64 1)
    exact ⟨⟨⟨⟨#[98]⟩, ps, sl, n0, -1, 1⟩, _, _, rfl, ⟨h1, h12, Hpz.out, hl⟩, rcW_drawn (own_low (own_grown hown6 hg9 (by omega)) (by omega)) h1 (by omega) Hpz.out (own_low (own_grown hos hg9 (by omega)) (by omega)) ⟨_, _, _, rfl⟩ (by omega) Hzs.out (show ByteArray.size ⟨#[98]⟩ ≤ maxLen by decide) rfl rfl⟩, (hR6.row hg9 hrl).mono (by omega), grown_new hG6 hg9 (Nat.le_refl _)⟩
end Go.Proofs.YtliebjbbomghiaaGreatDoor
