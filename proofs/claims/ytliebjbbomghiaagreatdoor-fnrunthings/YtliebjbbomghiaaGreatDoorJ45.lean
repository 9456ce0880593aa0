/- Drawing houses: what happens. -/
import Derived.Test.YtliebjbbomghiaaGreatDoorJ40
import Derived.Test.YtliebjbbomghiaaGreatDoorJ41
import Derived.Test.YtliebjbbomghiaaGreatDoorJ44
import Derived.Test.YtliebjbbomghiaaGreatDoorJ23
import Derived.Test.YtliebjbbomghiaaGreatDoorJ20
import Derived.Test.YtliebjbbomghiaaGreatDoorJ12
namespace Go.Proofs.YtliebjbbomghiaaGreatDoor
open Go.RowKit

theorem sizeDo : (Tryz.prog.info? 127).map (·.size) = some 5 := by kernel_rfl
theorem end_cb5 {P : Program} {fn : Func} {q : Tmp} {T : TypeId} (h : fn.results = #[.cell q T]) {d : TypeDesc} (hu : P.underlying T = some d) (hd : d.isRow = true) (hi : (P.info? T).map (·.size) = some 5) {R : Ending → World → Prop} {tmps : Array Value} {w : World} {rk : Nat} {y0 y1 y2 y3 y4 x0 x1 x2 x3 x4 : Value}
    (k : CB w rk [y0, y1, y2, y3, y4]) (ht : tmps.getD q undef = .pointer (some ⟨rk, 0, none⟩)) (hR : R (.returned (.agg #[x0, x1, x2, x3, x4])) (((((w.setCell ⟨rk, 0, none⟩ x0).setCell ⟨rk, 1, none⟩ x1).setCell ⟨rk, 2, none⟩ x2).setCell ⟨rk, 3, none⟩ x3).setCell ⟨rk, 4, none⟩ x4)) :
    bodyPost P fn R .ret { tmps := tmps, defers := [] } (((((w.setCell ⟨rk, 0, none⟩ x0).setCell ⟨rk, 1, none⟩ x1).setCell ⟨rk, 2, none⟩ x2).setCell ⟨rk, 3, none⟩ x3).setCell ⟨rk, 4, none⟩ x4) :=
  bodyPost_ret (ret_cb (cs := [x0, x1, x2, x3, x4]) h hu hd hi ht (k.copy [x0, x1, x2, x3, x4] rfl)) rfl hR
theorem CB.f5 {w : World} {b : Nat} {x0 x1 x2 x3 x4 : Value} (h : CB w b [x0, x1, x2, x3, x4]) : w.frozen? ⟨b, 0, none⟩ = false ∧ w.frozen? ⟨b, 1, none⟩ = false ∧ w.frozen? ⟨b, 2, none⟩ = false ∧ w.frozen? ⟨b, 3, none⟩ = false ∧ w.frozen? ⟨b, 4, none⟩ = false :=
  ⟨(h.2.1 0 (by simp)).2, (h.2.1 1 (by simp)).2, (h.2.1 2 (by simp)).2, (h.2.1 3 (by simp)).2, (h.2.1 4 (by simp)).2⟩
theorem grown_set5 (w : World) (b : Nat) (x0 x1 x2 x3 x4 : Value) : w.grownBy (((((w.setCell ⟨b, 0, none⟩ x0).setCell ⟨b, 1, none⟩ x1).setCell ⟨b, 2, none⟩ x2).setCell ⟨b, 3, none⟩ x3).setCell ⟨b, 4, none⟩ x4) (some b) :=
  grown_setCell (rb := b) (grown_setCell (rb := b) (grown_setCell (rb := b) (grown_setCell (rb := b) (grown_setCell (rb := b) (grown_refl w _) _) _) _) _) _
theorem rowP_rowsF : ∀ ps : List Ph, rowP ps = rowsF Ph.cells ps
  | [] => rfl
  | p :: r => by rw [rowP, rowsF, rowP_rowsF r]
/-- A recipe that was drawn, and its slots. -/
def Okp (ps : List Ph) (sl : List Sl) : Prop := 1 ≤ ps.length ∧ ps.length ≤ 12 ∧ (∀ p ∈ ps, p.sz) ∧ sl.length ≤ 24
/-- What was drawn can be begun with. -/
theorem rbV_drawn {w : World} {base base2 : Nat} {u su : Value} {ps : List Ph} {sl : List Sl} {x : Rb} (h1 : w.ownsRow base 34 8 u ps.length (rowP ps)) (hp : 1 ≤ ps.length) (hp2 : ps.length ≤ 12) (hz : ∀ p ∈ ps, p.sz) (h2 : w.ownsRow base2 69 2 su sl.length (rowsF Sl.cells sl)) (hn : NN su) (hl : sl.length ≤ 24) (hzs : ∀ y ∈ sl, y.s.size ≤ maxLen ∧ y.t.size ≤ maxLen) (hzn : x.nm.size ≤ maxLen) (e1 : x.ps = ps) (e2 : x.sl = sl) : RbV w x u su := by
  subst e1 e2
  obtain ⟨g, cap, rfl⟩ := own_ptr2 h1 (by omega)
  obtain ⟨g2, n2, c2, rfl⟩ := hn
  obtain ⟨_, _, e⟩ := own_shape h2
  simp only [Value.slice.injEq] at e
  obtain ⟨-, rfl, -⟩ := e
  have hc := own_cap2 h1
  refine ⟨⟨g, 0, cap, rfl, recAt_own h1, (h1.lt g rfl).2, hc.1, ?_⟩, ⟨g2, 0, c2, rfl, fun i q hq => ?_, (h2.lt g2 rfl).2⟩, fun p hp => ?_, hzs, hzn, by omega, by omega⟩
  · have := hc.2; unfold maxLen at this; omega
  · rw [Nat.zero_add]; exact own_rows cellsS_len h2 hq
  · have := hz p hp; exact ⟨this.1, this.2.1, this.2.2.1, this.2.2.2.1, this.2.2.2.2.1⟩

set_option maxRecDepth 20000 in
set_option maxHeartbeats 8000000 in
theorem does25_any (rb len N : Nat) (v : Value) (h : House) (tv bv xv dv : Value) (w : World) (hR : Rd w rb v len N) (hN : N ≤ 600000) (H : HS rb w h tv bv xv dv) (hf : Few h) :
    Calls Tryz.prog 72 #[.pointer (some ⟨rb, 0, none⟩), .agg #[.int .i64 h.now, .int .i64 h.last, tv, bv, xv, dv]] w fun e w' => (∃ (kd : Int) (nm : ByteArray) (ps : List Ph) (sl : List Sl) (ar asl : Option Addr) (nr cr ns cs : Nat) (well : Bool), e = .returned (.agg #[.int .i64 kd, .string nm, .slice ar nr cr, .slice asl ns cs, .bool well]) ∧ (kd = 1 → RbV w' (newB h nm ps sl) (.slice ar nr cr) (.slice asl ns cs) ∧ Okp ps sl)) ∧ Rd w' rb v len (N + 340) ∧ w.grownBy w' (some rb) := by
  obtain ⟨a1, c1, a2, c2, a3, c3, a4, c4, rfl, rfl, rfl, rfl⟩ := H.v.shapes
  obtain ⟨W1, hW1, kA, kR, hB1, hs1⟩ : ∃ W1, (w.alloc (.cells #[.int .i64 h.now, .int .i64 h.last, .slice a1 h.sh.things.length c1, .slice a2 h.sh.bs.length c2, .slice a3 h.bs.length c3, .slice a4 h.ds.length c4] 99)).alloc (.cells #[.int .i64 0, .string ⟨#[]⟩, .slice none 0 0, .slice none 0 0, .bool false] 127) = W1 ∧ CB W1 w.heap.size [.int .i64 h.now, .int .i64 h.last, .slice a1 h.sh.things.length c1, .slice a2 h.sh.bs.length c2, .slice a3 h.bs.length c3, .slice a4 h.ds.length c4] ∧ CB W1 (w.heap.size + 1) [.int .i64 0, .string ⟨#[]⟩, .slice none 0 0, .slice none 0 0, .bool false] ∧ Below w.heap.size w W1 ∧ W1.heap.size = w.heap.size + 2 := ⟨_, rfl, cb2 w _ _ _ _⟩
  have hR1 := hR.kept hB1
  have H1 := H.up hB1
  have hG1 : w.grownBy W1 (some rb) := ⟨hB1.os, hB1.tape, hB1.output, hB1.size, fun i hi _ => hB1.block i hi⟩
  have hrw : rb < w.heap.size := hR.lt
  have hzA : w.heap.size < W1.heap.size := by omega
  have hzR : w.heap.size + 1 < W1.heap.size := by omega
  clear hs1 hR H
  go_enter Tryz.func72, Tryz.ntmps72
  go_upto_region 1 with fail
  try rw [hW1]
  clear hW1 hB1
  go_wp2_with fail
  refine (pick_any rb len _ v 8 _ hR1 (by omega)).mono ?_
  rintro e w1 ⟨⟨x, rfl, hx0, hx1⟩, hR2, hg2⟩
  have hx2 := hx1 (by omega)
  have kA2 := kA.kept hg2 (by simp; omega)
  have kR2 := kR.kept hg2 (by simp; omega)
  have H2 := H1.gr hg2
  have hG2 := grown_trans hG1 hg2
  have hz2 := hg2.size
  clear hR1 hG1 H1 kA kR hg2 hx1
  have hcs : (x = 0 ∨ x = 1) ∨ (x = 2 ∨ x = 3 ∨ x = 4) ∨ (x = 5 ∨ x = 6 ∨ x = 7) := by omega
  have hth : h.sh.things.length ≤ 100 := by have := hf.1.1; omega
  rcases hcs with (rfl | rfl) | (rfl | rfl | rfl) | (rfl | rfl | rfl)
  · (go_upto_region 5 with (first | (go_at_call 97; refine (names25_any _).mono ?_; rintro e x1 ⟨rfl, rfl⟩) | (go_at_call 39; refine (of_any rb len _ v names25 6 _ 0 6 _ rfl (hR2.alloc (.cells (names25.map Value.string).toArray 9)) (by omega) (strsAt_alloc _ _ _) (by omega) (by omega) (by omega)).mono ?_; rintro e w3 ⟨⟨s, hs, rfl⟩, hR3, hg3⟩; have hz3 := hg3.size) | (go_at_call 57; refine (recipe25_any rb len _ v _ hR3 (by omega)).mono ?_; rintro e w4 ⟨⟨u, ps, rfl, h1, h12, hpz, hown⟩, hR4, hg4⟩; obtain ⟨gu, cu, rfl⟩ := own_ptr2 hown (by omega); have hgu := (hown.lt gu rfl).2)); have hbn : Below w1.heap.size w1 (w1.alloc (.cells (names25.map Value.string).toArray 9)) := (Below.refl _ _).alloc (Nat.le_refl _) _; have kA4 := ((kA2.up hbn (by omega)).kept hg3 (by simp; omega)).kept hg4 (by simp; omega); have kR4 := ((kR2.up hbn (by omega)).kept hg3 (by simp; omega)).kept hg4 (by simp; omega); have H4 := ((H2.up hbn).gr hg3).gr hg4; have hG4 := grown_trans (grown_trans (grown_alloc hG2 (.cells (names25.map Value.string).toArray 9)) hg3) hg4; have hz4 := hg4.size; have hzn := hbn.size; obtain ⟨W5, hW5, kD, hb5⟩ : ∃ W5, w4.alloc (.cells #[.int .i64 1, .string s, .slice (some ⟨gu, 0, none⟩) ps.length cu, .slice none 0 0, .bool false] 127) = W5 ∧ CB W5 w4.heap.size [.int .i64 1, .string s, .slice (some ⟨gu, 0, none⟩) ps.length cu, .slice none 0 0, .bool false] ∧ Below w4.heap.size w4 W5 := ⟨_, rfl, cb_alloc w4 _ _, (Below.refl _ _).alloc (Nat.le_refl _) _⟩; (try rw [hW5]); have hz55 : w4.heap.size < W5.heap.size := kD.2.2; have kA5 := kA4.up hb5 kA4.2.2; have kR5 := kR4.up hb5 kR4.2.2; have H5 := H4.up hb5; have hR5 := hR4.kept hb5; have hG5 : w.grownBy W5 (some rb) := ⟨hb5.os.trans hG4.os, hb5.tape.trans hG4.tape, hb5.output.trans hG4.output, Nat.le_trans hG4.size hb5.size, fun i hi hne => (hb5.block i (Nat.lt_of_lt_of_le hi hG4.size)).trans (hG4.block i hi hne)⟩; have hown5 := own_up hown hb5; have hz5 := hb5.size; have hz6 := hG4.size; clear hW5 kA4 kR4 H4 hR4 hG4 hown kA2 kR2 H2 hG2 hR2 hR3 hg3 hg4 hbn hb5; obtain ⟨d0, d1, d2, d3, d4⟩ := kD.c5; obtain ⟨e0, e1, e2, e3, e4, e5⟩ := kA5.c6; have hsz : Sized ps := (fun p hp => by have := hpz p hp; exact ⟨this.1, this.2.1, this.2.2.1, this.2.2.2.1, this.2.2.2.2.1⟩); have hc := slots25_any rb len _ v ps gu 0 cu h.sh.things _ W5 hR5 (by omega) (recAt_own hown5) (hown5.lt gu rfl).2 hsz (by omega) H5.v.t hth; go_upto_region 6 with (go_at_call 58; refine hc.mono ?_; rintro e w6 ⟨⟨us, sl, rfl, hnn, hos, hl, hzs⟩, hR6, hg6⟩; obtain ⟨g8, n8, c8, rfl⟩ := hnn; have kD6 := kD.kept hg6 (by simp; omega); clear d0 d1 d2 d3 d4; obtain ⟨d0, d1, d2, d3, d4⟩ := kD6.c5; obtain ⟨f0, f1, f2, f3, f4⟩ := kD6.f5); have hgD : w6.grownBy (w6.setCell ⟨w4.heap.size, 3, none⟩ (.slice (some ⟨g8, 0, none⟩) n8 c8)) (some w4.heap.size) := grown_setCell (grown_refl _ _) _; have kD7 : CB (w6.setCell ⟨w4.heap.size, 3, none⟩ (.slice (some ⟨g8, 0, none⟩) n8 c8)) w4.heap.size [.int .i64 1, .string s, .slice (some ⟨gu, 0, none⟩) ps.length cu, .slice (some ⟨g8, 0, none⟩) n8 c8, .bool false] := kD6.set (j := 3) (by simp); have kR7 := (kR5.kept hg6 (by simp; omega)).kept hgD (by simp; omega); have hown6 := own_grown hown5 hg6 (by omega); have hub : gu < w4.heap.size := hgu; have hown7 := own_keep2 hown6 hgD (by intro g hg e; simp [Value.ownBlock] at hg e; omega); have hos7 := own_keep2 hos hgD (by intro g hg e; have := (hos.lt g hg).1; simp at e; omega); have hR7 := hR6.row hgD (by omega); have hG7 := grown_new (grown_trans hG5 hg6) hgD (by omega); clear d0 d1 d2 d3 d4 f0 f1 f2 f3 f4 kD6 hgD hown6 hR6 hos hc kD e0 e1 e2 e3 e4 e5; generalize w6.setCell ⟨w4.heap.size, 3, none⟩ (.slice (some ⟨g8, 0, none⟩) n8 c8) = W7 at *; obtain ⟨d0, d1, d2, d3, d4⟩ := kD7.c5; obtain ⟨y0, y1, y2, y3, y4⟩ := kR7.c5; obtain ⟨f0, f1, f2, f3, f4⟩ := kR7.f5; go_wp2_with fail; refine end_cb5 Tryz.results72 Tryz.underlying127 rfl sizeDo kR7 rfl ?_; have hg9 := grown_set5 W7 (w.heap.size + 1) (.int .i64 1) (.string s) (.slice (some ⟨gu, 0, none⟩) ps.length cu) (.slice (some ⟨g8, 0, none⟩) n8 c8) (.bool false); refine ⟨⟨1, s, ps, sl, _, _, _, _, _, _, false, rfl, fun _ => ?_⟩, (hR7.row hg9 (by omega)).mono (by omega), grown_new hG7 hg9 (by omega)⟩; exact ⟨rbV_drawn (own_grown hown7 hg9 (by omega)) h1 h12 hpz (own_grown hos7 hg9 (by omega)) ⟨_, _, _, rfl⟩ hl hzs (by have := names25_sz s hs; show s.size ≤ maxLen; unfold maxLen; omega) rfl rfl, h1, h12, hpz, hl⟩)
  · (go_upto_region 5 with (first | (go_at_call 97; refine (names25_any _).mono ?_; rintro e x1 ⟨rfl, rfl⟩) | (go_at_call 39; refine (of_any rb len _ v names25 6 _ 0 6 _ rfl (hR2.alloc (.cells (names25.map Value.string).toArray 9)) (by omega) (strsAt_alloc _ _ _) (by omega) (by omega) (by omega)).mono ?_; rintro e w3 ⟨⟨s, hs, rfl⟩, hR3, hg3⟩; have hz3 := hg3.size) | (go_at_call 57; refine (recipe25_any rb len _ v _ hR3 (by omega)).mono ?_; rintro e w4 ⟨⟨u, ps, rfl, h1, h12, hpz, hown⟩, hR4, hg4⟩; obtain ⟨gu, cu, rfl⟩ := own_ptr2 hown (by omega); have hgu := (hown.lt gu rfl).2)); have hbn : Below w1.heap.size w1 (w1.alloc (.cells (names25.map Value.string).toArray 9)) := (Below.refl _ _).alloc (Nat.le_refl _) _; have kA4 := ((kA2.up hbn (by omega)).kept hg3 (by simp; omega)).kept hg4 (by simp; omega); have kR4 := ((kR2.up hbn (by omega)).kept hg3 (by simp; omega)).kept hg4 (by simp; omega); have H4 := ((H2.up hbn).gr hg3).gr hg4; have hG4 := grown_trans (grown_trans (grown_alloc hG2 (.cells (names25.map Value.string).toArray 9)) hg3) hg4; have hz4 := hg4.size; have hzn := hbn.size; obtain ⟨W5, hW5, kD, hb5⟩ : ∃ W5, w4.alloc (.cells #[.int .i64 1, .string s, .slice (some ⟨gu, 0, none⟩) ps.length cu, .slice none 0 0, .bool false] 127) = W5 ∧ CB W5 w4.heap.size [.int .i64 1, .string s, .slice (some ⟨gu, 0, none⟩) ps.length cu, .slice none 0 0, .bool false] ∧ Below w4.heap.size w4 W5 := ⟨_, rfl, cb_alloc w4 _ _, (Below.refl _ _).alloc (Nat.le_refl _) _⟩; (try rw [hW5]); have hz55 : w4.heap.size < W5.heap.size := kD.2.2; have kA5 := kA4.up hb5 kA4.2.2; have kR5 := kR4.up hb5 kR4.2.2; have H5 := H4.up hb5; have hR5 := hR4.kept hb5; have hG5 : w.grownBy W5 (some rb) := ⟨hb5.os.trans hG4.os, hb5.tape.trans hG4.tape, hb5.output.trans hG4.output, Nat.le_trans hG4.size hb5.size, fun i hi hne => (hb5.block i (Nat.lt_of_lt_of_le hi hG4.size)).trans (hG4.block i hi hne)⟩; have hown5 := own_up hown hb5; have hz5 := hb5.size; have hz6 := hG4.size; clear hW5 kA4 kR4 H4 hR4 hG4 hown kA2 kR2 H2 hG2 hR2 hR3 hg3 hg4 hbn hb5; obtain ⟨d0, d1, d2, d3, d4⟩ := kD.c5; obtain ⟨e0, e1, e2, e3, e4, e5⟩ := kA5.c6; have hsz : Sized ps := (fun p hp => by have := hpz p hp; exact ⟨this.1, this.2.1, this.2.2.1, this.2.2.2.1, this.2.2.2.2.1⟩); have hc := slots25_any rb len _ v ps gu 0 cu h.sh.things _ W5 hR5 (by omega) (recAt_own hown5) (hown5.lt gu rfl).2 hsz (by omega) H5.v.t hth; go_upto_region 6 with (go_at_call 58; refine hc.mono ?_; rintro e w6 ⟨⟨us, sl, rfl, hnn, hos, hl, hzs⟩, hR6, hg6⟩; obtain ⟨g8, n8, c8, rfl⟩ := hnn; have kD6 := kD.kept hg6 (by simp; omega); clear d0 d1 d2 d3 d4; obtain ⟨d0, d1, d2, d3, d4⟩ := kD6.c5; obtain ⟨f0, f1, f2, f3, f4⟩ := kD6.f5); have hgD : w6.grownBy (w6.setCell ⟨w4.heap.size, 3, none⟩ (.slice (some ⟨g8, 0, none⟩) n8 c8)) (some w4.heap.size) := grown_setCell (grown_refl _ _) _; have kD7 : CB (w6.setCell ⟨w4.heap.size, 3, none⟩ (.slice (some ⟨g8, 0, none⟩) n8 c8)) w4.heap.size [.int .i64 1, .string s, .slice (some ⟨gu, 0, none⟩) ps.length cu, .slice (some ⟨g8, 0, none⟩) n8 c8, .bool false] := kD6.set (j := 3) (by simp); have kR7 := (kR5.kept hg6 (by simp; omega)).kept hgD (by simp; omega); have hown6 := own_grown hown5 hg6 (by omega); have hub : gu < w4.heap.size := hgu; have hown7 := own_keep2 hown6 hgD (by intro g hg e; simp [Value.ownBlock] at hg e; omega); have hos7 := own_keep2 hos hgD (by intro g hg e; have := (hos.lt g hg).1; simp at e; omega); have hR7 := hR6.row hgD (by omega); have hG7 := grown_new (grown_trans hG5 hg6) hgD (by omega); clear d0 d1 d2 d3 d4 f0 f1 f2 f3 f4 kD6 hgD hown6 hR6 hos hc kD e0 e1 e2 e3 e4 e5; generalize w6.setCell ⟨w4.heap.size, 3, none⟩ (.slice (some ⟨g8, 0, none⟩) n8 c8) = W7 at *; obtain ⟨d0, d1, d2, d3, d4⟩ := kD7.c5; obtain ⟨y0, y1, y2, y3, y4⟩ := kR7.c5; obtain ⟨f0, f1, f2, f3, f4⟩ := kR7.f5; go_wp2_with fail; refine end_cb5 Tryz.results72 Tryz.underlying127 rfl sizeDo kR7 rfl ?_; have hg9 := grown_set5 W7 (w.heap.size + 1) (.int .i64 1) (.string s) (.slice (some ⟨gu, 0, none⟩) ps.length cu) (.slice (some ⟨g8, 0, none⟩) n8 c8) (.bool false); refine ⟨⟨1, s, ps, sl, _, _, _, _, _, _, false, rfl, fun _ => ?_⟩, (hR7.row hg9 (by omega)).mono (by omega), grown_new hG7 hg9 (by omega)⟩; exact ⟨rbV_drawn (own_grown hown7 hg9 (by omega)) h1 h12 hpz (own_grown hos7 hg9 (by omega)) ⟨_, _, _, rfl⟩ hl hzs (by have := names25_sz s hs; show s.size ≤ maxLen; unfold maxLen; omega) rfl rfl, h1, h12, hpz, hl⟩)
  · (obtain ⟨e0, e1, e2, e3, e4, e5⟩ := kA2.c6; go_wp2_with (first | (go_at_call 98; refine (batch25_any rb len _ v h _ _ _ _ _ hR2 (by omega) H2 hf).mono ?_; rintro e w3 ⟨⟨s, rfl, hsz⟩, hR3, hg3⟩) | (go_at_call 37; refine (pick_any rb len _ v 4 _ hR3 (by omega)).mono ?_; rintro e w4 ⟨⟨y, rfl, hy0, -⟩, hR4, hg4⟩; have kR4 := (kR2.kept hg3 (by simp; omega)).kept hg4 (by simp; omega); have hG4 := grown_trans (grown_trans hG2 hg3) hg4; obtain ⟨y0, y1, y2, y3, y4⟩ := kR4.c5; obtain ⟨f0, f1, f2, f3, f4⟩ := kR4.f5)); refine end_cb5 Tryz.results72 Tryz.underlying127 rfl sizeDo kR4 rfl ?_; have hg9 := grown_set5 w4 (w.heap.size + 1) (.int .i64 2) (.string s) (.slice none 0 0) (.slice none 0 0) (.bool (decide (0 < y))); exact ⟨⟨2, s, [], [], none, none, 0, 0, 0, 0, _, rfl, fun h => by cases h⟩, (hR4.row hg9 (by omega)).mono (by omega), grown_new hG4 hg9 (by omega)⟩)
  · (obtain ⟨e0, e1, e2, e3, e4, e5⟩ := kA2.c6; go_wp2_with (first | (go_at_call 98; refine (batch25_any rb len _ v h _ _ _ _ _ hR2 (by omega) H2 hf).mono ?_; rintro e w3 ⟨⟨s, rfl, hsz⟩, hR3, hg3⟩) | (go_at_call 37; refine (pick_any rb len _ v 4 _ hR3 (by omega)).mono ?_; rintro e w4 ⟨⟨y, rfl, hy0, -⟩, hR4, hg4⟩; have kR4 := (kR2.kept hg3 (by simp; omega)).kept hg4 (by simp; omega); have hG4 := grown_trans (grown_trans hG2 hg3) hg4; obtain ⟨y0, y1, y2, y3, y4⟩ := kR4.c5; obtain ⟨f0, f1, f2, f3, f4⟩ := kR4.f5)); refine end_cb5 Tryz.results72 Tryz.underlying127 rfl sizeDo kR4 rfl ?_; have hg9 := grown_set5 w4 (w.heap.size + 1) (.int .i64 2) (.string s) (.slice none 0 0) (.slice none 0 0) (.bool (decide (0 < y))); exact ⟨⟨2, s, [], [], none, none, 0, 0, 0, 0, _, rfl, fun h => by cases h⟩, (hR4.row hg9 (by omega)).mono (by omega), grown_new hG4 hg9 (by omega)⟩)
  · (obtain ⟨e0, e1, e2, e3, e4, e5⟩ := kA2.c6; go_wp2_with (first | (go_at_call 98; refine (batch25_any rb len _ v h _ _ _ _ _ hR2 (by omega) H2 hf).mono ?_; rintro e w3 ⟨⟨s, rfl, hsz⟩, hR3, hg3⟩) | (go_at_call 37; refine (pick_any rb len _ v 4 _ hR3 (by omega)).mono ?_; rintro e w4 ⟨⟨y, rfl, hy0, -⟩, hR4, hg4⟩; have kR4 := (kR2.kept hg3 (by simp; omega)).kept hg4 (by simp; omega); have hG4 := grown_trans (grown_trans hG2 hg3) hg4; obtain ⟨y0, y1, y2, y3, y4⟩ := kR4.c5; obtain ⟨f0, f1, f2, f3, f4⟩ := kR4.f5)); refine end_cb5 Tryz.results72 Tryz.underlying127 rfl sizeDo kR4 rfl ?_; have hg9 := grown_set5 w4 (w.heap.size + 1) (.int .i64 2) (.string s) (.slice none 0 0) (.slice none 0 0) (.bool (decide (0 < y))); exact ⟨⟨2, s, [], [], none, none, 0, 0, 0, 0, _, rfl, fun h => by cases h⟩, (hR4.row hg9 (by omega)).mono (by omega), grown_new hG4 hg9 (by omega)⟩)
  · (obtain ⟨y0, y1, y2, y3, y4⟩ := kR2.c5; obtain ⟨f0, f1, f2, f3, f4⟩ := kR2.f5; go_wp2_with fail; refine end_cb5 Tryz.results72 Tryz.underlying127 rfl sizeDo kR2 rfl ?_; have hg9 := grown_set5 w1 (w.heap.size + 1) (.int .i64 3) (.string ⟨#[]⟩) (.slice none 0 0) (.slice none 0 0) (.bool false); exact ⟨⟨3, ⟨#[]⟩, [], [], none, none, 0, 0, 0, 0, false, rfl, fun h => by cases h⟩, (hR2.row hg9 (by omega)).mono (by omega), grown_new hG2 hg9 (by omega)⟩)
  · (obtain ⟨y0, y1, y2, y3, y4⟩ := kR2.c5; obtain ⟨f0, f1, f2, f3, f4⟩ := kR2.f5; go_wp2_with fail; refine end_cb5 Tryz.results72 Tryz.underlying127 rfl sizeDo kR2 rfl ?_; have hg9 := grown_set5 w1 (w.heap.size + 1) (.int .i64 3) (.string ⟨#[]⟩) (.slice none 0 0) (.slice none 0 0) (.bool false); exact ⟨⟨3, ⟨#[]⟩, [], [], none, none, 0, 0, 0, 0, false, rfl, fun h => by cases h⟩, (hR2.row hg9 (by omega)).mono (by omega), grown_new hG2 hg9 (by omega)⟩)
  · (obtain ⟨y0, y1, y2, y3, y4⟩ := kR2.c5; obtain ⟨f0, f1, f2, f3, f4⟩ := kR2.f5; go_wp2_with fail; refine end_cb5 Tryz.results72 Tryz.underlying127 rfl sizeDo kR2 rfl ?_; have hg9 := grown_set5 w1 (w.heap.size + 1) (.int .i64 3) (.string ⟨#[]⟩) (.slice none 0 0) (.slice none 0 0) (.bool false); exact ⟨⟨3, ⟨#[]⟩, [], [], none, none, 0, 0, 0, 0, false, rfl, fun h => by cases h⟩, (hR2.row hg9 (by omega)).mono (by omega), grown_new hG2 hg9 (by omega)⟩)
end Go.Proofs.YtliebjbbomghiaaGreatDoor

/- Chapter 23: RunOpen, by the specification. -/
namespace Go.Proofs.YtliebjbbomghiaaGreatDoor
open Go.RowKit

theorem sizeHouse0 : (Tryz.prog.info? 99).map (·.size) = some 6 := by kernel_rfl
noncomputable def opB (ls : List ByteArray) : Bool := bookB ⟨ls, []⟩
noncomputable def opL (ls : List ByteArray) : List ByteArray := if opB ls = true then ls else []
theorem opL_yes {ls : List ByteArray} (h : opB ls = true) : opL ls = ls := by rw [opL, if_pos h]
theorem opL_no {ls : List ByteArray} (h : opB ls = false) : opL ls = [] := by rw [opL, if_neg (by simp [h])]
theorem opL_len (ls : List ByteArray) : (opL ls).length ≤ 8 := by
  cases h : opB ls
  · rw [opL_no h]; simp
  · rw [opL_yes h]
    exact (pB_iff.1 h).1.1
theorem opL_sz {ls : List ByteArray} (h : ∀ s ∈ ls, s.size ≤ maxLen) : ∀ s ∈ opL ls, s.size ≤ maxLen := fun s hs => by
  cases ho : opB ls
  · rw [opL_no ho] at hs; simp at hs
  · rw [opL_yes ho] at hs; exact h s hs
theorem opL_oks {ls : List ByteArray} : opL (opL ls) = opL ls := by
  cases ho : opB ls
  · rw [opL_no ho, opL]; split <;> rfl
  · rw [opL_yes ho, opL_yes ho]
/-- A house that has things alone, a list of its own. -/
def OpV (w : World) (base : Nat) (v : Value) (ls : List ByteArray) : Prop := ∃ a1 c1 a2 c2, v = .agg #[.int .i64 0, .int .i64 0, .slice a1 ls.length c1, .slice a2 0 c2, .slice none 0 0, .slice none 0 0] ∧ OwnT w base (.slice a1 ls.length c1) ls
theorem OpV.up {w w' : World} {base : Nat} {v : Value} {ls : List ByteArray} (h : OpV w base v ls) (hb : Below w.heap.size w w') : OpV w' base v ls := by
  obtain ⟨a1, c1, a2, c2, e, h1⟩ := h
  exact ⟨a1, c1, a2, c2, e, h1.up hb⟩
theorem opV_none (w : World) (base : Nat) : OpV w base (.agg #[.int .i64 0, .int .i64 0, .slice none 0 0, .slice none 0 0, .slice none 0 0, .slice none 0 0]) [] := ⟨none, 0, none, 0, rfl, World.ownsRow_nil _ _ _ _⟩
theorem bk_things {w : World} {a1 a2 : Option Addr} {c1 c2 : Nat} {ls : List ByteArray} (h : Ls w (.slice a1 ls.length c1) ls) : BkV w (.agg #[.slice a1 ls.length c1, .slice a2 0 c2]) ⟨ls, []⟩ :=
  ⟨_, _, rfl, h, a2, c2, rfl, by simp, fun h => by simp at h⟩

set_option maxRecDepth 20000 in
set_option maxHeartbeats 4000000 in
theorem specOpen_any (ls : List ByteArray) (lv : Value) (w : World) (hl : Ls w lv ls) (hn : ls.length ≤ 1048576) :
    Calls Tryz.prog 69 #[lv] w fun e w' => (∃ u, e = .returned (.tuple #[u, .bool (opB ls)]) ∧ OpV w' w.heap.size u (opL ls)) ∧ Below w.heap.size w w' := by
  obtain ⟨al, cl, rfl, -, hlz, -⟩ := id hl
  go_enter Tryz.func69, Tryz.ntmps69
  go_upto_region 1 with fail
  obtain ⟨W1, hW1, kR, hB1, hs1⟩ : ∃ W1, w.alloc (.cells #[.int .i64 0, .int .i64 0, .slice none 0 0, .slice none 0 0, .slice none 0 0, .slice none 0 0] 99) = W1 ∧ CB W1 w.heap.size [.int .i64 0, .int .i64 0, .slice none 0 0, .slice none 0 0, .slice none 0 0, .slice none 0 0] ∧ Below w.heap.size w W1 ∧ W1.heap.size = w.heap.size + 1 := ⟨_, rfl, cb1 w _ _⟩
  rw [hW1]
  clear hW1
  go_wp2_with fail
  refine (names11_any ls _ _ (hl.up hB1) hn).mono ?_
  rintro e w2 ⟨⟨u, rfl, hou, -⟩, hb2⟩
  obtain ⟨a1, c1, rfl⟩ := hou.lst.shape
  have hz2 := hb2.size
  have kR := kR.up hb2 (by omega)
  have hB2 := up_trans hB1 hb2
  clear hb2 hB1
  go_upto_region 2 with fail
  obtain ⟨W3, hW3, kX, hb3, hs3⟩ : ∃ W3, w2.alloc (.cells #[.slice a1 ls.length c1, .slice none 0 0] 95) = W3 ∧ CB W3 w2.heap.size [.slice a1 ls.length c1, .slice none 0 0] ∧ Below w2.heap.size w2 W3 ∧ W3.heap.size = w2.heap.size + 1 := ⟨_, rfl, cb1 w2 _ _⟩
  try rw [hW3]
  clear hW3
  have kR := kR.up hb3 (by omega)
  have hB3 := up_trans hB2 hb3
  have hou := hou.up hb3
  have hL := hou.lst.ls hlz
  clear hB2 hb3
  obtain ⟨z0, z1⟩ := kX.c2'
  go_wp2_with fail
  refine (specBook_any ⟨ls, []⟩ _ _ (bk_things hL)).mono ?_
  rintro e w4 ⟨rfl, hb4⟩
  have hz4 := hb4.size
  have kR := kR.up hb4 (by omega)
  have kX := kX.up hb4 (by omega)
  have hB4 := up_trans hB3 hb4
  have hou := hou.up hb4
  clear z0 z1 hB3 hb4 hL
  have hbase : w.heap.size < W1.heap.size := by omega
  obtain ⟨⟨y0, y1, y2, y3, y4, y5⟩, g0, g1, g2, g3, g4, g5⟩ := (⟨kR.c6, kR.f6⟩ : _ ∧ _)
  cases hb : bookB ⟨ls, []⟩
  · have ho : opB ls = false := hb
    go_wp2_with fail
    refine end_cb6b Tryz.results69 Tryz.underlying99 rfl sizeHouse0 kR rfl rfl ?_
    rw [ho, opL_no ho]
    exact ⟨⟨_, rfl, opV_none _ _⟩, below_set6 hB4 (Nat.le_refl _) _ _ _ _ _ _⟩
  · have ho : opB ls = true := hb
    obtain ⟨z0, z1⟩ := kX.c2'
    go_wp2_with fail
    refine end_cb6b Tryz.results69 Tryz.underlying99 rfl sizeHouse0 kR rfl rfl ?_
    rw [ho, opL_yes ho]
    refine ⟨⟨_, rfl, _, _, _, _, rfl, ?_⟩, below_set6 hB4 (Nat.le_refl _) _ _ _ _ _ _⟩
    exact own_low (own_set6 hou hbase) (by omega)
end Go.Proofs.YtliebjbbomghiaaGreatDoor

/- Drawing houses: a house that was led to. -/
namespace Go.Proofs.YtliebjbbomghiaaGreatDoor
open Go.RowKit

theorem own_keepB {w w' : World} {base e k n : Nat} {v : Value} {xs : List Value} (h : w.ownsRow base e k v n xs) (hb : ∀ i, base ≤ i → i < w.heap.size → w'.heap[i]? = w.heap[i]?) : w'.ownsRow base e k v n xs := own_of_block h fun g e => hb g (h.lt g e).1 (h.lt g e).2
theorem HW.keepB {w w' : World} {base : Nat} {h : House} {tv bv xv dv : Value} (H : HW w base h tv bv xv dv) (hb : ∀ i, base ≤ i → i < w.heap.size → w'.heap[i]? = w.heap[i]?) : HW w' base h tv bv xv dv := by
  obtain ⟨ps, h1, h2⟩ := H.x
  obtain ⟨tu, bu, qs, e, k1, k2, k3⟩ := H.k
  obtain ⟨g, cap, pre, e4, d1, d2⟩ := H.d
  exact ⟨⟨tu, bu, qs, e, own_keepB k1 hb, ⟨own_keepB k2.1 hb, fun p hp => ⟨own_keepB (k2.2 p hp).1 hb, own_keepB (k2.2 p hp).2.1 hb, (k2.2 p hp).2.2⟩⟩, k3⟩, H.z, ⟨ps, ⟨own_keepB h1.1 hb, fun p hp => ⟨own_keepB (h1.2 p hp).r hb, own_keepB (h1.2 p hp).s hb, (h1.2 p hp).nr, (h1.2 p hp).ns, (h1.2 p hp).zp, (h1.2 p hp).zs, (h1.2 p hp).zn, (h1.2 p hp).np, (h1.2 p hp).nl⟩⟩, h2⟩, ⟨g, cap, pre, e4, own_keepB d1 hb, d2⟩⟩
/-- A house that can be read whatever is written into the old blocks, and into one more. -/
def HT (B hb : Nat) (w : World) (h : House) (tv bv xv dv : Value) : Prop := ∀ w', (∀ k, B < k → k < w.heap.size → k ≠ hb → w'.heap[k]? = w.heap[k]?) → w.heap.size ≤ w'.heap.size → HV w' h tv bv xv dv
theorem HT.step {B hb : Nat} {w w' : World} {h : House} {tv bv xv dv : Value} (H : HT B hb w h tv bv xv dv) (hk : ∀ k, B < k → k < w.heap.size → k ≠ hb → w'.heap[k]? = w.heap[k]?) (hz : w.heap.size ≤ w'.heap.size) : HT B hb w' h tv bv xv dv := fun w2 k2 z2 => H w2 (fun k h1 h2 h3 => (k2 k h1 (by omega) h3).trans (hk k h1 h2 h3)) (Nat.le_trans hz z2)
theorem HT.gr {B hb r : Nat} {w w' : World} {h : House} {tv bv xv dv : Value} (H : HT B hb w h tv bv xv dv) (hg : w.grownBy w' (some r)) (hr : r ≤ B ∨ r = hb) : HT B hb w' h tv bv xv dv := H.step (fun k h1 h2 h3 => hg.block k h2 (by simp; omega)) hg.size
theorem HT.hs {B hb rb : Nat} {w : World} {h : House} {tv bv xv dv : Value} (H : HT B hb w h tv bv xv dv) (hr : rb ≤ B) : HS rb w h tv bv xv dv := fun w' hg => H w' (fun k h1 h2 _ => hg.block k h2 (by simp; omega)) hg.size
theorem HT.v {B hb : Nat} {w : World} {h : House} {tv bv xv dv : Value} (H : HT B hb w h tv bv xv dv) : HV w h tv bv xv dv := H w (fun _ _ _ _ => rfl) (Nat.le_refl _)
theorem HT.as {B hb : Nat} {w : World} {h h' : House} {tv bv xv dv : Value} (H : HT B hb w h tv bv xv dv) (h1 : h'.sh = h.sh) (h2 : h'.bs = h.bs) (h3 : h'.ds = h.ds) : HT B hb w h' tv bv xv dv := fun w' hk hz => by
  obtain ⟨a, b, c, d⟩ := H w' hk hz
  exact ⟨by rw [h1]; exact a, by rw [h1]; exact b, by rw [h2]; exact c, by rw [h3]; exact d⟩
theorem HX.ht {B hb base : Nat} {w : World} {h : House} {tv bv xv dv : Value} (H : HX w base h tv bv xv dv) (h1 : B < base) (h2 : hb < base) : HT B hb w h tv bv xv dv := fun w' hk _ => by
  rcases H with H | ⟨rfl, rfl, rfl, rfl, rfl⟩
  · exact (H.keepB fun i hi hz => hk i (by omega) hz (by omega)).v
  · exact hv_none w'
/-- A house of things alone. -/
theorem opV_ht {B hb base : Nat} {w : World} {u : Value} {ls : List ByteArray} (H : OpV w base u ls) (hz : ∀ s ∈ ls, s.size ≤ maxLen) (h1 : B < base) (h2 : w.heap.size ≤ hb) : ∃ tv bv, u = .agg #[.int .i64 0, .int .i64 0, tv, bv, .slice none 0 0, .slice none 0 0] ∧ HT B hb w ⟨0, 0, ⟨ls, []⟩, [], []⟩ tv bv (.slice none 0 0) (.slice none 0 0) := by
  obtain ⟨a1, c1, a2, c2, rfl, ho⟩ := H
  refine ⟨_, _, rfl, fun w' hk _ => ?_⟩
  have ho' : OwnT w' base (.slice a1 ls.length c1) ls := own_of_block ho fun g e => hk g (by have := (ho.lt g e).1; omega) (ho.lt g e).2 (by have := (ho.lt g e).2; omega)
  exact ⟨ho'.lst.ls hz, ⟨a2, c2, rfl, by simp, fun h => by simp at h⟩, ⟨none, 0, rfl, by simp, fun h => by simp at h⟩, ⟨none, 0, rfl, by simp, fun h => by simp at h⟩⟩

/-- The batches of a house that was made. -/
def OwnR (w : World) (base : Nat) (h : House) (xv : Value) : Prop := 0 < h.bs.length → ∃ ps, RbsW w base xv ps ∧ ps.map (·.1) = h.bs
theorem HX.rows {base : Nat} {w : World} {h : House} {tv bv xv dv : Value} (H : HX w base h tv bv xv dv) : OwnR w base h xv := fun hp => by
  rcases H with H | ⟨rfl, rfl, rfl, rfl, rfl⟩
  · exact H.x
  · simp [noHouse] at hp
theorem OwnR.gr {w w' : World} {base r : Nat} {h : House} {xv : Value} (H : OwnR w base h xv) (hg : w.grownBy w' (some r)) (hr : r < base) : OwnR w' base h xv := fun hp => (H hp).imp fun _ x => ⟨x.1.gr hg hr, x.2⟩
theorem OwnR.low {w : World} {base base' : Nat} {h : House} {xv : Value} (H : OwnR w base h xv) (hb : base' ≤ base) : OwnR w base' h xv := fun hp => (H hp).imp fun _ x => ⟨x.1.low hb, x.2⟩
theorem OwnR.as {w : World} {base : Nat} {h h' : House} {xv : Value} (H : OwnR w base h xv) (e : h'.bs = h.bs) : OwnR w base h' xv := fun hp => by rw [e] at hp ⊢; exact H hp
/-- Where the draw of a house stands. -/
structure HJ (w w' : World) (rb len N HB : Nat) (v : Value) (h : House) (tv bv xv dv : Value) : Prop where
  r : CB w' w.heap.size [.int .i64 0, .int .i64 0, .slice none 0 0, .slice none 0 0, .slice none 0 0, .slice none 0 0]
  x : CB w' HB [.int .i64 h.now, .int .i64 h.last, tv, bv, xv, dv]
  rd : Rd w' rb v len N
  g : w.grownBy w' (some rb)
  ht : HT w.heap.size HB w' h tv bv xv dv
  few : Few h
  q : BsQ Okp h
  o : OwnR w' (HB + 1) h xv
  qz : w.heap.size < HB
  rz : rb < w.heap.size
theorem HJ.gr {w w1 w2 : World} {rb len N M HB : Nat} {v : Value} {h : House} {tv bv xv dv : Value} (J : HJ w w1 rb len N HB v h tv bv xv dv) (hg : w1.grownBy w2 (some rb)) (hR : Rd w2 rb v len M) : HJ w w2 rb len M HB v h tv bv xv dv :=
  ⟨J.r.kept hg (by have := J.rz; simp; omega), J.x.kept hg (by have := J.rz; have := J.qz; simp; omega), hR, grown_trans J.g hg, J.ht.gr hg (.inl (Nat.le_of_lt J.rz)), J.few, J.q, J.o.gr hg (by have := J.rz; have := J.qz; omega), J.qz, J.rz⟩
theorem HT.shapes {rb hb : Nat} {w : World} {h : House} {tv bv xv dv : Value} (H : HT rb hb w h tv bv xv dv) : ∃ a1 n1 c1 a2 n2 c2 a3 n3 c3 a4 n4 c4, tv = .slice a1 n1 c1 ∧ bv = .slice a2 n2 c2 ∧ xv = .slice a3 n3 c3 ∧ dv = .slice a4 n4 c4 := by
  obtain ⟨a1, c1, a2, c2, a3, c3, a4, c4, rfl, rfl, rfl, rfl⟩ := H.v.shapes
  exact ⟨a1, _, c1, a2, _, c2, a3, _, c3, a4, _, c4, rfl, rfl, rfl, rfl⟩
set_option maxRecDepth 20000 in
set_option maxHeartbeats 8000000 in
theorem house25_any (rb len N : Nat) (v : Value) (w : World) (hR : Rd w rb v len N) (hN : N ≤ 400000) :
    Calls Tryz.prog 56 #[.pointer (some ⟨rb, 0, none⟩)] w fun e w' => (∃ h tv bv xv dv, e = .returned (.agg #[.int .i64 h.now, .int .i64 h.last, tv, bv, xv, dv]) ∧ Few h ∧ BsQ Okp h ∧ HS rb w' h tv bv xv dv ∧ OwnR w' (w.heap.size + 1) h xv) ∧ Rd w' rb v len (N + 9000) ∧ w.grownBy w' (some rb) := by
  have hrl := hR.lt
  obtain ⟨W1, hW1, kR, hR1, hG1, hz1⟩ : ∃ W1, w.alloc (.cells #[.int .i64 0, .int .i64 0, .slice none 0 0, .slice none 0 0, .slice none 0 0, .slice none 0 0] 99) = W1 ∧ CB W1 w.heap.size [.int .i64 0, .int .i64 0, .slice none 0 0, .slice none 0 0, .slice none 0 0, .slice none 0 0] ∧ Rd W1 rb v len N ∧ w.grownBy W1 (some rb) ∧ w.heap.size < W1.heap.size := ⟨_, rfl, cb_alloc w _ _, hR.alloc _, grown_alloc (grown_refl _ _) _, by simp⟩
  go_enter Tryz.func56, Tryz.ntmps56
  go_upto_region 1 with fail
  try rw [hW1]
  clear hW1 hR
  go_upto_region 2 with (first
    | (go_at_call 70; refine (things25_any rb len _ v _ hR1 (by omega)).mono ?_; rintro e w2 ⟨⟨u, ss, rfl, hou, hsl, hsm⟩, hR2, hg2⟩; have hz2 := hg2.size; have hss : ∀ s ∈ ss, s.size ≤ maxLen := fun s hs => (by have := things25_sz s (hsm s hs); unfold maxLen; omega))
    | (go_at_call 69; refine (specOpen_any ss _ _ (hou.lst.ls hss) (by omega)).mono ?_; rintro e w3 ⟨⟨u3, rfl, hop⟩, hb3⟩; have hz3 := hb3.size; obtain ⟨tv, bv, rfl, HT3⟩ := opV_ht (B := w.heap.size) (hb := w3.heap.size) hop (opL_sz hss) (by omega) (Nat.le_refl _); obtain ⟨p1, q1, p2, q2, -, -, -, -, rfl, rfl, -, -⟩ := HT3.v.shapes))
  obtain ⟨W4, hW4, J4⟩ : ∃ W4, w3.alloc (.cells #[.int .i64 0, .int .i64 0, .slice p1 (opL ss).length q1, .slice p2 0 q2, .slice none 0 0, .slice none 0 0] 99) = W4 ∧ HJ w W4 rb len (N + 6) w3.heap.size v ⟨0, 0, ⟨opL ss, []⟩, [], []⟩ (.slice p1 (opL ss).length q1) (.slice p2 0 q2) (.slice none 0 0) (.slice none 0 0) := by
    refine ⟨_, rfl, ?_⟩
    have hb4 : Below w3.heap.size w3 (w3.alloc (.cells #[.int .i64 0, .int .i64 0, .slice p1 (opL ss).length q1, .slice p2 0 q2, .slice none 0 0, .slice none 0 0] 99)) := (Below.refl _ _).alloc (Nat.le_refl _) _
    refine ⟨((kR.kept hg2 (by simp; omega)).up hb3 (by omega)).up hb4 (by omega), cb_alloc w3 _ _, (hR2.kept hb3).kept hb4, ?_, HT3.step (fun k _ h2 _ => hb4.block k h2) hb4.size, ?_, ?_, fun hp => (by simp at hp), by omega, by omega⟩
    · have hg := grown_trans hG1 hg2
      exact grown_trans (grown_trans hg (grown_below hb3)) (grown_below hb4)
    · have := opL_len ss
      exact ⟨⟨by show (opL ss).length ≤ _; omega, by simp, by simp⟩, by simp, by simp⟩
    · exact fun x hx => (by simp at hx)
  try rw [hW4]
  clear hW4 HT3 hop hb3 hou hR2 hg2 kR hG1 hR1
  generalize hHB : w3.heap.size = HB at *
  go_wp2_with fail
  refine (pick_any rb len _ v 24 _ J4.rd (by omega)).mono ?_
  rintro e w5 ⟨⟨n, rfl, hn0, hn1⟩, hR5, hg5⟩
  have hn2 := hn1 (by omega)
  obtain ⟨m, rfl⟩ : ∃ m : Nat, n = (m : Int) := ⟨n.toNat, by omega⟩
  have J5 := J4.gr hg5 hR5
  clear J4 hR5 hg5 hn0 hn1
  go_wp2_with fail
  go_loopw [5] (fun i w' => ∃ (k : Nat) (h : House) (b1 : Option Addr) (l1 d1 : Nat) (b2 : Option Addr) (l2 d2 : Nat) (b3 : Option Addr) (l3 d3 : Nat) (b4 : Option Addr) (l4 d4 : Nat), k ≤ m ∧ i = .int .i64 k ∧ HJ w w' rb len (N + 7 + 340 * (m - k)) HB v h (.slice b1 l1 d1) (.slice b2 l2 d2) (.slice b3 l3 d3) (.slice b4 l4 d4)) (fun i _ => (intOf i).toNat)
  case atStart => exact ⟨m, _, _, _, _, _, _, _, _, _, _, _, _, _, by omega, rfl, by simpa using J5⟩
  case round =>
    clear J5
    obtain ⟨k, h, b1, l1, d1, b2, l2, d2, b3, l3, d3, b4, l4, d4, hk, rfl, J⟩ := hrel
    by_cases hp : 0 < k
    · have hp' : (0 : Int) < (k : Int) := by omega
      have hS1 : World.cell? wr.drew ⟨HB, 0, none⟩ = some (.int .i64 h.now) ∧ World.cell? wr.drew ⟨HB, 1, none⟩ = some (.int .i64 h.last) ∧ World.cell? wr.drew ⟨HB, 2, none⟩ = some (.slice b1 l1 d1) ∧ World.cell? wr.drew ⟨HB, 3, none⟩ = some (.slice b2 l2 d2) ∧ World.cell? wr.drew ⟨HB, 4, none⟩ = some (.slice b3 l3 d3) ∧ World.cell? wr.drew ⟨HB, 5, none⟩ = some (.slice b4 l4 d4) := J.x.c6
      have Hm : Hid (340 * (m - (k - 1)) = 340 * (m - k) + 340) := by show _ = _; omega
      have hbig : N + 7 + 340 * (m - k) ≤ 600000 := by omega
      go_wp2_with fail
      refine wp_region_x 5 (fun w' => World.cell? w' ⟨HB, 0, none⟩ = some (.int .i64 h.now) ∧ World.cell? w' ⟨HB, 1, none⟩ = some (.int .i64 h.last) ∧ World.cell? w' ⟨HB, 2, none⟩ = some (.slice b1 l1 d1) ∧ World.cell? w' ⟨HB, 3, none⟩ = some (.slice b2 l2 d2) ∧ World.cell? w' ⟨HB, 4, none⟩ = some (.slice b3 l3 d3) ∧ World.cell? w' ⟨HB, 5, none⟩ = some (.slice b4 l4 d4)) (by kernel_rfl) ?_
      refine tkx 0 rfl hS1 ?_
      refine tkx 1 rfl hS1 ?_
      refine tkx 2 rfl hS1 ?_
      refine anyX_one (i := 3) (by kernel_rfl) rfl (fun K hK => ?_)
      go_simp
      go_wp2_with (go_at_call 72; refine (does25_any rb len _ v h _ _ _ _ _ J.rd.drew hbig ((J.ht.hs (Nat.le_of_lt J.rz)).up (Below.refl _ _).drew) J.few).mono ?_; rintro e w6 ⟨⟨kd, nm, ps, sl, ar, asl, nr, cr, ns, cs, well, rfl, hd⟩, hR6, hg6⟩)
      have hg6 : wr.grownBy w6 (some rb) := ⟨hg6.os, hg6.tape, hg6.output, hg6.size, hg6.block⟩
      have J6 := J.gr hg6 hR6
      have hS6 : World.cell? w6 ⟨HB, 0, none⟩ = some (.int .i64 h.now) ∧ World.cell? w6 ⟨HB, 1, none⟩ = some (.int .i64 h.last) ∧ World.cell? w6 ⟨HB, 2, none⟩ = some (.slice b1 l1 d1) ∧ World.cell? w6 ⟨HB, 3, none⟩ = some (.slice b2 l2 d2) ∧ World.cell? w6 ⟨HB, 4, none⟩ = some (.slice b3 l3 d3) ∧ World.cell? w6 ⟨HB, 5, none⟩ = some (.slice b4 l4 d4) := J6.x.c6
      clear J hR6 hg6 hS1 hbig
      refine hK.out _ _ (fun _ => hS6) ?_; clear hK K
      refine anyX_one (i := 4) (by kernel_rfl) rfl (fun K hK => ?_)
      go_simp
      go_wp2_with (go_at_call 71; refine (step25_any h _ _ _ _ kd nm ps sl ar asl nr cr ns cs well _ J6.ht.v (fun e => (hd e).1)).mono ?_; rintro e w7 ⟨⟨h', tu, bu, xu, du, rfl, hfew, hQ, H7⟩, hb7⟩)
      have hq8 : BsQ Okp h' := hQ _ J6.q fun e => (hd e).2
      clear hQ
      obtain ⟨p1, i1, q1, p2, i2, q2, p3, i3, q3, p4, i4, q4, rfl, rfl, rfl, rfl⟩ := H7.shapes
      have hqz6 := J6.x.2.2
      have hqz := J6.qz
      have hrz := J6.rz
      have kX7 := J6.x.up hb7 hqz6
      have kR7 := J6.r.up hb7 J6.r.2.2
      have hS7 : World.cell? w7 ⟨HB, 0, none⟩ = some (.int .i64 h.now) ∧ World.cell? w7 ⟨HB, 1, none⟩ = some (.int .i64 h.last) ∧ World.cell? w7 ⟨HB, 2, none⟩ = some (.slice b1 l1 d1) ∧ World.cell? w7 ⟨HB, 3, none⟩ = some (.slice b2 l2 d2) ∧ World.cell? w7 ⟨HB, 4, none⟩ = some (.slice b3 l3 d3) ∧ World.cell? w7 ⟨HB, 5, none⟩ = some (.slice b4 l4 d4) := kX7.c6
      have hR7 := J6.rd.kept hb7
      have hG7 := grown_trans J6.g (grown_below hb7)
      have hz7 := hb7.size
      have hg9 := grown_set6 w7 HB (.int .i64 h'.now) (.int .i64 h'.last) (.slice p1 i1 q1) (.slice p2 i2 q2) (.slice p3 i3 q3) (.slice p4 i4 q4)
      have J8 := (⟨kR7.kept hg9 (by simp; omega), kX7.copy6 (.int .i64 h'.now) (.int .i64 h'.last) (.slice p1 i1 q1) (.slice p2 i2 q2) (.slice p3 i3 q3) (.slice p4 i4 q4), hR7.row hg9 (by omega), grown_new hG7 hg9 (by omega), (H7.gr hg9 hqz6).ht (by omega) hqz6, hfew, hq8, ((H7.gr hg9 hqz6).rows).low hqz6, hqz, hrz⟩ : HJ w _ rb len (N + 7 + 340 * (m - k) + 340) HB v h' (.slice p1 i1 q1) (.slice p2 i2 q2) (.slice p3 i3 q3) (.slice p4 i4 q4))
      clear J6 hS6 hb7 hR7 hG7 kR7 hg9 hd H7 hfew hqz hqz6 hq8
      refine hK.out _ _ (fun _ => hS7) ?_; clear hK K
      obtain ⟨j0, j1, j2, j3, j4, j5⟩ := kX7.c6
      obtain ⟨f0, f1, f2, f3, f4, f5⟩ := kX7.f6
      refine anyX_one (i := 5) (by kernel_rfl) rfl (fun K hK => ?_)
      go_simp
      refine hK.out _ _ (fun h => absurd rfl h) ?_
      clear hK K
      refine anyX_done (by kernel_rfl) ?_ _
      clear j0 j1 j2 j3 j4 j5 f0 f1 f2 f3 f4 f5 hS7 kX7
      go_wp2_with fail
      go_roundw
      case rel => exact ⟨k - 1, h', _, _, _, _, _, _, _, _, _, _, _, _, by omega, by go_num, by rw [Hm.out]; exact J8⟩
      case measure => simp [intOf]; omega
    · obtain rfl : k = 0 := by omega
      go_wp2_with fail
      refine (pick_any rb len _ v 24 _ J.rd (by omega)).mono ?_
      rintro e w5 ⟨⟨x, rfl, -, -⟩, hR5, hg5⟩
      have J5 := J.gr hg5 hR5
      clear J hR5 hg5
      by_cases h0 : x = 0
      · subst h0
        go_upto_region 11 with (go_at_call 37; refine (pick_any rb len _ v 2 _ J5.rd (by omega)).mono ?_; rintro e w6 ⟨⟨y, rfl, hy0, hy1⟩, hR6, hg6⟩; have hy2 := hy1 (by omega); have J6 := J5.gr hg6 hR6; obtain ⟨e0, -, -, -, -, -⟩ := J6.x.c6; obtain ⟨f0, -, -, -, -, -⟩ := J6.x.f6)
        clear e0 f0
        (have hgE : w6.grownBy (w6.setCell ⟨HB, 0, none⟩ (.int .i64 (100000 - y))) (some HB) := grown_setCell (grown_refl _ _) _; have hz1 := J6.qz; have hz2 := J6.rz; have JE : HJ w (w6.setCell ⟨HB, 0, none⟩ (.int .i64 (100000 - y))) rb len _ HB v ({ h with now := 100000 - y } : House) (.slice b1 l1 d1) (.slice b2 l2 d2) (.slice b3 l3 d3) (.slice b4 l4 d4) := ⟨J6.r.kept hgE (by simp; omega), J6.x.set (j := 0) (by simp), J6.rd.row hgE (by omega), grown_new J6.g hgE (by omega), (J6.ht.gr hgE (.inr rfl)).as rfl rfl rfl, J6.few, J6.q, (J6.o.gr hgE (Nat.lt_succ_self _)).as rfl, hz1, hz2⟩; clear J5 J6 hgE hR6 hg6; generalize w6.setCell ⟨HB, 0, none⟩ (.int .i64 (100000 - y)) = WE at *)
        (obtain ⟨e0, e1, e2, e3, e4, e5⟩ := JE.x.c6; obtain ⟨y0, y1, y2, y3, y4, y5⟩ := JE.r.c6; obtain ⟨f0, f1, f2, f3, f4, f5⟩ := JE.r.f6; go_wp2_with fail; refine end_cb6 Tryz.results56 Tryz.underlying99 rfl sizeHouseS JE.r rfl ?_; have hg9 := grown_set6 WE w.heap.size (.int .i64 ({ h with now := 100000 - y } : House).now) (.int .i64 ({ h with now := 100000 - y } : House).last) (.slice b1 l1 d1) (.slice b2 l2 d2) (.slice b3 l3 d3) (.slice b4 l4 d4); exact ⟨⟨({ h with now := 100000 - y } : House), _, _, _, _, rfl, JE.few, JE.q, (JE.ht.gr hg9 (.inl (Nat.le_refl _))).hs (Nat.le_of_lt JE.rz), (JE.o.gr hg9 (Nat.lt_succ_of_lt JE.qz)).low (Nat.succ_le_succ (Nat.le_of_lt JE.qz))⟩, (JE.rd.row hg9 JE.rz).mono (by omega), grown_new JE.g hg9 (Nat.le_refl _)⟩)
      · by_cases h1 : x = 1
        · subst h1
          go_upto_region 11 with (go_at_call 37; refine (pick_any rb len _ v 2 _ J5.rd (by omega)).mono ?_; rintro e w6 ⟨⟨y, rfl, hy0, hy1⟩, hR6, hg6⟩; have hy2 := hy1 (by omega); have J6 := J5.gr hg6 hR6; obtain ⟨-, e1, -, -, -, -⟩ := J6.x.c6; obtain ⟨-, f1, -, -, -, -⟩ := J6.x.f6)
          clear e1 f1
          (have hgE : w6.grownBy (w6.setCell ⟨HB, 1, none⟩ (.int .i64 (1000000 - y))) (some HB) := grown_setCell (grown_refl _ _) _; have hz1 := J6.qz; have hz2 := J6.rz; have JE : HJ w (w6.setCell ⟨HB, 1, none⟩ (.int .i64 (1000000 - y))) rb len _ HB v ({ h with last := 1000000 - y } : House) (.slice b1 l1 d1) (.slice b2 l2 d2) (.slice b3 l3 d3) (.slice b4 l4 d4) := ⟨J6.r.kept hgE (by simp; omega), J6.x.set (j := 1) (by simp), J6.rd.row hgE (by omega), grown_new J6.g hgE (by omega), (J6.ht.gr hgE (.inr rfl)).as rfl rfl rfl, J6.few, J6.q, (J6.o.gr hgE (Nat.lt_succ_self _)).as rfl, hz1, hz2⟩; clear J5 J6 hgE hR6 hg6; generalize w6.setCell ⟨HB, 1, none⟩ (.int .i64 (1000000 - y)) = WE at *)
          (obtain ⟨e0, e1, e2, e3, e4, e5⟩ := JE.x.c6; obtain ⟨y0, y1, y2, y3, y4, y5⟩ := JE.r.c6; obtain ⟨f0, f1, f2, f3, f4, f5⟩ := JE.r.f6; go_wp2_with fail; refine end_cb6 Tryz.results56 Tryz.underlying99 rfl sizeHouseS JE.r rfl ?_; have hg9 := grown_set6 WE w.heap.size (.int .i64 ({ h with last := 1000000 - y } : House).now) (.int .i64 ({ h with last := 1000000 - y } : House).last) (.slice b1 l1 d1) (.slice b2 l2 d2) (.slice b3 l3 d3) (.slice b4 l4 d4); exact ⟨⟨({ h with last := 1000000 - y } : House), _, _, _, _, rfl, JE.few, JE.q, (JE.ht.gr hg9 (.inl (Nat.le_refl _))).hs (Nat.le_of_lt JE.rz), (JE.o.gr hg9 (Nat.lt_succ_of_lt JE.qz)).low (Nat.succ_le_succ (Nat.le_of_lt JE.qz))⟩, (JE.rd.row hg9 JE.rz).mono (by omega), grown_new JE.g hg9 (Nat.le_refl _)⟩)
        · have h0' : (x == 0) = false := by simpa using h0
          have h1' : (x == 1) = false := by simpa using h1
          go_upto_region 11 with fail
          clear h0' h1'
          obtain ⟨WE, rfl⟩ : ∃ WE, WE = w5 := ⟨_, rfl⟩
          have JE := J5
          (obtain ⟨e0, e1, e2, e3, e4, e5⟩ := JE.x.c6; obtain ⟨y0, y1, y2, y3, y4, y5⟩ := JE.r.c6; obtain ⟨f0, f1, f2, f3, f4, f5⟩ := JE.r.f6; go_wp2_with fail; refine end_cb6 Tryz.results56 Tryz.underlying99 rfl sizeHouseS JE.r rfl ?_; have hg9 := grown_set6 WE w.heap.size (.int .i64 h.now) (.int .i64 h.last) (.slice b1 l1 d1) (.slice b2 l2 d2) (.slice b3 l3 d3) (.slice b4 l4 d4); exact ⟨⟨h, _, _, _, _, rfl, JE.few, JE.q, (JE.ht.gr hg9 (.inl (Nat.le_refl _))).hs (Nat.le_of_lt JE.rz), (JE.o.gr hg9 (Nat.lt_succ_of_lt JE.qz)).low (Nat.succ_le_succ (Nat.le_of_lt JE.qz))⟩, (JE.rd.row hg9 JE.rz).mono (by omega), grown_new JE.g hg9 (Nat.le_refl _)⟩)
end Go.Proofs.YtliebjbbomghiaaGreatDoor
