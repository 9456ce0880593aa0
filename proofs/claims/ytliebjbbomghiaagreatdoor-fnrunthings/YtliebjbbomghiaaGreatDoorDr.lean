/- Drawing a phase. -/
import Derived.Test.YtliebjbbomghiaaGreatDoorJ41
namespace Go.Proofs.YtliebjbbomghiaaGreatDoor
open Go.RowKit

set_option maxRecDepth 100000 in
set_option maxHeartbeats 4000000 in
theorem phase_any (rb len N : Nat) (v : Value) (nm : ByteArray) (later : List ByteArray) (g2 o2 c2 n2 : Nat) (w : World) (hR : Rd w rb v len N) (hN : N ≤ 900000) (hnm : nm.size ≤ maxLen) (hsz : SzS later) (hl2 : later.length = n2) (hn2 : n2 ≤ 100) (hS2 : StrsAt w g2 o2 later) (hg2 : g2 ≠ rb) :
    Calls Tryz.prog 75 #[.pointer (some ⟨rb, 0, none⟩), .string nm, .slice (some ⟨g2, o2, none⟩) n2 c2] w
      fun e w' => (∃ p : Ph, e = .returned (.agg #[.string p.nm, .int .i64 p.k, .string p.a, .string p.b, .int .i64 p.n, .int .i64 p.wi, .string p.t, .string p.e]) ∧ p.sz) ∧ Rd w' rb v len (N + 12) ∧ w.grownBy w' (some rb) := by
  have hlt := hR.lt
  have hb0 := box_alloc w ⟨⟨#[]⟩, 0, ⟨#[]⟩, ⟨#[]⟩, 0, 0, ⟨#[]⟩, ⟨#[]⟩⟩ 34
  have hG0 : w.grownBy (w.alloc (.cells #[.string ⟨#[]⟩, .int .i64 0, .string ⟨#[]⟩, .string ⟨#[]⟩, .int .i64 0, .int .i64 0, .string ⟨#[]⟩, .string ⟨#[]⟩] 34)) (some rb) := grown_alloc (grown_refl _ _) _
  have hR0 := hR.alloc (.cells #[.string ⟨#[]⟩, .int .i64 0, .string ⟨#[]⟩, .string ⟨#[]⟩, .int .i64 0, .int .i64 0, .string ⟨#[]⟩, .string ⟨#[]⟩] 34)
  have hS0 := hS2.kept hG0 hg2
  have hA0 : (w.alloc (.cells #[.string ⟨#[]⟩, .int .i64 0, .string ⟨#[]⟩, .string ⟨#[]⟩, .int .i64 0, .int .i64 0, .string ⟨#[]⟩, .string ⟨#[]⟩] 34)).heap.size = w.heap.size + 1 := by simp
  go_enter Tryz.func75, Tryz.ntmps75
  go_wp2_with fail
  generalize hA : w.alloc (.cells #[.string ⟨#[]⟩, .int .i64 0, .string ⟨#[]⟩, .string ⟨#[]⟩, .int .i64 0, .int .i64 0, .string ⟨#[]⟩, .string ⟨#[]⟩] 34) = A1 at *
  clear hA
  refine (pick_any rb len N v 5 _ hR0 (by omega)).mono ?_
  rintro e w1 ⟨⟨x1, rfl, hx10, hx11⟩, hR1, hg1⟩
  have hx12 := hx11 (by omega)
  clear hx11
  go_wp2_with fail
  refine (slot_any rb len _ v _ hR1 (by omega)).mono ?_
  rintro e w2 ⟨⟨s, rfl, hs⟩, hR2, hg2'⟩
  go_wp2_with fail
  refine (pick_any rb len _ v 20 _ hR2 (by omega)).mono ?_
  rintro e w3 ⟨⟨x2, rfl, hx20, hx21⟩, hR3, hg3⟩
  have hx22 := hx21 (by omega)
  clear hx21
  have hG3 := grown_trans (grown_trans hg1 hg2') hg3
  clear hg1 hg2' hg3 hR1 hR2 hR0
  go_upto_region 2 with fail
  obtain ⟨ii, hi, iz0, iz1, iz2⟩ := info_parts infoStr
  have hbx := box_alloc w3 ⟨nm, 1 + x1, s, ⟨#[]⟩, 0, 1 + x2, ⟨#[]⟩, ⟨#[]⟩⟩ 34
  have hGx := grown_alloc hG3 (.cells #[.string nm, .int .i64 (1 + x1), .string s, .string ⟨#[]⟩, .int .i64 0, .int .i64 (1 + x2), .string ⟨#[]⟩, .string ⟨#[]⟩] 34)
  have hRx := hR3.alloc (.cells #[.string nm, .int .i64 (1 + x1), .string s, .string ⟨#[]⟩, .int .i64 0, .int .i64 (1 + x2), .string ⟨#[]⟩, .string ⟨#[]⟩] 34)
  have hpb : w.heap.size + 1 ≤ w3.heap.size := by have := hG3.size; omega
  have hpX : w3.heap.size < (w3.alloc (.cells #[.string nm, .int .i64 (1 + x1), .string s, .string ⟨#[]⟩, .int .i64 0, .int .i64 (1 + x2), .string ⟨#[]⟩, .string ⟨#[]⟩] 34)).heap.size := by simp
  have hpz : Ph.sz ⟨nm, 1 + x1, s, ⟨#[]⟩, 0, 1 + x2, ⟨#[]⟩, ⟨#[]⟩⟩ := ⟨hnm, hs, sz0, sz0, sz0, by dsimp only; omega, by dsimp only; omega⟩
  generalize hX : w3.alloc (.cells #[.string nm, .int .i64 (1 + x1), .string s, .string ⟨#[]⟩, .int .i64 0, .int .i64 (1 + x2), .string ⟨#[]⟩, .string ⟨#[]⟩] 34) = X at *
  generalize w3.heap.size = pb at *
  clear hX hR3 hG3
  obtain ⟨c0, c1, cc2, c3, c4, c5, c6, c7⟩ := hbx.cells
  obtain ⟨f0, f1, f2, f3, f4, f5, f6, f7⟩ := hbx.frozen
  simp only at c0 c1 cc2 c3 c4 c5 c6 c7
  by_cases hk1 : x1 = 3 ∨ x1 = 4
  · have hk4 : ((1 + x1 : Int) == 1) = false ∧ ((1 + x1 : Int) == 2) = false ∧ ((1 + x1 : Int) == 3) = false := by simp; omega
    obtain ⟨k1, k2, k3⟩ := hk4
    clear hk1
    · obtain ⟨p, hbx, hpz⟩ : ∃ p, Box X pb p ∧ p.sz := ⟨_, hbx, hpz⟩
      have hXs : w.heap.size + 1 ≤ X.heap.size := by have := hGx.size; omega
      obtain ⟨M, hM, hRx⟩ : ∃ M, M ≤ N + 6 ∧ Rd X rb v len M := ⟨_, Nat.le_refl _, hRx.mono (by omega)⟩
      go_wp2_with (at_builtin; refine wpList_append_own _ rfl _ _ 29 rfl X.heap.size 9 ii _ 1 16 Tryz.underlying29 hi iz0 iz1 iz2 rfl (by decide) _ _ _ rfl (World.ownsRow_lit _ _ 3 (Nat.le_refl _) (by unfold maxLen; omega) rfl) ⟨g2, o2, none⟩ n2 c2 (later.map Value.string) rfl (by simp [hl2]) (news_of ((hS0.kept hGx hg2).alloc _)) (oneS later) (by unfold maxLen; omega) (by omega) (by simp) ?_)
      intro v' w4 hown4 hgrow4 _
      clear c0 c1 cc2 c3 c4 c5 c6 c7 f0 f1 f2 f3 f4 f5 f6 f7
      obtain ⟨g3, cap3, rfl⟩ := own_ptr2 hown4 (by omega)
      have hS4 : StrsAt w4 g3 0 (endsL ++ later) := strs_of_own (ss := endsL ++ later) (by simpa [endsL] using hown4) (by simp [endsL, hl2]; omega)
      have hg3 := (hown4.lt g3 rfl).1
      have hgrow4 : (X.alloc (.cells #[.string ⟨#[103, 111, 111, 100]⟩, .string ⟨#[115, 97, 118, 101, 100]⟩, .string ⟨#[115, 99, 114, 97, 112, 112, 101, 100]⟩] 9)).grownBy w4 (some X.heap.size) := hgrow4
      have hR4 := (hRx.alloc (.cells #[.string ⟨#[103, 111, 111, 100]⟩, .string ⟨#[115, 97, 118, 101, 100]⟩, .string ⟨#[115, 99, 114, 97, 112, 112, 101, 100]⟩] 9)).row hgrow4 (by have := hGx.size; omega)
      have hb4 := (hbx.kept (grown_alloc (r := none) (grown_refl X none) (.cells #[.string ⟨#[103, 111, 111, 100]⟩, .string ⟨#[115, 97, 118, 101, 100]⟩, .string ⟨#[115, 99, 114, 97, 112, 112, 101, 100]⟩] 9)) (by simp)).kept hgrow4 (by simp; omega)
      have hG4 := grown_new (grown_alloc hGx (.cells #[.string ⟨#[103, 111, 111, 100]⟩, .string ⟨#[115, 97, 118, 101, 100]⟩, .string ⟨#[115, 99, 114, 97, 112, 112, 101, 100]⟩] 9)) hgrow4 (by have := hGx.size; omega)
      have hrb : rb < X.heap.size := by omega
      clear hown4 hgrow4 hRx hbx hGx
      go_wp2_with fail
      refine (of_any rb len _ v (endsL ++ later) _ g3 0 _ _ (by simp [endsL, hl2]; omega) hR4 (by omega) hS4 (by omega) (by omega) (by omega)).mono ?_
      rintro e w5 ⟨⟨s3, hs3, rfl⟩, hR5, hg5⟩
      have hb5 := hb4.kept hg5 (by simp; omega)
      have hS5 := hS4.kept hg5 (by omega)
      have hG5 := grown_trans hG4 hg5
      clear hb4 hS4 hG4 hg5 hR4
      obtain ⟨c0, c1, cc2, c3, c4, c5, c6, c7⟩ := hb5.cells
      obtain ⟨f0, f1, f2, f3, f4, f5, f6, f7⟩ := hb5.frozen
      go_wp2_with fail
      refine (of_any rb len _ v (endsL ++ later) _ g3 0 _ _ (by simp [endsL, hl2]; omega) (hR5.setCell (pb := pb) (off := 6) (u := .string s3) (by omega)) (by omega) (hS5.other (by omega)) (by omega) (by omega) (by omega)).mono ?_
      rintro e w6 ⟨⟨s4, hs4, rfl⟩, hR6, hg6⟩
      have hb6 := (hb5.set6 s3).kept hg6 (by simp; omega)
      have hG6 := grown_trans (grown_setNew hG5 (pb := pb) (off := 6) (by omega) (.string s3)) hg6
      have hz3 : s3.size ≤ maxLen := sz_app hsz s3 hs3
      have hz4 : s4.size ≤ maxLen := sz_app hsz s4 hs4
      clear hb5 hS5 hG5 hg6 hR5 c0 c1 cc2 c3 c4 c5 c6 c7 f0 f1 f2 f3 f4 f5 f6 f7
      obtain ⟨c0, c1, cc2, c3, c4, c5, c6, c7⟩ := hb6.cells
      obtain ⟨f0, f1, f2, f3, f4, f5, f6, f7⟩ := hb6.frozen
      simp only at c0 c1 cc2 c3 c4 c5 c6 c7
      by_cases h0 : n2 = 0
      · obtain ⟨d0, d1, d2, d3, d4, d5, d6, d7⟩ := (hb0.kept hG6 (by simp; omega)).cells
        obtain ⟨r0, r1, r2, r3, r4, r5, r6, r7⟩ := (hb0.kept hG6 (by simp; omega)).frozen
        simp only at d0 d1 d2 d3 d4 d5 d6 d7
        have hpw : ¬ pb = w.heap.size := by omega
        have hwp : ¬ w.heap.size = pb := by omega
        subst h0
        go_wp2_with fail
        refine bodyPost_ret (ret_box (rk := w.heap.size) (p := { p with t := s3, e := s4 }) Tryz.results75 ?ht ?hZ) rfl ?_
        case ht => rfl
        case hZ => exact Box.copy ((hb0.kept hG6 (by simp; omega)).other (qb := pb) (j := 7) (u := .string s4) (by omega)) ({ p with t := s3, e := s4 })
        exact ⟨⟨{ p with t := s3, e := s4 }, rfl, ⟨hpz.1, hpz.2.1, hpz.2.2.1, hz3, hz4, hpz.2.2.2.2.2⟩⟩, (((((((((hR6.setCell (by omega)).setCell (by omega)).setCell (by omega)).setCell (by omega)).setCell (by omega)).setCell (by omega)).setCell (by omega)).setCell (by omega)).setCell (by omega)).mono (by omega), grown_setNew (grown_setNew (grown_setNew (grown_setNew (grown_setNew (grown_setNew (grown_setNew (grown_setNew (grown_trans hG0 (grown_setNew hG6 (by omega) _)) (by omega) _) (by omega) _) (by omega) _) (by omega) _) (by omega) _) (by omega) _) (by omega) _) (by omega) _⟩
      · have hpos : 0 < n2 := by omega
        clear h0
        go_wp2_with fail
        refine (pick_any rb len _ v 4 _ (hR6.setCell (pb := pb) (off := 7) (u := .string s4) (by omega)) (by omega)).mono ?_
        rintro e w7 ⟨⟨x3, rfl, hx30, hx31⟩, hR7, hg7⟩
        clear hx31
        have hb7 := (hb6.set7 s4).kept hg7 (by simp; omega)
        have hG7 := grown_trans (grown_setNew hG6 (pb := pb) (off := 7) (by omega) (.string s4)) hg7
        clear hb6 hR6 hG6 hg7 c0 c1 cc2 c3 c4 c5 c6 c7 f0 f1 f2 f3 f4 f5 f6 f7
        obtain ⟨c0, c1, cc2, c3, c4, c5, c6, c7⟩ := hb7.cells
        obtain ⟨f0, f1, f2, f3, f4, f5, f6, f7⟩ := hb7.frozen
        obtain ⟨d0, d1, d2, d3, d4, d5, d6, d7⟩ := (hb0.kept hG7 (by simp; omega)).cells
        obtain ⟨r0, r1, r2, r3, r4, r5, r6, r7⟩ := (hb0.kept hG7 (by simp; omega)).frozen
        simp only at c0 c1 cc2 c3 c4 c5 c6 c7 d0 d1 d2 d3 d4 d5 d6 d7
        have hpw : ¬ pb = w.heap.size := by omega
        have hwp : ¬ w.heap.size = pb := by omega
        have hl0 : w7.cell? ⟨g2, o2, none⟩ = some (.string (later[0]'(by omega))) := by
          have := (hS0.kept hG7 hg2) 0 (later[0]'(by omega)) (by simp)
          simpa using this
        by_cases hx3 : 0 < x3
        · go_wp2_with fail
          refine bodyPost_ret (ret_box (rk := w.heap.size) (p := { p with t := later[0]'(by omega), e := s4 }) Tryz.results75 ?ht ?hZ) rfl ?_
          case ht => rfl
          case hZ => exact Box.copy ((hb0.kept hG7 (by simp; omega)).other (qb := pb) (j := 6) (u := .string (later[0]'(by omega))) (by omega)) ({ p with t := later[0]'(by omega), e := s4 })
          exact ⟨⟨{ p with t := later[0]'(by omega), e := s4 }, rfl, ⟨hpz.1, hpz.2.1, hpz.2.2.1, hsz _ (by simp), hz4, hpz.2.2.2.2.2⟩⟩, (((((((((hR7.setCell (by omega)).setCell (by omega)).setCell (by omega)).setCell (by omega)).setCell (by omega)).setCell (by omega)).setCell (by omega)).setCell (by omega)).setCell (by omega)).mono (by omega), grown_setNew (grown_setNew (grown_setNew (grown_setNew (grown_setNew (grown_setNew (grown_setNew (grown_setNew (grown_trans hG0 (grown_setNew hG7 (by omega) _)) (by omega) _) (by omega) _) (by omega) _) (by omega) _) (by omega) _) (by omega) _) (by omega) _) (by omega) _⟩
        · go_wp2_with fail
          refine bodyPost_ret (ret_box (rk := w.heap.size) (p := { p with t := s3, e := s4 }) Tryz.results75 ?ht ?hZ) rfl ?_
          case ht => rfl
          case hZ => exact Box.copy (hb0.kept hG7 (by simp; omega)) ({ p with t := s3, e := s4 })
          exact ⟨⟨{ p with t := s3, e := s4 }, rfl, ⟨hpz.1, hpz.2.1, hpz.2.2.1, hz3, hz4, hpz.2.2.2.2.2⟩⟩, (((((((((hR7).setCell (by omega)).setCell (by omega)).setCell (by omega)).setCell (by omega)).setCell (by omega)).setCell (by omega)).setCell (by omega)).setCell (by omega)).mono (by omega), grown_setNew (grown_setNew (grown_setNew (grown_setNew (grown_setNew (grown_setNew (grown_setNew (grown_setNew (grown_trans hG0 hG7) (by omega) _) (by omega) _) (by omega) _) (by omega) _) (by omega) _) (by omega) _) (by omega) _) (by omega) _⟩
  · by_cases hk2 : x1 = 0
    · clear hk1
      obtain rfl : x1 = 0 := by omega
      go_wp2_with fail
      refine (of_any rb len _ v stuffL 2 _ 0 _ _ rfl (hRx.alloc _) (by omega) (strsAt_alloc X stuffL 9) (by omega) (by omega) (by omega)).mono ?_
      rintro e w4 ⟨⟨s2, hs2, rfl⟩, hR4, hg4⟩
      have hz2 : s2.size ≤ maxLen := sz_lit (ss := stuffL) (by decide) s2 hs2
      have hb4 := (hbx.kept (grown_alloc (r := none) (grown_refl X none) _) (by simp)).kept hg4 (by simp; omega)
      have hG4 := grown_trans (grown_alloc hGx _) hg4
      clear hg4
      clear c0 c1 cc2 c3 c4 c5 c6 c7 f0 f1 f2 f3 f4 f5 f6 f7
      obtain ⟨c0, c1, cc2, c3, c4, c5, c6, c7⟩ := hb4.cells
      obtain ⟨f0, f1, f2, f3, f4, f5, f6, f7⟩ := hb4.frozen
      simp only at c0 c1 cc2 c3 c4 c5 c6 c7
      go_wp2_with fail
      refine (pick_any rb len _ v 30 _ (hR4.setCell (pb := pb) (off := 3) (u := .string s2) (by omega)) (by omega)).mono ?_
      rintro e w5 ⟨⟨x4, rfl, hx40, hx41⟩, hR5, hg5⟩
      have hx42 := hx41 (by omega)
      have hb5 := (hb4.set3 s2).kept hg5 (by simp; omega)
      have hG5 := grown_trans (grown_setNew hG4 (pb := pb) (off := 3) (by omega) (.string s2)) hg5
      clear hg5 hx41 hb4 hG4 hR4
      clear c0 c1 cc2 c3 c4 c5 c6 c7 f0 f1 f2 f3 f4 f5 f6 f7
      obtain ⟨c0, c1, cc2, c3, c4, c5, c6, c7⟩ := hb5.cells
      obtain ⟨f0, f1, f2, f3, f4, f5, f6, f7⟩ := hb5.frozen
      simp only at c0 c1 cc2 c3 c4 c5 c6 c7
      go_upto_region 13 with fail
      have hbx' := hb5.set4 (1 + x4)
      have hRx' := hR5.setCell (pb := pb) (off := 4) (u := .int .i64 (1 + x4)) (by omega)
      have hGx' := grown_setNew hG5 (pb := pb) (off := 4) (by omega) (.int .i64 (1 + x4))
      have hpX' := hbx'.lt
      clear hbx hRx hGx hpX hpz
      generalize hX : w5.setCell ⟨pb, 4, none⟩ (.int .i64 (1 + x4)) = Y at *
      clear hX hb5 hR5 hG5
      clear c0 c1 cc2 c3 c4 c5 c6 c7 f0 f1 f2 f3 f4 f5 f6 f7
      have hbx := hbx'
      have hRx := hRx'
      have hGx := hGx'
      have hpX := hpX'
      clear hbx' hRx' hGx' hpX'
      obtain ⟨p, hbx, hpz⟩ : ∃ p, Box Y pb p ∧ p.sz := ⟨_, hbx, ⟨hnm, hs, hz2, sz0, sz0, by dsimp only; omega, by dsimp only; omega⟩⟩
      have hXs : w.heap.size + 1 ≤ Y.heap.size := by have := hGx.size; omega
      obtain ⟨M, hM, hRx⟩ : ∃ M, M ≤ N + 6 ∧ Rd Y rb v len M := ⟨_, Nat.le_refl _, hRx.mono (by omega)⟩
      go_wp2_with (at_builtin; refine wpList_append_own _ rfl _ _ 29 rfl Y.heap.size 9 ii _ 1 16 Tryz.underlying29 hi iz0 iz1 iz2 rfl (by decide) _ _ _ rfl (World.ownsRow_lit _ _ 3 (Nat.le_refl _) (by unfold maxLen; omega) rfl) ⟨g2, o2, none⟩ n2 c2 (later.map Value.string) rfl (by simp [hl2]) (news_of ((hS0.kept hGx hg2).alloc _)) (oneS later) (by unfold maxLen; omega) (by omega) (by simp) ?_)
      intro v' w4 hown4 hgrow4 _
      obtain ⟨g3, cap3, rfl⟩ := own_ptr2 hown4 (by omega)
      have hS4 : StrsAt w4 g3 0 (endsL ++ later) := strs_of_own (ss := endsL ++ later) (by simpa [endsL] using hown4) (by simp [endsL, hl2]; omega)
      have hg3 := (hown4.lt g3 rfl).1
      have hgrow4 : (Y.alloc (.cells #[.string ⟨#[103, 111, 111, 100]⟩, .string ⟨#[115, 97, 118, 101, 100]⟩, .string ⟨#[115, 99, 114, 97, 112, 112, 101, 100]⟩] 9)).grownBy w4 (some Y.heap.size) := hgrow4
      have hR4 := (hRx.alloc (.cells #[.string ⟨#[103, 111, 111, 100]⟩, .string ⟨#[115, 97, 118, 101, 100]⟩, .string ⟨#[115, 99, 114, 97, 112, 112, 101, 100]⟩] 9)).row hgrow4 (by have := hGx.size; omega)
      have hb4 := (hbx.kept (grown_alloc (r := none) (grown_refl Y none) (.cells #[.string ⟨#[103, 111, 111, 100]⟩, .string ⟨#[115, 97, 118, 101, 100]⟩, .string ⟨#[115, 99, 114, 97, 112, 112, 101, 100]⟩] 9)) (by simp)).kept hgrow4 (by simp; omega)
      have hG4 := grown_new (grown_alloc hGx (.cells #[.string ⟨#[103, 111, 111, 100]⟩, .string ⟨#[115, 97, 118, 101, 100]⟩, .string ⟨#[115, 99, 114, 97, 112, 112, 101, 100]⟩] 9)) hgrow4 (by have := hGx.size; omega)
      have hrb : rb < Y.heap.size := by omega
      clear hown4 hgrow4 hRx hbx hGx
      go_wp2_with fail
      refine (of_any rb len _ v (endsL ++ later) _ g3 0 _ _ (by simp [endsL, hl2]; omega) hR4 (by omega) hS4 (by omega) (by omega) (by omega)).mono ?_
      rintro e w5 ⟨⟨s3, hs3, rfl⟩, hR5, hg5⟩
      have hb5 := hb4.kept hg5 (by simp; omega)
      have hS5 := hS4.kept hg5 (by omega)
      have hG5 := grown_trans hG4 hg5
      clear hb4 hS4 hG4 hg5 hR4
      obtain ⟨c0, c1, cc2, c3, c4, c5, c6, c7⟩ := hb5.cells
      obtain ⟨f0, f1, f2, f3, f4, f5, f6, f7⟩ := hb5.frozen
      go_wp2_with fail
      refine (of_any rb len _ v (endsL ++ later) _ g3 0 _ _ (by simp [endsL, hl2]; omega) (hR5.setCell (pb := pb) (off := 6) (u := .string s3) (by omega)) (by omega) (hS5.other (by omega)) (by omega) (by omega) (by omega)).mono ?_
      rintro e w6 ⟨⟨s4, hs4, rfl⟩, hR6, hg6⟩
      have hb6 := (hb5.set6 s3).kept hg6 (by simp; omega)
      have hG6 := grown_trans (grown_setNew hG5 (pb := pb) (off := 6) (by omega) (.string s3)) hg6
      have hz3 : s3.size ≤ maxLen := sz_app hsz s3 hs3
      have hz4 : s4.size ≤ maxLen := sz_app hsz s4 hs4
      clear hb5 hS5 hG5 hg6 hR5 c0 c1 cc2 c3 c4 c5 c6 c7 f0 f1 f2 f3 f4 f5 f6 f7
      obtain ⟨c0, c1, cc2, c3, c4, c5, c6, c7⟩ := hb6.cells
      obtain ⟨f0, f1, f2, f3, f4, f5, f6, f7⟩ := hb6.frozen
      simp only at c0 c1 cc2 c3 c4 c5 c6 c7
      by_cases h0 : n2 = 0
      · obtain ⟨d0, d1, d2, d3, d4, d5, d6, d7⟩ := (hb0.kept hG6 (by simp; omega)).cells
        obtain ⟨r0, r1, r2, r3, r4, r5, r6, r7⟩ := (hb0.kept hG6 (by simp; omega)).frozen
        simp only at d0 d1 d2 d3 d4 d5 d6 d7
        have hpw : ¬ pb = w.heap.size := by omega
        have hwp : ¬ w.heap.size = pb := by omega
        subst h0
        go_wp2_with fail
        refine bodyPost_ret (ret_box (rk := w.heap.size) (p := { p with t := s3, e := s4 }) Tryz.results75 ?ht ?hZ) rfl ?_
        case ht => rfl
        case hZ => exact Box.copy ((hb0.kept hG6 (by simp; omega)).other (qb := pb) (j := 7) (u := .string s4) (by omega)) ({ p with t := s3, e := s4 })
        exact ⟨⟨{ p with t := s3, e := s4 }, rfl, ⟨hpz.1, hpz.2.1, hpz.2.2.1, hz3, hz4, hpz.2.2.2.2.2⟩⟩, (((((((((hR6.setCell (by omega)).setCell (by omega)).setCell (by omega)).setCell (by omega)).setCell (by omega)).setCell (by omega)).setCell (by omega)).setCell (by omega)).setCell (by omega)).mono (by omega), grown_setNew (grown_setNew (grown_setNew (grown_setNew (grown_setNew (grown_setNew (grown_setNew (grown_setNew (grown_trans hG0 (grown_setNew hG6 (by omega) _)) (by omega) _) (by omega) _) (by omega) _) (by omega) _) (by omega) _) (by omega) _) (by omega) _) (by omega) _⟩
      · have hpos : 0 < n2 := by omega
        clear h0
        go_wp2_with fail
        refine (pick_any rb len _ v 4 _ (hR6.setCell (pb := pb) (off := 7) (u := .string s4) (by omega)) (by omega)).mono ?_
        rintro e w7 ⟨⟨x3, rfl, hx30, hx31⟩, hR7, hg7⟩
        clear hx31
        have hb7 := (hb6.set7 s4).kept hg7 (by simp; omega)
        have hG7 := grown_trans (grown_setNew hG6 (pb := pb) (off := 7) (by omega) (.string s4)) hg7
        clear hb6 hR6 hG6 hg7 c0 c1 cc2 c3 c4 c5 c6 c7 f0 f1 f2 f3 f4 f5 f6 f7
        obtain ⟨c0, c1, cc2, c3, c4, c5, c6, c7⟩ := hb7.cells
        obtain ⟨f0, f1, f2, f3, f4, f5, f6, f7⟩ := hb7.frozen
        obtain ⟨d0, d1, d2, d3, d4, d5, d6, d7⟩ := (hb0.kept hG7 (by simp; omega)).cells
        obtain ⟨r0, r1, r2, r3, r4, r5, r6, r7⟩ := (hb0.kept hG7 (by simp; omega)).frozen
        simp only at c0 c1 cc2 c3 c4 c5 c6 c7 d0 d1 d2 d3 d4 d5 d6 d7
        have hpw : ¬ pb = w.heap.size := by omega
        have hwp : ¬ w.heap.size = pb := by omega
        have hl0 : w7.cell? ⟨g2, o2, none⟩ = some (.string (later[0]'(by omega))) := by
          have := (hS0.kept hG7 hg2) 0 (later[0]'(by omega)) (by simp)
          simpa using this
        by_cases hx3 : 0 < x3
        · go_wp2_with fail
          refine bodyPost_ret (ret_box (rk := w.heap.size) (p := { p with t := later[0]'(by omega), e := s4 }) Tryz.results75 ?ht ?hZ) rfl ?_
          case ht => rfl
          case hZ => exact Box.copy ((hb0.kept hG7 (by simp; omega)).other (qb := pb) (j := 6) (u := .string (later[0]'(by omega))) (by omega)) ({ p with t := later[0]'(by omega), e := s4 })
          exact ⟨⟨{ p with t := later[0]'(by omega), e := s4 }, rfl, ⟨hpz.1, hpz.2.1, hpz.2.2.1, hsz _ (by simp), hz4, hpz.2.2.2.2.2⟩⟩, (((((((((hR7.setCell (by omega)).setCell (by omega)).setCell (by omega)).setCell (by omega)).setCell (by omega)).setCell (by omega)).setCell (by omega)).setCell (by omega)).setCell (by omega)).mono (by omega), grown_setNew (grown_setNew (grown_setNew (grown_setNew (grown_setNew (grown_setNew (grown_setNew (grown_setNew (grown_trans hG0 (grown_setNew hG7 (by omega) _)) (by omega) _) (by omega) _) (by omega) _) (by omega) _) (by omega) _) (by omega) _) (by omega) _) (by omega) _⟩
        · go_wp2_with fail
          refine bodyPost_ret (ret_box (rk := w.heap.size) (p := { p with t := s3, e := s4 }) Tryz.results75 ?ht ?hZ) rfl ?_
          case ht => rfl
          case hZ => exact Box.copy (hb0.kept hG7 (by simp; omega)) ({ p with t := s3, e := s4 })
          exact ⟨⟨{ p with t := s3, e := s4 }, rfl, ⟨hpz.1, hpz.2.1, hpz.2.2.1, hz3, hz4, hpz.2.2.2.2.2⟩⟩, (((((((((hR7).setCell (by omega)).setCell (by omega)).setCell (by omega)).setCell (by omega)).setCell (by omega)).setCell (by omega)).setCell (by omega)).setCell (by omega)).mono (by omega), grown_setNew (grown_setNew (grown_setNew (grown_setNew (grown_setNew (grown_setNew (grown_setNew (grown_setNew (grown_trans hG0 hG7) (by omega) _) (by omega) _) (by omega) _) (by omega) _) (by omega) _) (by omega) _) (by omega) _) (by omega) _⟩
    by_cases hk3 : x1 = 1
    · clear hk1 hk2
      obtain rfl : x1 = 1 := by omega
      go_wp2_with fail
      refine (slot_any rb len _ v _ hRx (by omega)).mono ?_
      rintro e w4 ⟨⟨s2, rfl, hz2⟩, hR4, hg4⟩
      have hb4 := hbx.kept hg4 (by simp; omega)
      have hG4 := grown_trans hGx hg4
      clear hg4
      clear c0 c1 cc2 c3 c4 c5 c6 c7 f0 f1 f2 f3 f4 f5 f6 f7
      obtain ⟨c0, c1, cc2, c3, c4, c5, c6, c7⟩ := hb4.cells
      obtain ⟨f0, f1, f2, f3, f4, f5, f6, f7⟩ := hb4.frozen
      simp only at c0 c1 cc2 c3 c4 c5 c6 c7
      cases hq : (s2.toList == s.toList)
      · go_wp2_with fail
        refine (pick_any rb len _ v 30 _ (hR4.setCell (pb := pb) (off := 3) (u := .string s2) (by omega)) (by omega)).mono ?_
        rintro e w5 ⟨⟨x4, rfl, hx40, hx41⟩, hR5, hg5⟩
        have hx42 := hx41 (by omega)
        have hb5 := (hb4.set3 s2).kept hg5 (by simp; omega)
        have hG5 := grown_trans (grown_setNew hG4 (pb := pb) (off := 3) (by omega) (.string s2)) hg5
        clear hg5 hx41 hb4 hG4 hR4
        clear c0 c1 cc2 c3 c4 c5 c6 c7 f0 f1 f2 f3 f4 f5 f6 f7
        obtain ⟨c0, c1, cc2, c3, c4, c5, c6, c7⟩ := hb5.cells
        obtain ⟨f0, f1, f2, f3, f4, f5, f6, f7⟩ := hb5.frozen
        simp only at c0 c1 cc2 c3 c4 c5 c6 c7
        go_upto_region 13 with fail
        have hbx' := hb5.set4 (1 + x4)
        have hRx' := hR5.setCell (pb := pb) (off := 4) (u := .int .i64 (1 + x4)) (by omega)
        have hGx' := grown_setNew hG5 (pb := pb) (off := 4) (by omega) (.int .i64 (1 + x4))
        have hpX' := hbx'.lt
        clear hbx hRx hGx hpX hpz
        generalize hX : w5.setCell ⟨pb, 4, none⟩ (.int .i64 (1 + x4)) = Y at *
        clear hX hb5 hR5 hG5
        clear c0 c1 cc2 c3 c4 c5 c6 c7 f0 f1 f2 f3 f4 f5 f6 f7
        have hbx := hbx'
        have hRx := hRx'
        have hGx := hGx'
        have hpX := hpX'
        clear hbx' hRx' hGx' hpX'
        obtain ⟨p, hbx, hpz⟩ : ∃ p, Box Y pb p ∧ p.sz := ⟨_, hbx, ⟨hnm, hs, hz2, sz0, sz0, by dsimp only; omega, by dsimp only; omega⟩⟩
        have hXs : w.heap.size + 1 ≤ Y.heap.size := by have := hGx.size; omega
        obtain ⟨M, hM, hRx⟩ : ∃ M, M ≤ N + 6 ∧ Rd Y rb v len M := ⟨_, Nat.le_refl _, hRx.mono (by omega)⟩
        go_wp2_with (at_builtin; refine wpList_append_own _ rfl _ _ 29 rfl Y.heap.size 9 ii _ 1 16 Tryz.underlying29 hi iz0 iz1 iz2 rfl (by decide) _ _ _ rfl (World.ownsRow_lit _ _ 3 (Nat.le_refl _) (by unfold maxLen; omega) rfl) ⟨g2, o2, none⟩ n2 c2 (later.map Value.string) rfl (by simp [hl2]) (news_of ((hS0.kept hGx hg2).alloc _)) (oneS later) (by unfold maxLen; omega) (by omega) (by simp) ?_)
        intro v' w4 hown4 hgrow4 _
        obtain ⟨g3, cap3, rfl⟩ := own_ptr2 hown4 (by omega)
        have hS4 : StrsAt w4 g3 0 (endsL ++ later) := strs_of_own (ss := endsL ++ later) (by simpa [endsL] using hown4) (by simp [endsL, hl2]; omega)
        have hg3 := (hown4.lt g3 rfl).1
        have hgrow4 : (Y.alloc (.cells #[.string ⟨#[103, 111, 111, 100]⟩, .string ⟨#[115, 97, 118, 101, 100]⟩, .string ⟨#[115, 99, 114, 97, 112, 112, 101, 100]⟩] 9)).grownBy w4 (some Y.heap.size) := hgrow4
        have hR4 := (hRx.alloc (.cells #[.string ⟨#[103, 111, 111, 100]⟩, .string ⟨#[115, 97, 118, 101, 100]⟩, .string ⟨#[115, 99, 114, 97, 112, 112, 101, 100]⟩] 9)).row hgrow4 (by have := hGx.size; omega)
        have hb4 := (hbx.kept (grown_alloc (r := none) (grown_refl Y none) (.cells #[.string ⟨#[103, 111, 111, 100]⟩, .string ⟨#[115, 97, 118, 101, 100]⟩, .string ⟨#[115, 99, 114, 97, 112, 112, 101, 100]⟩] 9)) (by simp)).kept hgrow4 (by simp; omega)
        have hG4 := grown_new (grown_alloc hGx (.cells #[.string ⟨#[103, 111, 111, 100]⟩, .string ⟨#[115, 97, 118, 101, 100]⟩, .string ⟨#[115, 99, 114, 97, 112, 112, 101, 100]⟩] 9)) hgrow4 (by have := hGx.size; omega)
        have hrb : rb < Y.heap.size := by omega
        clear hown4 hgrow4 hRx hbx hGx
        go_wp2_with fail
        refine (of_any rb len _ v (endsL ++ later) _ g3 0 _ _ (by simp [endsL, hl2]; omega) hR4 (by omega) hS4 (by omega) (by omega) (by omega)).mono ?_
        rintro e w5 ⟨⟨s3, hs3, rfl⟩, hR5, hg5⟩
        have hb5 := hb4.kept hg5 (by simp; omega)
        have hS5 := hS4.kept hg5 (by omega)
        have hG5 := grown_trans hG4 hg5
        clear hb4 hS4 hG4 hg5 hR4
        obtain ⟨c0, c1, cc2, c3, c4, c5, c6, c7⟩ := hb5.cells
        obtain ⟨f0, f1, f2, f3, f4, f5, f6, f7⟩ := hb5.frozen
        go_wp2_with fail
        refine (of_any rb len _ v (endsL ++ later) _ g3 0 _ _ (by simp [endsL, hl2]; omega) (hR5.setCell (pb := pb) (off := 6) (u := .string s3) (by omega)) (by omega) (hS5.other (by omega)) (by omega) (by omega) (by omega)).mono ?_
        rintro e w6 ⟨⟨s4, hs4, rfl⟩, hR6, hg6⟩
        have hb6 := (hb5.set6 s3).kept hg6 (by simp; omega)
        have hG6 := grown_trans (grown_setNew hG5 (pb := pb) (off := 6) (by omega) (.string s3)) hg6
        have hz3 : s3.size ≤ maxLen := sz_app hsz s3 hs3
        have hz4 : s4.size ≤ maxLen := sz_app hsz s4 hs4
        clear hb5 hS5 hG5 hg6 hR5 c0 c1 cc2 c3 c4 c5 c6 c7 f0 f1 f2 f3 f4 f5 f6 f7
        obtain ⟨c0, c1, cc2, c3, c4, c5, c6, c7⟩ := hb6.cells
        obtain ⟨f0, f1, f2, f3, f4, f5, f6, f7⟩ := hb6.frozen
        simp only at c0 c1 cc2 c3 c4 c5 c6 c7
        by_cases h0 : n2 = 0
        · obtain ⟨d0, d1, d2, d3, d4, d5, d6, d7⟩ := (hb0.kept hG6 (by simp; omega)).cells
          obtain ⟨r0, r1, r2, r3, r4, r5, r6, r7⟩ := (hb0.kept hG6 (by simp; omega)).frozen
          simp only at d0 d1 d2 d3 d4 d5 d6 d7
          have hpw : ¬ pb = w.heap.size := by omega
          have hwp : ¬ w.heap.size = pb := by omega
          subst h0
          go_wp2_with fail
          refine bodyPost_ret (ret_box (rk := w.heap.size) (p := { p with t := s3, e := s4 }) Tryz.results75 ?ht ?hZ) rfl ?_
          case ht => rfl
          case hZ => exact Box.copy ((hb0.kept hG6 (by simp; omega)).other (qb := pb) (j := 7) (u := .string s4) (by omega)) ({ p with t := s3, e := s4 })
          exact ⟨⟨{ p with t := s3, e := s4 }, rfl, ⟨hpz.1, hpz.2.1, hpz.2.2.1, hz3, hz4, hpz.2.2.2.2.2⟩⟩, (((((((((hR6.setCell (by omega)).setCell (by omega)).setCell (by omega)).setCell (by omega)).setCell (by omega)).setCell (by omega)).setCell (by omega)).setCell (by omega)).setCell (by omega)).mono (by omega), grown_setNew (grown_setNew (grown_setNew (grown_setNew (grown_setNew (grown_setNew (grown_setNew (grown_setNew (grown_trans hG0 (grown_setNew hG6 (by omega) _)) (by omega) _) (by omega) _) (by omega) _) (by omega) _) (by omega) _) (by omega) _) (by omega) _) (by omega) _⟩
        · have hpos : 0 < n2 := by omega
          clear h0
          go_wp2_with fail
          refine (pick_any rb len _ v 4 _ (hR6.setCell (pb := pb) (off := 7) (u := .string s4) (by omega)) (by omega)).mono ?_
          rintro e w7 ⟨⟨x3, rfl, hx30, hx31⟩, hR7, hg7⟩
          clear hx31
          have hb7 := (hb6.set7 s4).kept hg7 (by simp; omega)
          have hG7 := grown_trans (grown_setNew hG6 (pb := pb) (off := 7) (by omega) (.string s4)) hg7
          clear hb6 hR6 hG6 hg7 c0 c1 cc2 c3 c4 c5 c6 c7 f0 f1 f2 f3 f4 f5 f6 f7
          obtain ⟨c0, c1, cc2, c3, c4, c5, c6, c7⟩ := hb7.cells
          obtain ⟨f0, f1, f2, f3, f4, f5, f6, f7⟩ := hb7.frozen
          obtain ⟨d0, d1, d2, d3, d4, d5, d6, d7⟩ := (hb0.kept hG7 (by simp; omega)).cells
          obtain ⟨r0, r1, r2, r3, r4, r5, r6, r7⟩ := (hb0.kept hG7 (by simp; omega)).frozen
          simp only at c0 c1 cc2 c3 c4 c5 c6 c7 d0 d1 d2 d3 d4 d5 d6 d7
          have hpw : ¬ pb = w.heap.size := by omega
          have hwp : ¬ w.heap.size = pb := by omega
          have hl0 : w7.cell? ⟨g2, o2, none⟩ = some (.string (later[0]'(by omega))) := by
            have := (hS0.kept hG7 hg2) 0 (later[0]'(by omega)) (by simp)
            simpa using this
          by_cases hx3 : 0 < x3
          · go_wp2_with fail
            refine bodyPost_ret (ret_box (rk := w.heap.size) (p := { p with t := later[0]'(by omega), e := s4 }) Tryz.results75 ?ht ?hZ) rfl ?_
            case ht => rfl
            case hZ => exact Box.copy ((hb0.kept hG7 (by simp; omega)).other (qb := pb) (j := 6) (u := .string (later[0]'(by omega))) (by omega)) ({ p with t := later[0]'(by omega), e := s4 })
            exact ⟨⟨{ p with t := later[0]'(by omega), e := s4 }, rfl, ⟨hpz.1, hpz.2.1, hpz.2.2.1, hsz _ (by simp), hz4, hpz.2.2.2.2.2⟩⟩, (((((((((hR7.setCell (by omega)).setCell (by omega)).setCell (by omega)).setCell (by omega)).setCell (by omega)).setCell (by omega)).setCell (by omega)).setCell (by omega)).setCell (by omega)).mono (by omega), grown_setNew (grown_setNew (grown_setNew (grown_setNew (grown_setNew (grown_setNew (grown_setNew (grown_setNew (grown_trans hG0 (grown_setNew hG7 (by omega) _)) (by omega) _) (by omega) _) (by omega) _) (by omega) _) (by omega) _) (by omega) _) (by omega) _) (by omega) _⟩
          · go_wp2_with fail
            refine bodyPost_ret (ret_box (rk := w.heap.size) (p := { p with t := s3, e := s4 }) Tryz.results75 ?ht ?hZ) rfl ?_
            case ht => rfl
            case hZ => exact Box.copy (hb0.kept hG7 (by simp; omega)) ({ p with t := s3, e := s4 })
            exact ⟨⟨{ p with t := s3, e := s4 }, rfl, ⟨hpz.1, hpz.2.1, hpz.2.2.1, hz3, hz4, hpz.2.2.2.2.2⟩⟩, (((((((((hR7).setCell (by omega)).setCell (by omega)).setCell (by omega)).setCell (by omega)).setCell (by omega)).setCell (by omega)).setCell (by omega)).setCell (by omega)).mono (by omega), grown_setNew (grown_setNew (grown_setNew (grown_setNew (grown_setNew (grown_setNew (grown_setNew (grown_setNew (grown_trans hG0 hG7) (by omega) _) (by omega) _) (by omega) _) (by omega) _) (by omega) _) (by omega) _) (by omega) _) (by omega) _⟩
      · go_wp2_with fail
        refine (pick_any rb len _ v 30 _ ((hR4.setCell (pb := pb) (off := 3) (u := .string s2) (by omega)).setCell (pb := pb) (off := 3) (u := .string ⟨#[118, 97, 116]⟩) (by omega)) (by omega)).mono ?_
        rintro e w5 ⟨⟨x4, rfl, hx40, hx41⟩, hR5, hg5⟩
        have hx42 := hx41 (by omega)
        have hb5 := ((hb4.set3 s2).set3 ⟨#[118, 97, 116]⟩).kept hg5 (by simp; omega)
        have hG5 := grown_trans (grown_setNew (grown_setNew hG4 (pb := pb) (off := 3) (by omega) (.string s2)) (pb := pb) (off := 3) (by omega) (.string ⟨#[118, 97, 116]⟩)) hg5
        clear hg5 hx41 hb4 hG4 hR4
        clear c0 c1 cc2 c3 c4 c5 c6 c7 f0 f1 f2 f3 f4 f5 f6 f7
        obtain ⟨c0, c1, cc2, c3, c4, c5, c6, c7⟩ := hb5.cells
        obtain ⟨f0, f1, f2, f3, f4, f5, f6, f7⟩ := hb5.frozen
        simp only at c0 c1 cc2 c3 c4 c5 c6 c7
        go_upto_region 13 with fail
        have hbx' := hb5.set4 (1 + x4)
        have hRx' := hR5.setCell (pb := pb) (off := 4) (u := .int .i64 (1 + x4)) (by omega)
        have hGx' := grown_setNew hG5 (pb := pb) (off := 4) (by omega) (.int .i64 (1 + x4))
        have hpX' := hbx'.lt
        clear hbx hRx hGx hpX hpz
        generalize hX : w5.setCell ⟨pb, 4, none⟩ (.int .i64 (1 + x4)) = Y at *
        clear hX hb5 hR5 hG5
        clear c0 c1 cc2 c3 c4 c5 c6 c7 f0 f1 f2 f3 f4 f5 f6 f7
        have hbx := hbx'
        have hRx := hRx'
        have hGx := hGx'
        have hpX := hpX'
        clear hbx' hRx' hGx' hpX'
        obtain ⟨p, hbx, hpz⟩ : ∃ p, Box Y pb p ∧ p.sz := ⟨_, hbx, ⟨hnm, hs, sz_lit (ss := [⟨#[118, 97, 116]⟩]) (by decide) _ (by simp), sz0, sz0, by dsimp only; omega, by dsimp only; omega⟩⟩
        have hXs : w.heap.size + 1 ≤ Y.heap.size := by have := hGx.size; omega
        obtain ⟨M, hM, hRx⟩ : ∃ M, M ≤ N + 6 ∧ Rd Y rb v len M := ⟨_, Nat.le_refl _, hRx.mono (by omega)⟩
        go_wp2_with (at_builtin; refine wpList_append_own _ rfl _ _ 29 rfl Y.heap.size 9 ii _ 1 16 Tryz.underlying29 hi iz0 iz1 iz2 rfl (by decide) _ _ _ rfl (World.ownsRow_lit _ _ 3 (Nat.le_refl _) (by unfold maxLen; omega) rfl) ⟨g2, o2, none⟩ n2 c2 (later.map Value.string) rfl (by simp [hl2]) (news_of ((hS0.kept hGx hg2).alloc _)) (oneS later) (by unfold maxLen; omega) (by omega) (by simp) ?_)
        intro v' w4 hown4 hgrow4 _
        obtain ⟨g3, cap3, rfl⟩ := own_ptr2 hown4 (by omega)
        have hS4 : StrsAt w4 g3 0 (endsL ++ later) := strs_of_own (ss := endsL ++ later) (by simpa [endsL] using hown4) (by simp [endsL, hl2]; omega)
        have hg3 := (hown4.lt g3 rfl).1
        have hgrow4 : (Y.alloc (.cells #[.string ⟨#[103, 111, 111, 100]⟩, .string ⟨#[115, 97, 118, 101, 100]⟩, .string ⟨#[115, 99, 114, 97, 112, 112, 101, 100]⟩] 9)).grownBy w4 (some Y.heap.size) := hgrow4
        have hR4 := (hRx.alloc (.cells #[.string ⟨#[103, 111, 111, 100]⟩, .string ⟨#[115, 97, 118, 101, 100]⟩, .string ⟨#[115, 99, 114, 97, 112, 112, 101, 100]⟩] 9)).row hgrow4 (by have := hGx.size; omega)
        have hb4 := (hbx.kept (grown_alloc (r := none) (grown_refl Y none) (.cells #[.string ⟨#[103, 111, 111, 100]⟩, .string ⟨#[115, 97, 118, 101, 100]⟩, .string ⟨#[115, 99, 114, 97, 112, 112, 101, 100]⟩] 9)) (by simp)).kept hgrow4 (by simp; omega)
        have hG4 := grown_new (grown_alloc hGx (.cells #[.string ⟨#[103, 111, 111, 100]⟩, .string ⟨#[115, 97, 118, 101, 100]⟩, .string ⟨#[115, 99, 114, 97, 112, 112, 101, 100]⟩] 9)) hgrow4 (by have := hGx.size; omega)
        have hrb : rb < Y.heap.size := by omega
        clear hown4 hgrow4 hRx hbx hGx
        go_wp2_with fail
        refine (of_any rb len _ v (endsL ++ later) _ g3 0 _ _ (by simp [endsL, hl2]; omega) hR4 (by omega) hS4 (by omega) (by omega) (by omega)).mono ?_
        rintro e w5 ⟨⟨s3, hs3, rfl⟩, hR5, hg5⟩
        have hb5 := hb4.kept hg5 (by simp; omega)
        have hS5 := hS4.kept hg5 (by omega)
        have hG5 := grown_trans hG4 hg5
        clear hb4 hS4 hG4 hg5 hR4
        obtain ⟨c0, c1, cc2, c3, c4, c5, c6, c7⟩ := hb5.cells
        obtain ⟨f0, f1, f2, f3, f4, f5, f6, f7⟩ := hb5.frozen
        go_wp2_with fail
        refine (of_any rb len _ v (endsL ++ later) _ g3 0 _ _ (by simp [endsL, hl2]; omega) (hR5.setCell (pb := pb) (off := 6) (u := .string s3) (by omega)) (by omega) (hS5.other (by omega)) (by omega) (by omega) (by omega)).mono ?_
        rintro e w6 ⟨⟨s4, hs4, rfl⟩, hR6, hg6⟩
        have hb6 := (hb5.set6 s3).kept hg6 (by simp; omega)
        have hG6 := grown_trans (grown_setNew hG5 (pb := pb) (off := 6) (by omega) (.string s3)) hg6
        have hz3 : s3.size ≤ maxLen := sz_app hsz s3 hs3
        have hz4 : s4.size ≤ maxLen := sz_app hsz s4 hs4
        clear hb5 hS5 hG5 hg6 hR5 c0 c1 cc2 c3 c4 c5 c6 c7 f0 f1 f2 f3 f4 f5 f6 f7
        obtain ⟨c0, c1, cc2, c3, c4, c5, c6, c7⟩ := hb6.cells
        obtain ⟨f0, f1, f2, f3, f4, f5, f6, f7⟩ := hb6.frozen
        simp only at c0 c1 cc2 c3 c4 c5 c6 c7
        by_cases h0 : n2 = 0
        · obtain ⟨d0, d1, d2, d3, d4, d5, d6, d7⟩ := (hb0.kept hG6 (by simp; omega)).cells
          obtain ⟨r0, r1, r2, r3, r4, r5, r6, r7⟩ := (hb0.kept hG6 (by simp; omega)).frozen
          simp only at d0 d1 d2 d3 d4 d5 d6 d7
          have hpw : ¬ pb = w.heap.size := by omega
          have hwp : ¬ w.heap.size = pb := by omega
          subst h0
          go_wp2_with fail
          refine bodyPost_ret (ret_box (rk := w.heap.size) (p := { p with t := s3, e := s4 }) Tryz.results75 ?ht ?hZ) rfl ?_
          case ht => rfl
          case hZ => exact Box.copy ((hb0.kept hG6 (by simp; omega)).other (qb := pb) (j := 7) (u := .string s4) (by omega)) ({ p with t := s3, e := s4 })
          exact ⟨⟨{ p with t := s3, e := s4 }, rfl, ⟨hpz.1, hpz.2.1, hpz.2.2.1, hz3, hz4, hpz.2.2.2.2.2⟩⟩, (((((((((hR6.setCell (by omega)).setCell (by omega)).setCell (by omega)).setCell (by omega)).setCell (by omega)).setCell (by omega)).setCell (by omega)).setCell (by omega)).setCell (by omega)).mono (by omega), grown_setNew (grown_setNew (grown_setNew (grown_setNew (grown_setNew (grown_setNew (grown_setNew (grown_setNew (grown_trans hG0 (grown_setNew hG6 (by omega) _)) (by omega) _) (by omega) _) (by omega) _) (by omega) _) (by omega) _) (by omega) _) (by omega) _) (by omega) _⟩
        · have hpos : 0 < n2 := by omega
          clear h0
          go_wp2_with fail
          refine (pick_any rb len _ v 4 _ (hR6.setCell (pb := pb) (off := 7) (u := .string s4) (by omega)) (by omega)).mono ?_
          rintro e w7 ⟨⟨x3, rfl, hx30, hx31⟩, hR7, hg7⟩
          clear hx31
          have hb7 := (hb6.set7 s4).kept hg7 (by simp; omega)
          have hG7 := grown_trans (grown_setNew hG6 (pb := pb) (off := 7) (by omega) (.string s4)) hg7
          clear hb6 hR6 hG6 hg7 c0 c1 cc2 c3 c4 c5 c6 c7 f0 f1 f2 f3 f4 f5 f6 f7
          obtain ⟨c0, c1, cc2, c3, c4, c5, c6, c7⟩ := hb7.cells
          obtain ⟨f0, f1, f2, f3, f4, f5, f6, f7⟩ := hb7.frozen
          obtain ⟨d0, d1, d2, d3, d4, d5, d6, d7⟩ := (hb0.kept hG7 (by simp; omega)).cells
          obtain ⟨r0, r1, r2, r3, r4, r5, r6, r7⟩ := (hb0.kept hG7 (by simp; omega)).frozen
          simp only at c0 c1 cc2 c3 c4 c5 c6 c7 d0 d1 d2 d3 d4 d5 d6 d7
          have hpw : ¬ pb = w.heap.size := by omega
          have hwp : ¬ w.heap.size = pb := by omega
          have hl0 : w7.cell? ⟨g2, o2, none⟩ = some (.string (later[0]'(by omega))) := by
            have := (hS0.kept hG7 hg2) 0 (later[0]'(by omega)) (by simp)
            simpa using this
          by_cases hx3 : 0 < x3
          · go_wp2_with fail
            refine bodyPost_ret (ret_box (rk := w.heap.size) (p := { p with t := later[0]'(by omega), e := s4 }) Tryz.results75 ?ht ?hZ) rfl ?_
            case ht => rfl
            case hZ => exact Box.copy ((hb0.kept hG7 (by simp; omega)).other (qb := pb) (j := 6) (u := .string (later[0]'(by omega))) (by omega)) ({ p with t := later[0]'(by omega), e := s4 })
            exact ⟨⟨{ p with t := later[0]'(by omega), e := s4 }, rfl, ⟨hpz.1, hpz.2.1, hpz.2.2.1, hsz _ (by simp), hz4, hpz.2.2.2.2.2⟩⟩, (((((((((hR7.setCell (by omega)).setCell (by omega)).setCell (by omega)).setCell (by omega)).setCell (by omega)).setCell (by omega)).setCell (by omega)).setCell (by omega)).setCell (by omega)).mono (by omega), grown_setNew (grown_setNew (grown_setNew (grown_setNew (grown_setNew (grown_setNew (grown_setNew (grown_setNew (grown_trans hG0 (grown_setNew hG7 (by omega) _)) (by omega) _) (by omega) _) (by omega) _) (by omega) _) (by omega) _) (by omega) _) (by omega) _) (by omega) _⟩
          · go_wp2_with fail
            refine bodyPost_ret (ret_box (rk := w.heap.size) (p := { p with t := s3, e := s4 }) Tryz.results75 ?ht ?hZ) rfl ?_
            case ht => rfl
            case hZ => exact Box.copy (hb0.kept hG7 (by simp; omega)) ({ p with t := s3, e := s4 })
            exact ⟨⟨{ p with t := s3, e := s4 }, rfl, ⟨hpz.1, hpz.2.1, hpz.2.2.1, hz3, hz4, hpz.2.2.2.2.2⟩⟩, (((((((((hR7).setCell (by omega)).setCell (by omega)).setCell (by omega)).setCell (by omega)).setCell (by omega)).setCell (by omega)).setCell (by omega)).setCell (by omega)).mono (by omega), grown_setNew (grown_setNew (grown_setNew (grown_setNew (grown_setNew (grown_setNew (grown_setNew (grown_setNew (grown_trans hG0 hG7) (by omega) _) (by omega) _) (by omega) _) (by omega) _) (by omega) _) (by omega) _) (by omega) _) (by omega) _⟩
    · have hk4 : x1 = 2 := by omega
      clear hk1 hk2 hk3
      obtain rfl : x1 = 2 := by omega
      go_wp2_with fail
      refine (pick_any rb len _ v _ _ hRx (by omega)).mono ?_
      rintro e w5 ⟨⟨x4, rfl, hx40, hx41⟩, hR5, hg5⟩
      have hx42 := hx41 (by omega)
      have hb5 := hbx.kept hg5 (by simp; omega)
      have hG5 := grown_trans hGx hg5
      clear hg5 hx41
      clear c0 c1 cc2 c3 c4 c5 c6 c7 f0 f1 f2 f3 f4 f5 f6 f7
      obtain ⟨c0, c1, cc2, c3, c4, c5, c6, c7⟩ := hb5.cells
      obtain ⟨f0, f1, f2, f3, f4, f5, f6, f7⟩ := hb5.frozen
      simp only at c0 c1 cc2 c3 c4 c5 c6 c7
      go_upto_region 13 with fail
      have hbx' := hb5.set4 (1 + x4)
      have hRx' := hR5.setCell (pb := pb) (off := 4) (u := .int .i64 (1 + x4)) (by omega)
      have hGx' := grown_setNew hG5 (pb := pb) (off := 4) (by omega) (.int .i64 (1 + x4))
      have hpX' := hbx'.lt
      clear hbx hRx hGx hpX hpz
      generalize hX : w5.setCell ⟨pb, 4, none⟩ (.int .i64 (1 + x4)) = Y at *
      clear hX hb5 hR5 hG5
      clear c0 c1 cc2 c3 c4 c5 c6 c7 f0 f1 f2 f3 f4 f5 f6 f7
      have hbx := hbx'
      have hRx := hRx'
      have hGx := hGx'
      have hpX := hpX'
      clear hbx' hRx' hGx' hpX'
      obtain ⟨p, hbx, hpz⟩ : ∃ p, Box Y pb p ∧ p.sz := ⟨_, hbx, ⟨hnm, hs, sz0, sz0, sz0, by dsimp only; omega, by dsimp only; omega⟩⟩
      have hXs : w.heap.size + 1 ≤ Y.heap.size := by have := hGx.size; omega
      obtain ⟨M, hM, hRx⟩ : ∃ M, M ≤ N + 6 ∧ Rd Y rb v len M := ⟨_, Nat.le_refl _, hRx.mono (by omega)⟩
      go_wp2_with (at_builtin; refine wpList_append_own _ rfl _ _ 29 rfl Y.heap.size 9 ii _ 1 16 Tryz.underlying29 hi iz0 iz1 iz2 rfl (by decide) _ _ _ rfl (World.ownsRow_lit _ _ 3 (Nat.le_refl _) (by unfold maxLen; omega) rfl) ⟨g2, o2, none⟩ n2 c2 (later.map Value.string) rfl (by simp [hl2]) (news_of ((hS0.kept hGx hg2).alloc _)) (oneS later) (by unfold maxLen; omega) (by omega) (by simp) ?_)
      intro v' w4 hown4 hgrow4 _
      obtain ⟨g3, cap3, rfl⟩ := own_ptr2 hown4 (by omega)
      have hS4 : StrsAt w4 g3 0 (endsL ++ later) := strs_of_own (ss := endsL ++ later) (by simpa [endsL] using hown4) (by simp [endsL, hl2]; omega)
      have hg3 := (hown4.lt g3 rfl).1
      have hgrow4 : (Y.alloc (.cells #[.string ⟨#[103, 111, 111, 100]⟩, .string ⟨#[115, 97, 118, 101, 100]⟩, .string ⟨#[115, 99, 114, 97, 112, 112, 101, 100]⟩] 9)).grownBy w4 (some Y.heap.size) := hgrow4
      have hR4 := (hRx.alloc (.cells #[.string ⟨#[103, 111, 111, 100]⟩, .string ⟨#[115, 97, 118, 101, 100]⟩, .string ⟨#[115, 99, 114, 97, 112, 112, 101, 100]⟩] 9)).row hgrow4 (by have := hGx.size; omega)
      have hb4 := (hbx.kept (grown_alloc (r := none) (grown_refl Y none) (.cells #[.string ⟨#[103, 111, 111, 100]⟩, .string ⟨#[115, 97, 118, 101, 100]⟩, .string ⟨#[115, 99, 114, 97, 112, 112, 101, 100]⟩] 9)) (by simp)).kept hgrow4 (by simp; omega)
      have hG4 := grown_new (grown_alloc hGx (.cells #[.string ⟨#[103, 111, 111, 100]⟩, .string ⟨#[115, 97, 118, 101, 100]⟩, .string ⟨#[115, 99, 114, 97, 112, 112, 101, 100]⟩] 9)) hgrow4 (by have := hGx.size; omega)
      have hrb : rb < Y.heap.size := by omega
      clear hown4 hgrow4 hRx hbx hGx
      go_wp2_with fail
      refine (of_any rb len _ v (endsL ++ later) _ g3 0 _ _ (by simp [endsL, hl2]; omega) hR4 (by omega) hS4 (by omega) (by omega) (by omega)).mono ?_
      rintro e w5 ⟨⟨s3, hs3, rfl⟩, hR5, hg5⟩
      have hb5 := hb4.kept hg5 (by simp; omega)
      have hS5 := hS4.kept hg5 (by omega)
      have hG5 := grown_trans hG4 hg5
      clear hb4 hS4 hG4 hg5 hR4
      obtain ⟨c0, c1, cc2, c3, c4, c5, c6, c7⟩ := hb5.cells
      obtain ⟨f0, f1, f2, f3, f4, f5, f6, f7⟩ := hb5.frozen
      go_wp2_with fail
      refine (of_any rb len _ v (endsL ++ later) _ g3 0 _ _ (by simp [endsL, hl2]; omega) (hR5.setCell (pb := pb) (off := 6) (u := .string s3) (by omega)) (by omega) (hS5.other (by omega)) (by omega) (by omega) (by omega)).mono ?_
      rintro e w6 ⟨⟨s4, hs4, rfl⟩, hR6, hg6⟩
      have hb6 := (hb5.set6 s3).kept hg6 (by simp; omega)
      have hG6 := grown_trans (grown_setNew hG5 (pb := pb) (off := 6) (by omega) (.string s3)) hg6
      have hz3 : s3.size ≤ maxLen := sz_app hsz s3 hs3
      have hz4 : s4.size ≤ maxLen := sz_app hsz s4 hs4
      clear hb5 hS5 hG5 hg6 hR5 c0 c1 cc2 c3 c4 c5 c6 c7 f0 f1 f2 f3 f4 f5 f6 f7
      obtain ⟨c0, c1, cc2, c3, c4, c5, c6, c7⟩ := hb6.cells
      obtain ⟨f0, f1, f2, f3, f4, f5, f6, f7⟩ := hb6.frozen
      simp only at c0 c1 cc2 c3 c4 c5 c6 c7
      by_cases h0 : n2 = 0
      · obtain ⟨d0, d1, d2, d3, d4, d5, d6, d7⟩ := (hb0.kept hG6 (by simp; omega)).cells
        obtain ⟨r0, r1, r2, r3, r4, r5, r6, r7⟩ := (hb0.kept hG6 (by simp; omega)).frozen
        simp only at d0 d1 d2 d3 d4 d5 d6 d7
        have hpw : ¬ pb = w.heap.size := by omega
        have hwp : ¬ w.heap.size = pb := by omega
        subst h0
        go_wp2_with fail
        refine bodyPost_ret (ret_box (rk := w.heap.size) (p := { p with t := s3, e := s4 }) Tryz.results75 ?ht ?hZ) rfl ?_
        case ht => rfl
        case hZ => exact Box.copy ((hb0.kept hG6 (by simp; omega)).other (qb := pb) (j := 7) (u := .string s4) (by omega)) ({ p with t := s3, e := s4 })
        exact ⟨⟨{ p with t := s3, e := s4 }, rfl, ⟨hpz.1, hpz.2.1, hpz.2.2.1, hz3, hz4, hpz.2.2.2.2.2⟩⟩, (((((((((hR6.setCell (by omega)).setCell (by omega)).setCell (by omega)).setCell (by omega)).setCell (by omega)).setCell (by omega)).setCell (by omega)).setCell (by omega)).setCell (by omega)).mono (by omega), grown_setNew (grown_setNew (grown_setNew (grown_setNew (grown_setNew (grown_setNew (grown_setNew (grown_setNew (grown_trans hG0 (grown_setNew hG6 (by omega) _)) (by omega) _) (by omega) _) (by omega) _) (by omega) _) (by omega) _) (by omega) _) (by omega) _) (by omega) _⟩
      · have hpos : 0 < n2 := by omega
        clear h0
        go_wp2_with fail
        refine (pick_any rb len _ v 4 _ (hR6.setCell (pb := pb) (off := 7) (u := .string s4) (by omega)) (by omega)).mono ?_
        rintro e w7 ⟨⟨x3, rfl, hx30, hx31⟩, hR7, hg7⟩
        clear hx31
        have hb7 := (hb6.set7 s4).kept hg7 (by simp; omega)
        have hG7 := grown_trans (grown_setNew hG6 (pb := pb) (off := 7) (by omega) (.string s4)) hg7
        clear hb6 hR6 hG6 hg7 c0 c1 cc2 c3 c4 c5 c6 c7 f0 f1 f2 f3 f4 f5 f6 f7
        obtain ⟨c0, c1, cc2, c3, c4, c5, c6, c7⟩ := hb7.cells
        obtain ⟨f0, f1, f2, f3, f4, f5, f6, f7⟩ := hb7.frozen
        obtain ⟨d0, d1, d2, d3, d4, d5, d6, d7⟩ := (hb0.kept hG7 (by simp; omega)).cells
        obtain ⟨r0, r1, r2, r3, r4, r5, r6, r7⟩ := (hb0.kept hG7 (by simp; omega)).frozen
        simp only at c0 c1 cc2 c3 c4 c5 c6 c7 d0 d1 d2 d3 d4 d5 d6 d7
        have hpw : ¬ pb = w.heap.size := by omega
        have hwp : ¬ w.heap.size = pb := by omega
        have hl0 : w7.cell? ⟨g2, o2, none⟩ = some (.string (later[0]'(by omega))) := by
          have := (hS0.kept hG7 hg2) 0 (later[0]'(by omega)) (by simp)
          simpa using this
        by_cases hx3 : 0 < x3
        · go_wp2_with fail
          refine bodyPost_ret (ret_box (rk := w.heap.size) (p := { p with t := later[0]'(by omega), e := s4 }) Tryz.results75 ?ht ?hZ) rfl ?_
          case ht => rfl
          case hZ => exact Box.copy ((hb0.kept hG7 (by simp; omega)).other (qb := pb) (j := 6) (u := .string (later[0]'(by omega))) (by omega)) ({ p with t := later[0]'(by omega), e := s4 })
          exact ⟨⟨{ p with t := later[0]'(by omega), e := s4 }, rfl, ⟨hpz.1, hpz.2.1, hpz.2.2.1, hsz _ (by simp), hz4, hpz.2.2.2.2.2⟩⟩, (((((((((hR7.setCell (by omega)).setCell (by omega)).setCell (by omega)).setCell (by omega)).setCell (by omega)).setCell (by omega)).setCell (by omega)).setCell (by omega)).setCell (by omega)).mono (by omega), grown_setNew (grown_setNew (grown_setNew (grown_setNew (grown_setNew (grown_setNew (grown_setNew (grown_setNew (grown_trans hG0 (grown_setNew hG7 (by omega) _)) (by omega) _) (by omega) _) (by omega) _) (by omega) _) (by omega) _) (by omega) _) (by omega) _) (by omega) _⟩
        · go_wp2_with fail
          refine bodyPost_ret (ret_box (rk := w.heap.size) (p := { p with t := s3, e := s4 }) Tryz.results75 ?ht ?hZ) rfl ?_
          case ht => rfl
          case hZ => exact Box.copy (hb0.kept hG7 (by simp; omega)) ({ p with t := s3, e := s4 })
          exact ⟨⟨{ p with t := s3, e := s4 }, rfl, ⟨hpz.1, hpz.2.1, hpz.2.2.1, hz3, hz4, hpz.2.2.2.2.2⟩⟩, (((((((((hR7).setCell (by omega)).setCell (by omega)).setCell (by omega)).setCell (by omega)).setCell (by omega)).setCell (by omega)).setCell (by omega)).setCell (by omega)).mono (by omega), grown_setNew (grown_setNew (grown_setNew (grown_setNew (grown_setNew (grown_setNew (grown_setNew (grown_setNew (grown_trans hG0 hG7) (by omega) _) (by omega) _) (by omega) _) (by omega) _) (by omega) _) (by omega) _) (by omega) _) (by omega) _⟩
end Go.Proofs.YtliebjbbomghiaaGreatDoor
