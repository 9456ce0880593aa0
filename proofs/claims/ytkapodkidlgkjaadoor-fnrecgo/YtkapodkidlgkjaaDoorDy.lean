/- Drawing: DrawRecGo. -/
import Derived.Test.YtkapodkidlgkjaaDoorDx
namespace Go.Proofs.YtkapodkidlgkjaaDoor
open Go.RowKit
theorem held_r {w X : World} {g q : Nat} {qs : List Ph} {s : St} (h : (GJ w (X) g q qs s ∧ (X).cell? ⟨q, 0, none⟩ = some (.string s.nm) ∧ (X).cell? ⟨q, 1, none⟩ = some (.int .i64 s.now) ∧ (X).cell? ⟨q, 2, none⟩ = some (.int .i64 s.left))) : RecAt X g 0 qs := h.1.r
theorem held_lt {w X : World} {g q : Nat} {qs : List Ph} {s : St} (hgq : g < q) (h : (GJ w (X) g q qs s ∧ (X).cell? ⟨q, 0, none⟩ = some (.string s.nm) ∧ (X).cell? ⟨q, 1, none⟩ = some (.int .i64 s.now) ∧ (X).cell? ⟨q, 2, none⟩ = some (.int .i64 s.left))) : g < X.heap.size := Nat.lt_trans hgq h.1.s.2.2
theorem GJ.held {w W : World} {g q : Nat} {qs : List Ph} {s : St} (h : GJ w W g q qs s) : (GJ w (W) g q qs s ∧ (W).cell? ⟨q, 0, none⟩ = some (.string s.nm) ∧ (W).cell? ⟨q, 1, none⟩ = some (.int .i64 s.now) ∧ (W).cell? ⟨q, 2, none⟩ = some (.int .i64 s.left)) := ⟨h, h.s.c3.1⟩

/-- A world's mark: it parts worlds at once. -/
structure Tok (X : World) : Prop where
  t : True
theorem q3_set3 {X : World} {q r : Nat} {s : St} {x0 x1 x2 : Value} (hne : q ≠ r) (h : (Tok (X) ∧ (X).cell? ⟨q, 0, none⟩ = some (.string (s).nm) ∧ (X).cell? ⟨q, 1, none⟩ = some (.int .i64 (s).now) ∧ (X).cell? ⟨q, 2, none⟩ = some (.int .i64 (s).left))) : (Tok (((X.setCell ⟨r, 0, none⟩ x0).setCell ⟨r, 1, none⟩ x1).setCell ⟨r, 2, none⟩ x2) ∧ (((X.setCell ⟨r, 0, none⟩ x0).setCell ⟨r, 1, none⟩ x1).setCell ⟨r, 2, none⟩ x2).cell? ⟨q, 0, none⟩ = some (.string (s).nm) ∧ (((X.setCell ⟨r, 0, none⟩ x0).setCell ⟨r, 1, none⟩ x1).setCell ⟨r, 2, none⟩ x2).cell? ⟨q, 1, none⟩ = some (.int .i64 (s).now) ∧ (((X.setCell ⟨r, 0, none⟩ x0).setCell ⟨r, 1, none⟩ x1).setCell ⟨r, 2, none⟩ x2).cell? ⟨q, 2, none⟩ = some (.int .i64 (s).left)) := by
  have hg : X.grownBy (((X.setCell ⟨r, 0, none⟩ x0).setCell ⟨r, 1, none⟩ x1).setCell ⟨r, 2, none⟩ x2) (some r) := grown_copies r [x0, x1, x2] 0 X X (some r) (World.grownBy.refl' X) rfl
  exact ⟨⟨trivial⟩, hg.cell h.2.1 (by simpa using hne), hg.cell h.2.2.1 (by simpa using hne), hg.cell h.2.2.2 (by simpa using hne)⟩
theorem q3_set2 {X : World} {q r : Nat} {s : St} {x0 x1 : Value} (hne : q ≠ r) (h : (Tok (X) ∧ (X).cell? ⟨q, 0, none⟩ = some (.string (s).nm) ∧ (X).cell? ⟨q, 1, none⟩ = some (.int .i64 (s).now) ∧ (X).cell? ⟨q, 2, none⟩ = some (.int .i64 (s).left))) : (Tok ((X.setCell ⟨r, 0, none⟩ x0).setCell ⟨r, 1, none⟩ x1) ∧ ((X.setCell ⟨r, 0, none⟩ x0).setCell ⟨r, 1, none⟩ x1).cell? ⟨q, 0, none⟩ = some (.string (s).nm) ∧ ((X.setCell ⟨r, 0, none⟩ x0).setCell ⟨r, 1, none⟩ x1).cell? ⟨q, 1, none⟩ = some (.int .i64 (s).now) ∧ ((X.setCell ⟨r, 0, none⟩ x0).setCell ⟨r, 1, none⟩ x1).cell? ⟨q, 2, none⟩ = some (.int .i64 (s).left)) := by
  have hg : X.grownBy ((X.setCell ⟨r, 0, none⟩ x0).setCell ⟨r, 1, none⟩ x1) (some r) := grown_copies r [x0, x1] 0 X X (some r) (World.grownBy.refl' X) rfl
  exact ⟨⟨trivial⟩, hg.cell h.2.1 (by simpa using hne), hg.cell h.2.2.1 (by simpa using hne), hg.cell h.2.2.2 (by simpa using hne)⟩
def goL : List ByteArray := [⟨#[]⟩, ⟨#[110, 111, 110, 101]⟩, ⟨#[103, 111, 111, 100]⟩]
theorem int_lit3 (w : World) (a b c : Int) (t : TypeId) (k : Nat) (hk : k < 3) : ∃ x, (w.alloc (.cells #[.int .i64 a, .int .i64 b, .int .i64 c] t)).cell? ⟨w.heap.size, k, none⟩ = some (.int .i64 x) := by
  rw [World.cell?_alloc_at]
  case hn => rfl
  match k, hk with
  | 0, _ => exact ⟨a, rfl⟩
  | 1, _ => exact ⟨b, rfl⟩
  | 2, _ => exact ⟨c, rfl⟩

set_option maxRecDepth 20000 in
set_option maxHeartbeats 4000000 in
theorem drawGo_any (a : Option Addr) (n cap : Nat) (w : World) (h : BytesAt w w.heap.size (.slice a n cap) n) (hcap : n ≤ cap) (hbig : cap ≤ maxLen) :
    Calls Tryd.prog 16 #[.slice a n cap] w
      fun e w' => (∃ (g c : Nat) (qs : List Ph) (s : St) (y : Sy), e = .returned (.tuple #[.slice (some ⟨g, 0, none⟩) qs.length c, .agg #[.string (s).nm, .int .i64 (s).now, .int .i64 (s).left], .agg #[.int .i64 (y).t, .bool (y).well]]) ∧ RecAt w' g 0 qs ∧ g < w'.heap.size ∧ qs.length ≤ c ∧ c ≤ 9223372036854775807 ∧ Sized qs ∧ qs.length ≤ 13) ∧ Below w.heap.size w w' := by
  go_enter Tryd.func16, Tryd.ntmps16
  go_wp2_with fail
  obtain ⟨W1, hW1, kA, kB, hB1, hs1⟩ : ∃ W1, (w.alloc (.cells #[.string ⟨#[]⟩, .int .i64 0, .int .i64 0] 36)).alloc (.cells #[.int .i64 0, .bool false] 38) = W1 ∧ CB W1 w.heap.size St.none.cells ∧ CB W1 (w.heap.size + 1) [.int .i64 0, .bool false] ∧ Below w.heap.size w W1 ∧ W1.heap.size = w.heap.size + 2 := ⟨_, rfl, cb2 w St.none.cells [.int .i64 0, .bool false] _ _⟩
  rw [hW1]
  clear hW1
  refine (open_any a n cap _ (h.up hB1 (by omega)) hcap hbig).mono ?_
  rintro e w2 ⟨⟨rb, len, v, rfl, hR, hrb⟩, hb2⟩
  have hB := hB1.trans (hb2.mono (by omega))
  have kA := kA.up hb2 kA.2.2
  have kB := kB.up hb2 kB.2.2
  have hrlt := hR.lt
  clear hB1 hb2 h
  rw [hs1] at hrb
  go_wp2_with fail
  refine (anyR_any rb len 0 v _ hR (by omega)).mono ?_
  rintro e w3 ⟨⟨u, qs, rfl, hD⟩, hR, hg3⟩
  have hB := below_gr2 hB hg3 (by omega)
  have kA := kA.kept hg3 (by simp; omega)
  have kB := kB.kept hg3 (by simp; omega)
  obtain ⟨g, c, rfl, hr, hgl, hgu, hqc, hc9, hsz, h13⟩ := hD.rec'
  have hrg : rb < g := by omega
  clear hg3 hD
  go_wp2_with fail
  refine (specBegin_any qs _ _ _ _ hr hgu hsz (by omega)).mono ?_
  rintro e w4 ⟨rfl, hb4⟩
  have hB := up_trans hB hb4
  have kA := kA.up hb4 kA.2.2
  have kB := kB.up hb4 kB.2.2
  have hr := hr.up hb4 hgu
  have hR := hR.kept hb4
  have hg4 := Nat.lt_of_lt_of_le hgu hb4.size
  clear hb4 hgu
  generalize beginS qs = s0 at *
  go_upto_region 4 with fail
  obtain ⟨W5, hW5, k5, hb5, hs5⟩ : ∃ W5, w4.alloc (.cells #[.string s0.nm, .int .i64 s0.now, .int .i64 s0.left] 36) = W5 ∧ CB W5 w4.heap.size s0.cells ∧ Below w4.heap.size w4 W5 ∧ W5.heap.size = w4.heap.size + 1 := ⟨_, rfl, cb1 w4 s0.cells _⟩
  rw [hW5]
  obtain ⟨q, hq⟩ : ∃ q, w4.heap.size = q := ⟨_, rfl⟩
  rw [hq] at hg4 k5 hs5 ⊢
  have hJ : GJ w W5 g q qs s0 := ⟨kA.up hb5 kA.2.2, kB.up hb5 kB.2.2, k5, hr.up hb5 (by omega), up_trans hB hb5⟩
  have hR := hR.kept hb5
  have h1 : w.heap.size + 2 ≤ g := by omega
  have h2 : w.heap.size + 2 ≤ rb := hrb
  have hgq : g < q := hg4
  have hrq : rb < q := by omega
  clear hW5 k5 kA kB hr hb5 hB hq hrlt hgl hs5 hg4
  go_wp2_with fail
  refine (pick_any rb len _ v 5 _ hR (by omega)).mono ?_
  rintro e w6 ⟨⟨x, rfl, hx0, hx1⟩, hR, hg6⟩
  have hx5 := hx1 (by omega)
  obtain ⟨k0, rfl⟩ : ∃ k : Nat, x = (k : Int) := ⟨x.toNat, by omega⟩
  have hJ := hJ.gr h2 hrg hgq hg6
  clear hg6 hx1 hx0
  go_wp2_with fail
  go_loopw [8] (fun i w' => ∃ (k M : Nat) (s : St), i = .int .i64 k ∧ k ≤ 5 ∧ M + 4 * k ≤ 800 ∧ GJ w w' g q qs s ∧ Rd w' rb v len M) (fun i _ => (intOf i).toNat)
  case atStart => exact ⟨k0, _, s0, rfl, by omega, by omega, hJ, hR⟩
  case round =>
    clear hJ hR
    obtain ⟨k, M, s, rfl, hk, hM, hJ, hR⟩ := hrel
    by_cases hp : 0 < k
    · obtain ⟨k, rfl⟩ : ∃ j, k = j + 1 := ⟨k - 1, by omega⟩
      go_wp2_with fail
      have hS0 := hJ.held
      have hlt := hR.lt
      have hql := hJ.s.2.2
      go_cut [9, 10] (fun p9 b10 wc => ∃ (r : Nat) (z : St) (ok : Bool), p9 = .pointer (some ⟨r, 0, none⟩) ∧ b10 = .bool ok ∧ CB wc r z.cells ∧ GJ w wc g q qs s ∧ Rd wc rb v len (M + 4) ∧ q < r)
      case first =>
        go_region_held (fun w' => (GJ w (w') g q qs s ∧ (w').cell? ⟨q, 0, none⟩ = some (.string s.nm) ∧ (w').cell? ⟨q, 1, none⟩ = some (.int .i64 s.now) ∧ (w').cell? ⟨q, 2, none⟩ = some (.int .i64 s.left))) ((first | assumption | exact GJ.held hJ.drew | exact GJ.held (hJ.drew.alloc hgq _) | exact GJ.held hJ7 | exact GJ.held hJ8 | exact GJ.held (hJ7.alloc hgq _) | exact GJ.held (hJ8.alloc hgq _) | exact GJ.held (hJ8.set h1 hgq hql _ _ _) | exact GJ.held (hJ8.set h1 hgq hJ7.s.2.2 _ _ _)))
          (first
            | (go_at_call 46; (first | refine (say_any rb len M v _ hR.drew (by omega)).mono ?_ | refine (say_any rb len M v _ (hR.drew.alloc _) (by omega)).mono ?_); rintro e w7 ⟨⟨y, rfl⟩, hR7, hg7⟩; have hJ7 : GJ w w7 g q qs s := GJ.gr (And.left (by assumption)) h2 hrg hgq hg7; (first | (have kz : CB _ wr.heap.size [.string ⟨#[]⟩, .int .i64 0, .int .i64 0] := (cb_alloc wr.drew [.string ⟨#[]⟩, .int .i64 0, .int .i64 0] 36).kept hg7 (by simp; omega); obtain ⟨⟨z0, z1, z2⟩, y0, y1, y2⟩ := kz.c3) | skip))
            | (go_at_call 18; refine (specGo_any qs _ _ _ s y _ (held_r (by assumption)) (held_lt hgq (by assumption)) hsz (by omega)).mono ?_; rintro e w8 ⟨rfl, hb8⟩; have hJ8 : GJ w w8 g q qs s := GJ.up (And.left (by assumption)) hgq hb8; (first | (have hR8 := hR7.kept hb8) | (have hR8 := (hR7.alloc _).kept hb8)); (first | (have kz := (cb_alloc w7 [.string ⟨#[]⟩, .int .i64 0, .int .i64 0] 36).up hb8 (by simp); obtain ⟨⟨z0, z1, z2⟩, y0, y1, y2⟩ := kz.c3) | (have kz := kz.up hb8 kz.2.2; obtain ⟨⟨z0, z1, z2⟩, y0, y1, y2⟩ := kz.c3) | skip)))
        all_goals
          clear hS0
          go_wp2_with fail
          go_meet
          case rel =>
            first
              | exact ⟨_, goS qs s y, _, rfl, rfl, cb_alloc w8 (goS qs s y).cells _, hJ8.alloc hgq _, hR8.alloc _, hJ8.s.2.2⟩
              | exact ⟨_, goS qs s y, _, rfl, rfl, kz.copy3 _ _ _, hJ8.set h1 hgq hql _ _ _, hR8.set3 hlt _ _ _, hql⟩
              | exact ⟨_, goS qs s y, _, rfl, rfl, kz.copy3 _ _ _, hJ8.set h1 hgq hJ7.s.2.2 _ _ _, hR8.set3 hR7.lt _ _ _, hJ7.s.2.2⟩
      case rest =>
        obtain ⟨r, z, ok, rfl, rfl, kr, hJ, hR, hqr⟩ := hcut
        obtain ⟨⟨a0, a1, a2⟩, -⟩ := kr.c3
        obtain ⟨⟨d0, d1, d2⟩, f0, f1, f2⟩ := hJ.s.c3
        clear hS0
        cases ok
        · go_wp2_with fail
          go_roundw
          case rel => exact ⟨k, M + 4, s, by go_num, by omega, by omega, hJ, hR⟩
          case measure => simp [intOf]
        · go_wp2_with fail
          go_roundw
          case rel => exact ⟨k, M + 4, z, by go_num, by omega, by omega, hJ.copy h1 hgq z, hR.set3 hrq _ _ _⟩
          case measure => simp [intOf]
    · obtain rfl : k = 0 := by omega
      go_wp2_with fail
      have hlt := hR.lt
      refine (pick_any rb len M v 16 _ hR (by omega)).mono ?_
      rintro e w9 ⟨⟨x, rfl, -, -⟩, hR, hg9⟩
      have hJ := hJ.gr h2 hrg hgq hg9
      have hlt := hR.lt
      clear hg9
      have hx : x = 0 ∨ x = 1 ∨ (x == 0) = false ∧ (x == 1) = false := by
        simp only [beq_eq_false_iff_ne, ne_eq]; omega
      rcases hx with rfl | rfl | ⟨hx0, hx1⟩
      case' inl =>
        go_wp2_with fail
        refine (of_any rb len _ v goL 3 _ 0 _ _ rfl (hR.alloc _) (by omega) (strsAt_alloc w9 goL 9) (by omega) (by omega) (by omega)).mono ?_
        rintro e w10 ⟨⟨nm, -, rfl⟩, hR, hg10⟩
        have hJ := (hJ.alloc hgq (.cells (goL.map Value.string).toArray 9)).gr h2 hrg hgq hg10
        obtain ⟨⟨d0, d1, d2⟩, f0, f1, f2⟩ := hJ.s.c3
        clear hg10
        go_wp2_with fail
        have hJ := hJ.set0 h1 hgq nm
        have hR : Rd (w10.setCell ⟨q, 0, none⟩ (.string nm)) rb v len (M + 1 + 1) := hR.setCell hrq
        clear d0 d1 d2 f0 f1 f2
        generalize w10.setCell ⟨q, 0, none⟩ (.string nm) = W9 at *
        obtain ⟨s9, hs9⟩ : ∃ s9, s9 = St.mk nm s.now s.left := ⟨_, rfl⟩
        rw [← hs9] at hJ
        clear hs9
      case' inr.inl =>
        go_wp2_with fail
        have hb9 : Below w9.heap.size w9 (w9.alloc (.cells #[.int .i64 (-1), .int .i64 12000, .int .i64 12001] 3)) := (Below.refl _ _).alloc (Nat.le_refl _) _
        have hlit := int_lit3 w9 (-1) 12000 12001 3
        generalize w9.alloc (.cells #[.int .i64 (-1), .int .i64 12000, .int .i64 12001] 3) = W6 at *
        refine (pick_any rb len _ v 3 _ (hR.kept hb9) (by omega)).mono ?_
        rintro e w10 ⟨⟨x7, rfl, h70, h71⟩, hR, hg10⟩
        have h72 := h71 (by omega)
        obtain ⟨kk, rfl⟩ : ∃ k : Nat, x7 = (k : Int) := ⟨x7.toNat, by omega⟩
        obtain ⟨tk, htk⟩ := hlit kk (by omega)
        have htk := hg10.cell htk (by simp; omega)
        have hJ := (hJ.up hgq hb9).gr h2 hrg hgq hg10
        obtain ⟨⟨d0, d1, d2⟩, f0, f1, f2⟩ := hJ.s.c3
        clear hlit hb9 hg10 h71
        go_wp2_with fail
        have hJ := hJ.set1 h1 hgq tk
        have hR : Rd (w10.setCell ⟨q, 1, none⟩ (.int .i64 tk)) rb v len (M + 1 + 1) := hR.setCell hrq
        clear d0 d1 d2 f0 f1 f2 htk
        generalize w10.setCell ⟨q, 1, none⟩ (.int .i64 tk) = W9 at *
        obtain ⟨s9, hs9⟩ : ∃ s9, s9 = St.mk s.nm tk s.left := ⟨_, rfl⟩
        rw [← hs9] at hJ
        clear hs9
      case' inr.inr =>
        go_wp2_with fail
        obtain ⟨s9, hs9⟩ : ∃ s9, s9 = s := ⟨_, rfl⟩
        rw [← hs9] at hJ
        clear hs9
        generalize w9 = W9 at *
      all_goals
        have hQ0 : (Tok (W9.drew) ∧ (W9.drew).cell? ⟨q, 0, none⟩ = some (.string (s9).nm) ∧ (W9.drew).cell? ⟨q, 1, none⟩ = some (.int .i64 (s9).now) ∧ (W9.drew).cell? ⟨q, 2, none⟩ = some (.int .i64 (s9).left)) := ⟨⟨trivial⟩, hJ.drew.s.c3.1⟩
        go_region_held (fun w' => (Tok (w') ∧ (w').cell? ⟨q, 0, none⟩ = some (.string (s9).nm) ∧ (w').cell? ⟨q, 1, none⟩ = some (.int .i64 (s9).now) ∧ (w').cell? ⟨q, 2, none⟩ = some (.int .i64 (s9).left))) (assumption)
          (first | (go_at_call 46; refine (say_any rb len _ v _ hR.drew (by omega)).mono ?_; rintro e wa ⟨⟨y, rfl⟩, hRa, hga⟩; have hJa := hJ.drew.gr h2 hrg hgq hga; have hQa : (Tok (wa) ∧ (wa).cell? ⟨q, 0, none⟩ = some (.string (s9).nm) ∧ (wa).cell? ⟨q, 1, none⟩ = some (.int .i64 (s9).now) ∧ (wa).cell? ⟨q, 2, none⟩ = some (.int .i64 (s9).left)) := ⟨⟨trivial⟩, hJa.s.c3.1⟩; have hQb : (Tok ((((wa.setCell ⟨w.heap.size, 0, none⟩ (.string s9.nm)).setCell ⟨w.heap.size, 1, none⟩ (.int .i64 s9.now)).setCell ⟨w.heap.size, 2, none⟩ (.int .i64 s9.left))) ∧ ((((wa.setCell ⟨w.heap.size, 0, none⟩ (.string s9.nm)).setCell ⟨w.heap.size, 1, none⟩ (.int .i64 s9.now)).setCell ⟨w.heap.size, 2, none⟩ (.int .i64 s9.left))).cell? ⟨q, 0, none⟩ = some (.string (s9).nm) ∧ ((((wa.setCell ⟨w.heap.size, 0, none⟩ (.string s9.nm)).setCell ⟨w.heap.size, 1, none⟩ (.int .i64 s9.now)).setCell ⟨w.heap.size, 2, none⟩ (.int .i64 s9.left))).cell? ⟨q, 1, none⟩ = some (.int .i64 (s9).now) ∧ ((((wa.setCell ⟨w.heap.size, 0, none⟩ (.string s9.nm)).setCell ⟨w.heap.size, 1, none⟩ (.int .i64 s9.now)).setCell ⟨w.heap.size, 2, none⟩ (.int .i64 s9.left))).cell? ⟨q, 2, none⟩ = some (.int .i64 (s9).left)) := q3_set3 (by omega) hQa; have hQc : (Tok ((((((wa.setCell ⟨w.heap.size, 0, none⟩ (.string s9.nm)).setCell ⟨w.heap.size, 1, none⟩ (.int .i64 s9.now)).setCell ⟨w.heap.size, 2, none⟩ (.int .i64 s9.left)).setCell ⟨w.heap.size + 1, 0, none⟩ (.int .i64 y.t)).setCell ⟨w.heap.size + 1, 1, none⟩ (.bool y.well))) ∧ ((((((wa.setCell ⟨w.heap.size, 0, none⟩ (.string s9.nm)).setCell ⟨w.heap.size, 1, none⟩ (.int .i64 s9.now)).setCell ⟨w.heap.size, 2, none⟩ (.int .i64 s9.left)).setCell ⟨w.heap.size + 1, 0, none⟩ (.int .i64 y.t)).setCell ⟨w.heap.size + 1, 1, none⟩ (.bool y.well))).cell? ⟨q, 0, none⟩ = some (.string (s9).nm) ∧ ((((((wa.setCell ⟨w.heap.size, 0, none⟩ (.string s9.nm)).setCell ⟨w.heap.size, 1, none⟩ (.int .i64 s9.now)).setCell ⟨w.heap.size, 2, none⟩ (.int .i64 s9.left)).setCell ⟨w.heap.size + 1, 0, none⟩ (.int .i64 y.t)).setCell ⟨w.heap.size + 1, 1, none⟩ (.bool y.well))).cell? ⟨q, 1, none⟩ = some (.int .i64 (s9).now) ∧ ((((((wa.setCell ⟨w.heap.size, 0, none⟩ (.string s9.nm)).setCell ⟨w.heap.size, 1, none⟩ (.int .i64 s9.now)).setCell ⟨w.heap.size, 2, none⟩ (.int .i64 s9.left)).setCell ⟨w.heap.size + 1, 0, none⟩ (.int .i64 y.t)).setCell ⟨w.heap.size + 1, 1, none⟩ (.bool y.well))).cell? ⟨q, 2, none⟩ = some (.int .i64 (s9).left)) := q3_set2 (by omega) hQb; obtain ⟨⟨d0, d1, d2⟩, f0, f1, f2⟩ := hJa.a.c3; obtain ⟨⟨e0, e1⟩, j0, j1⟩ := hJa.b.c2; have hab : ¬ w.heap.size = w.heap.size + 1 := by omega))
        have hZ : CB (((((wa.setCell ⟨w.heap.size, 0, none⟩ (.string s9.nm)).setCell ⟨w.heap.size, 1, none⟩ (.int .i64 s9.now)).setCell ⟨w.heap.size, 2, none⟩ (.int .i64 s9.left)).setCell ⟨w.heap.size + 1, 0, none⟩ (.int .i64 y.t)).setCell ⟨w.heap.size + 1, 1, none⟩ (.bool y.well)) w.heap.size s9.cells := (hJa.a.copy3 _ _ _).otherCopy (by omega) [.int .i64 y.t, .bool y.well]
        have hZ' : CB (((((wa.setCell ⟨w.heap.size, 0, none⟩ (.string s9.nm)).setCell ⟨w.heap.size, 1, none⟩ (.int .i64 s9.now)).setCell ⟨w.heap.size, 2, none⟩ (.int .i64 s9.left)).setCell ⟨w.heap.size + 1, 0, none⟩ (.int .i64 y.t)).setCell ⟨w.heap.size + 1, 1, none⟩ (.bool y.well)) (w.heap.size + 1) y.cellsI := (hJa.b.otherCopy (q := w.heap.size) (by omega) [.string s9.nm, .int .i64 s9.now, .int .i64 s9.left]).copy2 _ _
        have hr1 : RecAt (((wa.setCell ⟨w.heap.size, 0, none⟩ (.string s9.nm)).setCell ⟨w.heap.size, 1, none⟩ (.int .i64 s9.now)).setCell ⟨w.heap.size, 2, none⟩ (.int .i64 s9.left)) g 0 qs := hJa.r.gr (grown_copies w.heap.size s9.cells 0 wa wa _ (World.grownBy.refl' wa) rfl) (by omega)
        have hr2 : RecAt (((((wa.setCell ⟨w.heap.size, 0, none⟩ (.string s9.nm)).setCell ⟨w.heap.size, 1, none⟩ (.int .i64 s9.now)).setCell ⟨w.heap.size, 2, none⟩ (.int .i64 s9.left)).setCell ⟨w.heap.size + 1, 0, none⟩ (.int .i64 y.t)).setCell ⟨w.heap.size + 1, 1, none⟩ (.bool y.well)) g 0 qs := hr1.gr (grown_copies (w.heap.size + 1) y.cellsI 0 _ _ _ (World.grownBy.refl' _) rfl) (by omega)
        have hfin : Below w.heap.size w (((((wa.setCell ⟨w.heap.size, 0, none⟩ (.string s9.nm)).setCell ⟨w.heap.size, 1, none⟩ (.int .i64 s9.now)).setCell ⟨w.heap.size, 2, none⟩ (.int .i64 s9.left)).setCell ⟨w.heap.size + 1, 0, none⟩ (.int .i64 y.t)).setCell ⟨w.heap.size + 1, 1, none⟩ (.bool y.well)) := below_set2 (below_set3 hJa.bel (Nat.le_refl _) _ _ _) (by omega) _ _
        have hfz : g < ((((((wa.setCell ⟨w.heap.size, 0, none⟩ (.string s9.nm)).setCell ⟨w.heap.size, 1, none⟩ (.int .i64 s9.now)).setCell ⟨w.heap.size, 2, none⟩ (.int .i64 s9.left)).setCell ⟨w.heap.size + 1, 0, none⟩ (.int .i64 y.t)).setCell ⟨w.heap.size + 1, 1, none⟩ (.bool y.well))).heap.size := by
          have := hJa.s.2.2
          simp; omega
        clear hQ0 hQa hQb hQc
        go_wp2_with fail
        refine bodyPost_ret (ret_t2c (v := .slice (some ⟨g, 0, none⟩) qs.length c) (r := w.heap.size) (k := w.heap.size + 1) (cs := s9.cells) (ds := y.cellsI) Tryd.results16 Tryd.underlying36 rfl Tryd.underlying38 rfl sizeStI sizeSyI rfl rfl rfl hZ hZ') rfl ?_
        exact ⟨⟨g, c, qs, s9, y, rfl, hr2, hfz, hqc, hc9, hsz, h13⟩, hfin⟩
end Go.Proofs.YtkapodkidlgkjaaDoor
