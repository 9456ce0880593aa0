/- Drawing: a phase is spoilt. -/
import Derived.Test.YtliebjbbomghiaaGreatDoorJ41
import Derived.Deep.RegionHeld
namespace Go.Proofs.YtliebjbbomghiaaGreatDoor
open Go.RowKit

theorem int_alloc (w : World) (xs : List Int) (k : Nat) (hk : k < xs.length) (t : TypeId) : (w.alloc (.cells (xs.map (Value.int .i64)).toArray t)).cell? ⟨w.heap.size, k, none⟩ = some (.int .i64 (xs[k]'hk)) := by
  have : ((xs.map (Value.int .i64)).toArray)[k]? = some (.int .i64 (xs[k]'hk)) := by simp [hk]
  simp [go_sem, World.cell?_alloc_at, this]

theorem cellA {w1 w2 : World} {rb k : Nat} {x y : Int} {t : TypeId} (hg2 : (w1.alloc (.cells #[.int .i64 (-1), .int .i64 0, .int .i64 1, .int .i64 x, .int .i64 y, .int .i64 1000, .int .i64 1001] t)).drew.grownBy w2 (some rb)) (h : rb < w1.heap.size) (hk : k < 7) : ∃ z, w2.cell? ⟨w1.heap.size, k, none⟩ = some (.int .i64 z) :=
  ⟨[-1, 0, 1, x, y, 1000, 1001][k]'hk, hg2.cell (a := ⟨w1.heap.size, k, none⟩) (int_alloc w1 [-1, 0, 1, x, y, 1000, 1001] k hk t) (by simp; omega)⟩
theorem cellB (w2 : World) {k : Nat} (x y : Int) (t : TypeId) (hk : k < 7) : ∃ z, (w2.alloc (.cells #[.int .i64 (-1), .int .i64 0, .int .i64 1, .int .i64 x, .int .i64 y, .int .i64 1000, .int .i64 1001] t)).cell? ⟨w2.heap.size, k, none⟩ = some (.int .i64 z) :=
  ⟨[-1, 0, 1, x, y, 1000, 1001][k]'hk, int_alloc w2 [-1, 0, 1, x, y, 1000, 1001] k hk t⟩

set_option maxRecDepth 100000 in
set_option maxHeartbeats 4000000 in
theorem spoil_any (rb len N : Nat) (v : Value) (p : Ph) (w : World) (hR : Rd w rb v len N) (hN : N ≤ 900000) (hp : p.sz) :
    Calls Tryz.prog 78 #[.pointer (some ⟨rb, 0, none⟩), .agg #[.string p.nm, .int .i64 p.k, .string p.a, .string p.b, .int .i64 p.n, .int .i64 p.wi, .string p.t, .string p.e]] w
      fun e w' => (∃ p : Ph, e = .returned (.agg #[.string p.nm, .int .i64 p.k, .string p.a, .string p.b, .int .i64 p.n, .int .i64 p.wi, .string p.t, .string p.e]) ∧ p.sz) ∧ Rd w' rb v len (N + 2) ∧ w.grownBy w' (some rb) := by
  have hlt := hR.lt
  have hb0 := (box_alloc w p 34).kept (grown_alloc (r := none) (grown_refl _ none) (.cells #[.string ⟨#[]⟩, .int .i64 0, .string ⟨#[]⟩, .string ⟨#[]⟩, .int .i64 0, .int .i64 0, .string ⟨#[]⟩, .string ⟨#[]⟩] 34)) (by simp)
  have hk0 := box_alloc (w.alloc (.cells #[.string p.nm, .int .i64 p.k, .string p.a, .string p.b, .int .i64 p.n, .int .i64 p.wi, .string p.t, .string p.e] 34)) ⟨⟨#[]⟩, 0, ⟨#[]⟩, ⟨#[]⟩, 0, 0, ⟨#[]⟩, ⟨#[]⟩⟩ 34
  have hR0 := (hR.alloc (.cells #[.string p.nm, .int .i64 p.k, .string p.a, .string p.b, .int .i64 p.n, .int .i64 p.wi, .string p.t, .string p.e] 34)).alloc (.cells #[.string ⟨#[]⟩, .int .i64 0, .string ⟨#[]⟩, .string ⟨#[]⟩, .int .i64 0, .int .i64 0, .string ⟨#[]⟩, .string ⟨#[]⟩] 34)
  have hG0 := grown_alloc (grown_alloc (grown_refl w (some rb)) (.cells #[.string p.nm, .int .i64 p.k, .string p.a, .string p.b, .int .i64 p.n, .int .i64 p.wi, .string p.t, .string p.e] 34)) (.cells #[.string ⟨#[]⟩, .int .i64 0, .string ⟨#[]⟩, .string ⟨#[]⟩, .int .i64 0, .int .i64 0, .string ⟨#[]⟩, .string ⟨#[]⟩] 34)
  have hsz : (w.alloc (.cells #[.string p.nm, .int .i64 p.k, .string p.a, .string p.b, .int .i64 p.n, .int .i64 p.wi, .string p.t, .string p.e] 34)).heap.size = w.heap.size + 1 := by simp
  rw [hsz] at hk0
  clear hsz
  go_enter Tryz.func78, Tryz.ntmps78
  go_wp2_with fail
  refine (pick_any rb len N v 8 _ hR0 (by omega)).mono ?_
  rintro e w1 ⟨⟨x, rfl, hx0, hx1⟩, hR1, hg1⟩
  have hx2 := hx1 (by omega)
  clear hx1
  have hb1 := hb0.kept hg1 (by simp; omega)
  have hk1 := hk0.kept hg1 (by simp; omega)
  have hG1 := grown_trans hG0 hg1
  have hs1 := hk1.lt
  clear hb0 hk0 hg1 hG0 hR0 hR
  obtain ⟨z0, z2, z3, z6, z7, zw1, zw2⟩ := hp
  obtain ⟨c0, c1, c2, c3, c4, c5, c6, c7⟩ := hb1.cells
  obtain ⟨f0, f1, f2, f3, f4, f5, f6, f7⟩ := hb1.frozen
  rcases (by omega : x = 0 ∨ x = 1 ∨ x = 2 ∨ x = 3 ∨ x = 4 ∨ x = 5 ∨ x = 6 ∨ x = 7) with rfl | rfl | rfl | rfl | rfl | rfl | rfl | rfl
  · go_wp2_with fail
    refine (of_any rb len _ v [⟨#[]⟩, ⟨#[65]⟩, ⟨#[103, 111, 111, 100]⟩, ⟨#[102, 49]⟩, ⟨#[110, 105, 110, 101, 45, 98, 121, 116, 101, 115]⟩] 5 _ 0 _ _ rfl (hR1.alloc _) (by omega) (strsAt_alloc w1 [⟨#[]⟩, ⟨#[65]⟩, ⟨#[103, 111, 111, 100]⟩, ⟨#[102, 49]⟩, ⟨#[110, 105, 110, 101, 45, 98, 121, 116, 101, 115]⟩] 9) (by omega) (by omega) (by omega)).mono ?_
    rintro e w2 ⟨⟨s, hs, rfl⟩, hR2, hg2⟩
    have hz : s.size ≤ maxLen := sz_lit (ss := [⟨#[]⟩, ⟨#[65]⟩, ⟨#[103, 111, 111, 100]⟩, ⟨#[102, 49]⟩, ⟨#[110, 105, 110, 101, 45, 98, 121, 116, 101, 115]⟩]) (by decide) s hs
    have hb2 := (hb1.kept (grown_alloc (r := none) (grown_refl w1 none) _) (by simp)).kept hg2 (by simp; omega)
    have hk2 := (hk1.kept (grown_alloc (r := none) (grown_refl w1 none) _) (by simp)).kept hg2 (by simp; omega)
    have hG2 := grown_trans (grown_alloc hG1 _) hg2
    clear hg2 hb1 hk1 hG1 hR1
    clear c0 c1 c2 c3 c4 c5 c6 c7 f0 f1 f2 f3 f4 f5 f6 f7
    obtain ⟨c0, c1, c2, c3, c4, c5, c6, c7⟩ := hb2.cells
    obtain ⟨f0, f1, f2, f3, f4, f5, f6, f7⟩ := hb2.frozen
    obtain ⟨d0, d1, d2, d3, d4, d5, d6, d7⟩ := hk2.cells
    obtain ⟨r0, r1, r2, r3, r4, r5, r6, r7⟩ := hk2.frozen
    simp only at c0 c1 c2 c3 c4 c5 c6 c7 d0 d1 d2 d3 d4 d5 d6 d7
    go_wp2_with fail
    refine bodyPost_ret (ret_box (rk := w.heap.size + 1) (p := { p with nm := s }) Tryz.results78 ?ht ?hZ) rfl ?_
    case ht => rfl
    case hZ => exact Box.copy (hk2.other (qb := w.heap.size) (j := 0) (u := .string s) (by omega)) ({ p with nm := s })
    exact ⟨⟨{ p with nm := s }, rfl, ⟨hz, z2, z3, z6, z7, zw1, zw2⟩⟩, (((((((((hR2.setCell (by omega)).setCell (by omega)).setCell (by omega)).setCell (by omega)).setCell (by omega)).setCell (by omega)).setCell (by omega)).setCell (by omega)).setCell (by omega)).mono (by omega), grown_setNew (grown_setNew (grown_setNew (grown_setNew (grown_setNew (grown_setNew (grown_setNew (grown_setNew (grown_setNew hG2 (by omega) _) (by omega) _) (by omega) _) (by omega) _) (by omega) _) (by omega) _) (by omega) _) (by omega) _) (by omega) _⟩
  · go_wp2_with fail
    refine (pick_any rb len _ v 8 _ hR1 (by omega)).mono ?_
    rintro e w2 ⟨⟨y, rfl, hy0, hy1⟩, hR2, hg2⟩
    have hy2 := hy1 (by omega)
    clear hy1
    have hb2 := hb1.kept hg2 (by simp; omega)
    have hk2 := hk1.kept hg2 (by simp; omega)
    have hG2 := grown_trans hG1 hg2
    clear hg2 hb1 hk1 hG1 hR1
    clear c0 c1 c2 c3 c4 c5 c6 c7 f0 f1 f2 f3 f4 f5 f6 f7
    obtain ⟨c0, c1, c2, c3, c4, c5, c6, c7⟩ := hb2.cells
    obtain ⟨f0, f1, f2, f3, f4, f5, f6, f7⟩ := hb2.frozen
    obtain ⟨d0, d1, d2, d3, d4, d5, d6, d7⟩ := hk2.cells
    obtain ⟨r0, r1, r2, r3, r4, r5, r6, r7⟩ := hk2.frozen
    simp only at c0 c1 c2 c3 c4 c5 c6 c7 d0 d1 d2 d3 d4 d5 d6 d7
    go_wp2_with fail
    refine bodyPost_ret (ret_box (rk := w.heap.size + 1) (p := { p with k := y - 1 }) Tryz.results78 ?ht ?hZ) rfl ?_
    case ht => rfl
    case hZ => exact Box.copy (hk2.other (qb := w.heap.size) (j := 1) (u := .int .i64 (y - 1)) (by omega)) ({ p with k := y - 1 })
    exact ⟨⟨{ p with k := y - 1 }, rfl, ⟨z0, z2, z3, z6, z7, zw1, zw2⟩⟩, (((((((((hR2.setCell (by omega)).setCell (by omega)).setCell (by omega)).setCell (by omega)).setCell (by omega)).setCell (by omega)).setCell (by omega)).setCell (by omega)).setCell (by omega)).mono (by omega), grown_setNew (grown_setNew (grown_setNew (grown_setNew (grown_setNew (grown_setNew (grown_setNew (grown_setNew (grown_setNew hG2 (by omega) _) (by omega) _) (by omega) _) (by omega) _) (by omega) _) (by omega) _) (by omega) _) (by omega) _) (by omega) _⟩
  · go_wp2_with fail
    refine (of_any rb len _ v [⟨#[]⟩, ⟨#[65]⟩, p.b, ⟨#[103, 111, 111, 100]⟩] 4 _ 0 _ _ rfl (hR1.alloc _) (by omega) (strsAt_alloc w1 [⟨#[]⟩, ⟨#[65]⟩, p.b, ⟨#[103, 111, 111, 100]⟩] 9) (by omega) (by omega) (by omega)).mono ?_
    rintro e w2 ⟨⟨s, hs, rfl⟩, hR2, hg2⟩
    have hz : s.size ≤ maxLen := by
      have hl : s ∈ ([⟨#[]⟩, ⟨#[65]⟩, ⟨#[103, 111, 111, 100]⟩] : List ByteArray) ∨ s = p.b := by
        simp only [List.mem_cons, List.not_mem_nil, or_false] at hs ⊢
        rcases hs with h | h | h | h <;> simp [h]
      rcases hl with h | h
      · exact sz_lit (ss := [⟨#[]⟩, ⟨#[65]⟩, ⟨#[103, 111, 111, 100]⟩]) (by decide) s h
      · rw [h]; exact z3
    have hb2 := (hb1.kept (grown_alloc (r := none) (grown_refl w1 none) _) (by simp)).kept hg2 (by simp; omega)
    have hk2 := (hk1.kept (grown_alloc (r := none) (grown_refl w1 none) _) (by simp)).kept hg2 (by simp; omega)
    have hG2 := grown_trans (grown_alloc hG1 _) hg2
    clear hg2 hb1 hk1 hG1 hR1
    clear c0 c1 c2 c3 c4 c5 c6 c7 f0 f1 f2 f3 f4 f5 f6 f7
    obtain ⟨c0, c1, c2, c3, c4, c5, c6, c7⟩ := hb2.cells
    obtain ⟨f0, f1, f2, f3, f4, f5, f6, f7⟩ := hb2.frozen
    obtain ⟨d0, d1, d2, d3, d4, d5, d6, d7⟩ := hk2.cells
    obtain ⟨r0, r1, r2, r3, r4, r5, r6, r7⟩ := hk2.frozen
    simp only at c0 c1 c2 c3 c4 c5 c6 c7 d0 d1 d2 d3 d4 d5 d6 d7
    go_wp2_with fail
    refine bodyPost_ret (ret_box (rk := w.heap.size + 1) (p := { p with a := s }) Tryz.results78 ?ht ?hZ) rfl ?_
    case ht => rfl
    case hZ => exact Box.copy (hk2.other (qb := w.heap.size) (j := 2) (u := .string s) (by omega)) ({ p with a := s })
    exact ⟨⟨{ p with a := s }, rfl, ⟨z0, hz, z3, z6, z7, zw1, zw2⟩⟩, (((((((((hR2.setCell (by omega)).setCell (by omega)).setCell (by omega)).setCell (by omega)).setCell (by omega)).setCell (by omega)).setCell (by omega)).setCell (by omega)).setCell (by omega)).mono (by omega), grown_setNew (grown_setNew (grown_setNew (grown_setNew (grown_setNew (grown_setNew (grown_setNew (grown_setNew (grown_setNew hG2 (by omega) _) (by omega) _) (by omega) _) (by omega) _) (by omega) _) (by omega) _) (by omega) _) (by omega) _) (by omega) _⟩
  · go_wp2_with fail
    refine (of_any rb len _ v [⟨#[]⟩, ⟨#[65]⟩, p.a, ⟨#[103, 111, 111, 100]⟩] 4 _ 0 _ _ rfl (hR1.alloc _) (by omega) (strsAt_alloc w1 [⟨#[]⟩, ⟨#[65]⟩, p.a, ⟨#[103, 111, 111, 100]⟩] 9) (by omega) (by omega) (by omega)).mono ?_
    rintro e w2 ⟨⟨s, hs, rfl⟩, hR2, hg2⟩
    have hz : s.size ≤ maxLen := by
      have hl : s ∈ ([⟨#[]⟩, ⟨#[65]⟩, ⟨#[103, 111, 111, 100]⟩] : List ByteArray) ∨ s = p.a := by
        simp only [List.mem_cons, List.not_mem_nil, or_false] at hs ⊢
        rcases hs with h | h | h | h <;> simp [h]
      rcases hl with h | h
      · exact sz_lit (ss := [⟨#[]⟩, ⟨#[65]⟩, ⟨#[103, 111, 111, 100]⟩]) (by decide) s h
      · rw [h]; exact z2
    have hb2 := (hb1.kept (grown_alloc (r := none) (grown_refl w1 none) _) (by simp)).kept hg2 (by simp; omega)
    have hk2 := (hk1.kept (grown_alloc (r := none) (grown_refl w1 none) _) (by simp)).kept hg2 (by simp; omega)
    have hG2 := grown_trans (grown_alloc hG1 _) hg2
    clear hg2 hb1 hk1 hG1 hR1
    clear c0 c1 c2 c3 c4 c5 c6 c7 f0 f1 f2 f3 f4 f5 f6 f7
    obtain ⟨c0, c1, c2, c3, c4, c5, c6, c7⟩ := hb2.cells
    obtain ⟨f0, f1, f2, f3, f4, f5, f6, f7⟩ := hb2.frozen
    obtain ⟨d0, d1, d2, d3, d4, d5, d6, d7⟩ := hk2.cells
    obtain ⟨r0, r1, r2, r3, r4, r5, r6, r7⟩ := hk2.frozen
    simp only at c0 c1 c2 c3 c4 c5 c6 c7 d0 d1 d2 d3 d4 d5 d6 d7
    go_wp2_with fail
    refine bodyPost_ret (ret_box (rk := w.heap.size + 1) (p := { p with b := s }) Tryz.results78 ?ht ?hZ) rfl ?_
    case ht => rfl
    case hZ => exact Box.copy (hk2.other (qb := w.heap.size) (j := 3) (u := .string s) (by omega)) ({ p with b := s })
    exact ⟨⟨{ p with b := s }, rfl, ⟨z0, z2, hz, z6, z7, zw1, zw2⟩⟩, (((((((((hR2.setCell (by omega)).setCell (by omega)).setCell (by omega)).setCell (by omega)).setCell (by omega)).setCell (by omega)).setCell (by omega)).setCell (by omega)).setCell (by omega)).mono (by omega), grown_setNew (grown_setNew (grown_setNew (grown_setNew (grown_setNew (grown_setNew (grown_setNew (grown_setNew (grown_setNew hG2 (by omega) _) (by omega) _) (by omega) _) (by omega) _) (by omega) _) (by omega) _) (by omega) _) (by omega) _) (by omega) _⟩
  · go_wp2_with fail
    clear c0 c1 c2 c3 c4 c6 c7 f0 f1 f2 f3 f5 f6 f7
    go_region_with
      (first | (go_at_call 37; refine (pick_any rb len _ v 7 _ (by first | exact hR1.alloc _ | exact hR1) (by omega)).mono ?_; rintro e w2 ⟨⟨y, rfl, hy0, hy1⟩, hR2, hg2⟩; have hy2 := hy1 (by omega); first | (obtain ⟨z, hcell⟩ := cellA (k := y.toNat) hg2 (by omega) (by omega); have hb2 := (hb1.kept (grown_drew (grown_alloc (r := none) (grown_refl w1 none) _)) (by simp)).kept hg2 (by simp; omega); have c4 := hb2.cells.2.2.2.2.1; have f4' := hb2.frozen.2.2.2.2.1) | (obtain ⟨z, hcell⟩ := cellB (k := y.toNat) w2 p.wi (IntKind.i64.wrap (p.wi + 1)) 3 (by omega); have hb3 := (hb1.kept (grown_drew (grown_refl w1 none)) (by simp)).kept hg2 (by simp; omega); have c5' := hb3.cells.2.2.2.2.2.1; have hb2 := hb3.kept (grown_alloc (r := none) (grown_refl w2 none) (.cells #[.int .i64 (-1), .int .i64 0, .int .i64 1, .int .i64 p.wi, .int .i64 (IntKind.i64.wrap (p.wi + 1)), .int .i64 1000, .int .i64 1001] 3)) (by simp); have c4 := hb2.cells.2.2.2.2.1; have f4' := hb2.frozen.2.2.2.2.1)))
    all_goals first
      | (have hk2 := (hk1.kept (grown_drew (grown_alloc (r := none) (grown_refl w1 none) _)) (by simp)).kept hg2 (by simp; omega)
         have hG2 := grown_trans (grown_drew (grown_alloc hG1 _)) hg2
         clear hcell c4 f4')
      | (have hk2 := ((hk1.kept (grown_drew (grown_refl w1 none)) (by simp)).kept hg2 (by simp; omega)).kept (grown_alloc (r := none) (grown_refl w2 none) (.cells #[.int .i64 (-1), .int .i64 0, .int .i64 1, .int .i64 p.wi, .int .i64 (IntKind.i64.wrap (p.wi + 1)), .int .i64 1000, .int .i64 1001] 3)) (by simp)
         have hG2 := grown_alloc (grown_trans (grown_drew hG1) hg2) (.cells #[.int .i64 (-1), .int .i64 0, .int .i64 1, .int .i64 p.wi, .int .i64 (IntKind.i64.wrap (p.wi + 1)), .int .i64 1000, .int .i64 1001] 3)
         have hR3 := hR2.alloc (.cells #[.int .i64 (-1), .int .i64 0, .int .i64 1, .int .i64 p.wi, .int .i64 (IntKind.i64.wrap (p.wi + 1)), .int .i64 1000, .int .i64 1001] 3)
         clear hR2
         have hR2 := hR3
         clear hR3 hcell c4 f4' hb3 c5'
         generalize w2.alloc (.cells #[.int .i64 (-1), .int .i64 0, .int .i64 1, .int .i64 p.wi, .int .i64 (IntKind.i64.wrap (p.wi + 1)), .int .i64 1000, .int .i64 1001] 3) = W2 at *)
    all_goals
      clear c5 f4 hg2 hb1 hk1 hG1 hR1 hy1
      obtain ⟨c0, c1, c2, c3, c4, c5, c6, c7⟩ := hb2.cells
      obtain ⟨f0, f1, f2, f3, f4, f5, f6, f7⟩ := hb2.frozen
      obtain ⟨d0, d1, d2, d3, d4, d5, d6, d7⟩ := hk2.cells
      obtain ⟨r0, r1, r2, r3, r4, r5, r6, r7⟩ := hk2.frozen
      simp only at c0 c1 c2 c3 c4 c5 c6 c7 d0 d1 d2 d3 d4 d5 d6 d7
      go_wp2_with fail
      refine bodyPost_ret (ret_box (rk := w.heap.size + 1) (p := { p with n := z }) Tryz.results78 ?ht ?hZ) rfl ?_
      case ht => rfl
      case hZ => exact Box.copy (hk2.other (qb := w.heap.size) (j := 4) (u := .int .i64 z) (by omega)) ({ p with n := z })
      exact ⟨⟨{ p with n := z }, rfl, ⟨z0, z2, z3, z6, z7, zw1, zw2⟩⟩, (((((((((hR2.setCell (by omega)).setCell (by omega)).setCell (by omega)).setCell (by omega)).setCell (by omega)).setCell (by omega)).setCell (by omega)).setCell (by omega)).setCell (by omega)).mono (by omega), grown_setNew (grown_setNew (grown_setNew (grown_setNew (grown_setNew (grown_setNew (grown_setNew (grown_setNew (grown_setNew hG2 (by omega) _) (by omega) _) (by omega) _) (by omega) _) (by omega) _) (by omega) _) (by omega) _) (by omega) _) (by omega) _⟩
  · go_wp2_with fail
    refine (pick_any rb len _ v 5 _ (hR1.alloc _) (by omega)).mono ?_
    rintro e w2 ⟨⟨y, rfl, hy0, hy1⟩, hR2, hg2⟩
    have hy2 := hy1 (by omega)
    obtain ⟨k, rfl⟩ : ∃ k : Nat, y = (k : Int) := ⟨y.toNat, by omega⟩
    have hk : k < 5 := by omega
    have hcell := hg2.cell (int_alloc w1 [-1, 0, 1, 1000, 1001] k (by simp; omega) 3) (by simp; omega)
    have Hm : Hid (([-1, 0, 1, 1000, 1001] : List Int)[k]'(by simp; omega) ∈ ([-1, 0, 1, 1000, 1001] : List Int)) := by show _ ∈ _; exact List.getElem_mem _
    generalize ([-1, 0, 1, 1000, 1001] : List Int)[k]'(by simp; omega) = y at *
    have hzy : -5000 ≤ y ∧ y ≤ 5000 := by
      have : ∀ y ∈ ([-1, 0, 1, 1000, 1001] : List Int), -5000 ≤ y ∧ y ≤ 5000 := by decide
      exact this y (Hm.out)
    have hb2 := (hb1.kept (grown_alloc (r := none) (grown_refl w1 none) _) (by simp)).kept hg2 (by simp; omega)
    have hk2 := (hk1.kept (grown_alloc (r := none) (grown_refl w1 none) _) (by simp)).kept hg2 (by simp; omega)
    have hG2 := grown_trans (grown_alloc hG1 _) hg2
    clear hy1 hg2 hb1 hk1 hG1 hR1
    clear c0 c1 c2 c3 c4 c5 c6 c7 f0 f1 f2 f3 f4 f5 f6 f7
    obtain ⟨c0, c1, c2, c3, c4, c5, c6, c7⟩ := hb2.cells
    obtain ⟨f0, f1, f2, f3, f4, f5, f6, f7⟩ := hb2.frozen
    obtain ⟨d0, d1, d2, d3, d4, d5, d6, d7⟩ := hk2.cells
    obtain ⟨r0, r1, r2, r3, r4, r5, r6, r7⟩ := hk2.frozen
    simp only at c0 c1 c2 c3 c4 c5 c6 c7 d0 d1 d2 d3 d4 d5 d6 d7
    go_wp2_with fail
    refine bodyPost_ret (ret_box (rk := w.heap.size + 1) (p := { p with wi := y }) Tryz.results78 ?ht ?hZ) rfl ?_
    case ht => rfl
    case hZ => exact Box.copy (hk2.other (qb := w.heap.size) (j := 5) (u := .int .i64 y) (by omega)) ({ p with wi := y })
    exact ⟨⟨{ p with wi := y }, rfl, ⟨z0, z2, z3, z6, z7, hzy.1, hzy.2⟩⟩, (((((((((hR2.setCell (by omega)).setCell (by omega)).setCell (by omega)).setCell (by omega)).setCell (by omega)).setCell (by omega)).setCell (by omega)).setCell (by omega)).setCell (by omega)).mono (by omega), grown_setNew (grown_setNew (grown_setNew (grown_setNew (grown_setNew (grown_setNew (grown_setNew (grown_setNew (grown_setNew hG2 (by omega) _) (by omega) _) (by omega) _) (by omega) _) (by omega) _) (by omega) _) (by omega) _) (by omega) _) (by omega) _⟩
  · go_wp2_with fail
    refine (of_any rb len _ v [⟨#[]⟩, ⟨#[98, 114, 101, 119]⟩, ⟨#[102, 49]⟩, ⟨#[114, 101, 115, 116]⟩, ⟨#[110, 111, 110, 101]⟩] 5 _ 0 _ _ rfl (hR1.alloc _) (by omega) (strsAt_alloc w1 [⟨#[]⟩, ⟨#[98, 114, 101, 119]⟩, ⟨#[102, 49]⟩, ⟨#[114, 101, 115, 116]⟩, ⟨#[110, 111, 110, 101]⟩] 9) (by omega) (by omega) (by omega)).mono ?_
    rintro e w2 ⟨⟨s, hs, rfl⟩, hR2, hg2⟩
    have hz : s.size ≤ maxLen := sz_lit (ss := [⟨#[]⟩, ⟨#[98, 114, 101, 119]⟩, ⟨#[102, 49]⟩, ⟨#[114, 101, 115, 116]⟩, ⟨#[110, 111, 110, 101]⟩]) (by decide) s hs
    have hb2 := (hb1.kept (grown_alloc (r := none) (grown_refl w1 none) _) (by simp)).kept hg2 (by simp; omega)
    have hk2 := (hk1.kept (grown_alloc (r := none) (grown_refl w1 none) _) (by simp)).kept hg2 (by simp; omega)
    have hG2 := grown_trans (grown_alloc hG1 _) hg2
    clear hg2 hb1 hk1 hG1 hR1
    clear c0 c1 c2 c3 c4 c5 c6 c7 f0 f1 f2 f3 f4 f5 f6 f7
    obtain ⟨c0, c1, c2, c3, c4, c5, c6, c7⟩ := hb2.cells
    obtain ⟨f0, f1, f2, f3, f4, f5, f6, f7⟩ := hb2.frozen
    obtain ⟨d0, d1, d2, d3, d4, d5, d6, d7⟩ := hk2.cells
    obtain ⟨r0, r1, r2, r3, r4, r5, r6, r7⟩ := hk2.frozen
    simp only at c0 c1 c2 c3 c4 c5 c6 c7 d0 d1 d2 d3 d4 d5 d6 d7
    go_wp2_with fail
    refine bodyPost_ret (ret_box (rk := w.heap.size + 1) (p := { p with t := s }) Tryz.results78 ?ht ?hZ) rfl ?_
    case ht => rfl
    case hZ => exact Box.copy (hk2.other (qb := w.heap.size) (j := 6) (u := .string s) (by omega)) ({ p with t := s })
    exact ⟨⟨{ p with t := s }, rfl, ⟨z0, z2, z3, hz, z7, zw1, zw2⟩⟩, (((((((((hR2.setCell (by omega)).setCell (by omega)).setCell (by omega)).setCell (by omega)).setCell (by omega)).setCell (by omega)).setCell (by omega)).setCell (by omega)).setCell (by omega)).mono (by omega), grown_setNew (grown_setNew (grown_setNew (grown_setNew (grown_setNew (grown_setNew (grown_setNew (grown_setNew (grown_setNew hG2 (by omega) _) (by omega) _) (by omega) _) (by omega) _) (by omega) _) (by omega) _) (by omega) _) (by omega) _) (by omega) _⟩
  · go_wp2_with fail
    refine (of_any rb len _ v [⟨#[]⟩, ⟨#[98, 114, 101, 119]⟩, ⟨#[102, 49]⟩, ⟨#[114, 101, 115, 116]⟩, ⟨#[110, 111, 110, 101]⟩] 5 _ 0 _ _ rfl (hR1.alloc _) (by omega) (strsAt_alloc w1 [⟨#[]⟩, ⟨#[98, 114, 101, 119]⟩, ⟨#[102, 49]⟩, ⟨#[114, 101, 115, 116]⟩, ⟨#[110, 111, 110, 101]⟩] 9) (by omega) (by omega) (by omega)).mono ?_
    rintro e w2 ⟨⟨s, hs, rfl⟩, hR2, hg2⟩
    have hz : s.size ≤ maxLen := sz_lit (ss := [⟨#[]⟩, ⟨#[98, 114, 101, 119]⟩, ⟨#[102, 49]⟩, ⟨#[114, 101, 115, 116]⟩, ⟨#[110, 111, 110, 101]⟩]) (by decide) s hs
    have hb2 := (hb1.kept (grown_alloc (r := none) (grown_refl w1 none) _) (by simp)).kept hg2 (by simp; omega)
    have hk2 := (hk1.kept (grown_alloc (r := none) (grown_refl w1 none) _) (by simp)).kept hg2 (by simp; omega)
    have hG2 := grown_trans (grown_alloc hG1 _) hg2
    clear hg2 hb1 hk1 hG1 hR1
    clear c0 c1 c2 c3 c4 c5 c6 c7 f0 f1 f2 f3 f4 f5 f6 f7
    obtain ⟨c0, c1, c2, c3, c4, c5, c6, c7⟩ := hb2.cells
    obtain ⟨f0, f1, f2, f3, f4, f5, f6, f7⟩ := hb2.frozen
    obtain ⟨d0, d1, d2, d3, d4, d5, d6, d7⟩ := hk2.cells
    obtain ⟨r0, r1, r2, r3, r4, r5, r6, r7⟩ := hk2.frozen
    simp only at c0 c1 c2 c3 c4 c5 c6 c7 d0 d1 d2 d3 d4 d5 d6 d7
    go_wp2_with fail
    refine bodyPost_ret (ret_box (rk := w.heap.size + 1) (p := { p with e := s }) Tryz.results78 ?ht ?hZ) rfl ?_
    case ht => rfl
    case hZ => exact Box.copy (hk2.other (qb := w.heap.size) (j := 7) (u := .string s) (by omega)) ({ p with e := s })
    exact ⟨⟨{ p with e := s }, rfl, ⟨z0, z2, z3, z6, hz, zw1, zw2⟩⟩, (((((((((hR2.setCell (by omega)).setCell (by omega)).setCell (by omega)).setCell (by omega)).setCell (by omega)).setCell (by omega)).setCell (by omega)).setCell (by omega)).setCell (by omega)).mono (by omega), grown_setNew (grown_setNew (grown_setNew (grown_setNew (grown_setNew (grown_setNew (grown_setNew (grown_setNew (grown_setNew hG2 (by omega) _) (by omega) _) (by omega) _) (by omega) _) (by omega) _) (by omega) _) (by omega) _) (by omega) _) (by omega) _⟩
end Go.Proofs.YtliebjbbomghiaaGreatDoor
