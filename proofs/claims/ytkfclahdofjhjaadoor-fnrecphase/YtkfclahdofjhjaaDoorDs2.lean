/- Drawing: a phase, one in two spoilt. -/
import Derived.Test.YtkfclahdofjhjaaDoorDr
import Derived.Test.YtkfclahdofjhjaaDoorDs0
import Derived.Test.YtkfclahdofjhjaaDoorDs1
import Derived.Deep.RegionWith
namespace Go.Proofs.YtkfclahdofjhjaaDoor
open Go.RowKit

theorem below_of_grown {a b : World} {rb : Nat} (h : a.grownBy b (some rb)) (hrb : a.heap.size ≤ rb) : Below a.heap.size a b :=
  { os := h.os, tape := h.tape, output := h.output, size := h.size, block := fun i hi => h.block i hi (by simp; omega) }
def restL : List ByteArray := [⟨#[114, 101, 115, 116]⟩]
set_option maxRecDepth 100000 in
set_option maxHeartbeats 4000000 in
theorem draw_any (a : Option Addr) (n cap : Nat) (w : World) (h : BytesAt w w.heap.size (.slice a n cap) n) (hcap : n ≤ cap) (hbig : cap ≤ maxLen) :
    Calls Tryd.prog 24 #[.slice a n cap] w
      fun e w' => (∃ p : Ph, e = .returned (.agg #[.string p.nm, .int .i64 p.k, .string p.a, .string p.b, .int .i64 p.n, .int .i64 p.wi, .string p.t, .string p.e]) ∧ p.sz) ∧ Below w.heap.size w w' := by
  have hb0 := box_alloc w ⟨⟨#[]⟩, 0, ⟨#[]⟩, ⟨#[]⟩, 0, 0, ⟨#[]⟩, ⟨#[]⟩⟩ 32
  have hB0 : Below w.heap.size w (w.alloc (.cells #[.string ⟨#[]⟩, .int .i64 0, .string ⟨#[]⟩, .string ⟨#[]⟩, .int .i64 0, .int .i64 0, .string ⟨#[]⟩, .string ⟨#[]⟩] 32)) := (Below.refl _ _).alloc (Nat.le_refl _) _
  have hA0 : (w.alloc (.cells #[.string ⟨#[]⟩, .int .i64 0, .string ⟨#[]⟩, .string ⟨#[]⟩, .int .i64 0, .int .i64 0, .string ⟨#[]⟩, .string ⟨#[]⟩] 32)).heap.size = w.heap.size + 1 := by simp
  have h0 := h.up hB0 (rb := (w.alloc (.cells #[.string ⟨#[]⟩, .int .i64 0, .string ⟨#[]⟩, .string ⟨#[]⟩, .int .i64 0, .int .i64 0, .string ⟨#[]⟩, .string ⟨#[]⟩] 32)).heap.size) (by omega)
  clear h
  go_enter Tryd.func24, Tryd.ntmps24
  go_wp2_with fail
  generalize w.alloc (.cells #[.string ⟨#[]⟩, .int .i64 0, .string ⟨#[]⟩, .string ⟨#[]⟩, .int .i64 0, .int .i64 0, .string ⟨#[]⟩, .string ⟨#[]⟩] 32) = A1 at *
  refine (open_any a n cap _ h0 hcap hbig).mono ?_
  rintro e w1 ⟨⟨rb, len, v, rfl, hR1, hrb⟩, hB1⟩
  have hlt := hR1.lt
  have hb1 := hb0.kept (grown_below (r := none) hB1) (by simp)
  have hB2 := up_trans hB0 hB1
  clear hb0 hB0 hB1 h0
  go_wp2_with fail
  refine (names_any _).mono ?_
  rintro e w2 ⟨rfl, rfl⟩
  go_wp2_with fail
  refine (of_any rb len 0 v namesL 8 _ 0 _ _ rfl (hR1.alloc _) (by omega) (strsAt_alloc w1 namesL 9) (by omega) (by omega) (by omega)).mono ?_
  rintro e w3 ⟨⟨s, hs, rfl⟩, hR3, hg3⟩
  have hz : s.size ≤ maxLen := sz_lit (ss := namesL) (by decide) s hs
  have hb3 := (hb1.kept (grown_alloc (r := none) (grown_refl w1 none) _) (by simp)).kept hg3 (by simp; omega)
  have hG3 := grown_trans (grown_alloc (grown_below (r := some rb) hB2) _) hg3
  have hlt3 := hR3.lt
  clear hg3 hb1 hB2 hR1 hs
  go_wp2_with fail
  refine (phase_any rb len _ v s restL w3.heap.size 0 1 1 _ (hR3.alloc _) (by omega) hz (sz_lit (by decide)) rfl (by omega) (strsAt_alloc w3 restL 9) (by omega)).mono ?_
  rintro e w4 ⟨⟨p, rfl, hp⟩, hR4, hg4⟩
  have hb4 := (hb3.kept (grown_alloc (r := none) (grown_refl w3 none) _) (by simp)).kept hg4 (by simp; omega)
  have hG4 := grown_trans (grown_alloc hG3 _) hg4
  have hq4 := box_alloc w4 p 32
  have hlt4 := hR4.lt
  clear hg4 hb3 hG3 hR3
  go_wp2_with fail
  refine (pick_any rb len _ v 2 _ (hR4.alloc _) (by omega)).mono ?_
  rintro e w5 ⟨⟨x, rfl, hx0, hx1⟩, hR5, hg5⟩
  have hx2 := hx1 (by omega)
  have hb5 := (hb4.kept (grown_alloc (r := none) (grown_refl w4 none) _) (by simp)).kept hg5 (by simp; omega)
  have hq5 := hq4.kept hg5 (by simp; omega)
  have hG5 := grown_trans (grown_alloc hG4 _) hg5
  clear hx1 hg5 hb4 hG4 hR4 hq4
  obtain ⟨c0, c1, c2, c3, c4, c5, c6, c7⟩ := hq5.cells
  by_cases hx : x = 0
  · subst hx
    go_wp2_with fail
    refine (spoil_any rb len _ v p _ hR5 (by omega) hp).mono ?_
    rintro e w6 ⟨⟨q, rfl, hq⟩, -, hg6⟩
    have hb6 := hb5.kept hg6 (by simp; omega)
    have hG6 := grown_trans hG5 hg6
    clear hg6 hb5 hG5 hR5
    obtain ⟨d0, d1, d2, d3, d4, d5, d6, d7⟩ := hb6.cells
    obtain ⟨r0, r1, r2, r3, r4, r5, r6, r7⟩ := hb6.frozen
    simp only at d0 d1 d2 d3 d4 d5 d6 d7
    go_wp2_with fail
    refine bodyPost_ret (ret_box (rk := w.heap.size) (p := q) Tryd.results24 ?ht ?hZ) rfl ?_
    case ht => rfl
    case hZ => exact Box.copy hb6 q
    exact ⟨⟨q, rfl, hq⟩, below_of_grown (grown_setNew (grown_setNew (grown_setNew (grown_setNew (grown_setNew (grown_setNew (grown_setNew (grown_setNew (hG6) (Nat.le_refl _) _) (Nat.le_refl _) _) (Nat.le_refl _) _) (Nat.le_refl _) _) (Nat.le_refl _) _) (Nat.le_refl _) _) (Nat.le_refl _) _) (Nat.le_refl _) _) (by omega)⟩
  · have hx1 : (x == 0) = false := by simpa using hx
    obtain ⟨d0, d1, d2, d3, d4, d5, d6, d7⟩ := hb5.cells
    obtain ⟨r0, r1, r2, r3, r4, r5, r6, r7⟩ := hb5.frozen
    simp only at d0 d1 d2 d3 d4 d5 d6 d7
    go_wp2_with fail
    refine bodyPost_ret (ret_box (rk := w.heap.size) (p := p) Tryd.results24 ?ht ?hZ) rfl ?_
    case ht => rfl
    case hZ => exact Box.copy hb5 p
    exact ⟨⟨p, rfl, hp⟩, below_of_grown (grown_setNew (grown_setNew (grown_setNew (grown_setNew (grown_setNew (grown_setNew (grown_setNew (grown_setNew (hG5) (Nat.le_refl _) _) (Nat.le_refl _) _) (Nat.le_refl _) _) (Nat.le_refl _) _) (Nat.le_refl _) _) (Nat.le_refl _) _) (Nat.le_refl _) _) (Nat.le_refl _) _) (by omega)⟩
end Go.Proofs.YtkfclahdofjhjaaDoor
