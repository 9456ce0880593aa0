/- Drawing: how a phase goes. -/
import Derived.Test.YtcofjoacehacjaaGreatDoorDp
import Derived.Test.YtcofjoacehacjaaGreatDoorWg3
namespace Go.Proofs.YtcofjoacehacjaaGreatDoor
open Go.RowKit

theorem int_lit (w : World) (a b c d : Int) (t : TypeId) (k : Nat) (hk : k < 4) : ∃ x, (w.alloc (.cells #[.int .i64 a, .int .i64 b, .int .i64 c, .int .i64 d] t)).cell? ⟨w.heap.size, k, none⟩ = some (.int .i64 x) := by
  rw [World.cell?_alloc_at]
  case hn => rfl
  match k, hk with
  | 0, _ => exact ⟨a, rfl⟩
  | 1, _ => exact ⟨b, rfl⟩
  | 2, _ => exact ⟨c, rfl⟩
  | 3, _ => exact ⟨d, rfl⟩

set_option maxRecDepth 20000 in
set_option maxHeartbeats 2000000 in
theorem say_any (rb len N : Nat) (v : Value) (w : World) (hR : Rd w rb v len N) (hN : N ≤ 900000) :
    Calls Tryz.prog 19 #[.pointer (some ⟨rb, 0, none⟩)] w
      fun e w' => (∃ y : Sy, e = .returned (.agg #[.int .i64 (y).t, .bool (y).well])) ∧ Rd w' rb v len (N + 4) ∧ w.grownBy w' (some rb) := by
  have hlt := hR.lt
  go_enter Tryz.func19, Tryz.ntmps19
  go_wp2_with fail
  obtain ⟨W1, hW1, k1, hB1, hs1⟩ : ∃ W1, w.alloc (.cells #[.int .i64 0, .bool false] 41) = W1 ∧ CB W1 w.heap.size [.int .i64 0, .bool false] ∧ Below w.heap.size w W1 ∧ W1.heap.size = w.heap.size + 1 := ⟨_, rfl, cb1 w [.int .i64 0, .bool false] _⟩
  rw [hW1]
  have hR1 : Rd W1 rb v len N := by rw [← hW1]; exact hR.alloc _
  clear hW1 hR
  refine (pick_any rb len _ v 24 _ hR1 (by omega)).mono ?_
  rintro e w2 ⟨⟨x, rfl, hx0, hx1⟩, hR2, hg2⟩
  have hG := grown_trans (grown_below hB1) hg2
  have k1 := k1.kept hg2 (by simp; omega)
  have hz2 := hg2.size
  clear hx1 hB1 hR1 hg2
  go_wp2_with fail
  refine (pick_any rb len _ v 3 _ hR2 (by omega)).mono ?_
  rintro e w3 ⟨⟨x3, rfl, hx3, hx4⟩, hR3, hg3⟩
  have hG := grown_trans hG hg3
  have k1 := k1.kept hg3 (by simp; omega)
  have hz3 := hg3.size
  clear hx4 hR2 hg3
  go_upto_region 2 with fail
  generalize decide (0 < x3) = wl
  obtain ⟨W4, hW4, k2, hB4, hs4⟩ : ∃ W4, w3.alloc (.cells #[.int .i64 x, .bool wl] 41) = W4 ∧ CB W4 w3.heap.size [.int .i64 x, .bool wl] ∧ Below w3.heap.size w3 W4 ∧ W4.heap.size = w3.heap.size + 1 := ⟨_, rfl, cb1 w3 [.int .i64 x, .bool wl] _⟩
  rw [hW4]
  have hR4 : Rd W4 rb v len (N + 1 + 1) := by rw [← hW4]; exact hR3.alloc _
  have hG := grown_trans hG (grown_below hB4)
  have k1 := k1.up hB4 k1.2.2
  clear hW4 hR3 hB4 hx0 hx3
  go_wp2_with fail
  refine (pick_any rb len _ v 24 _ hR4 (by omega)).mono ?_
  rintro e w5 ⟨⟨x5, rfl, -, -⟩, hR5, hg5⟩
  have hG := grown_trans hG hg5
  have k1 := k1.kept hg5 (by simp; omega)
  have k2 := k2.kept hg5 (by simp; omega)
  have hz5 := hg5.size
  have hne : ¬ w.heap.size = w3.heap.size := by omega
  clear hR4 hg5
  by_cases h0 : x5 = 0
  · subst h0
    go_wp2_with fail
    have hb5 : Below w5.heap.size w5 (w5.alloc (.cells #[.int .i64 (-1), .int .i64 (-9223372036854775808), .int .i64 9223372036854775807, .int .i64 0] 3)) := (Below.refl _ _).alloc (Nat.le_refl _) _
    have hlit := int_lit w5 (-1) (-9223372036854775808) 9223372036854775807 0 3
    have hs5 : (w5.alloc (.cells #[.int .i64 (-1), .int .i64 (-9223372036854775808), .int .i64 9223372036854775807, .int .i64 0] 3)).heap.size = w5.heap.size + 1 := by simp
    generalize w5.alloc (.cells #[.int .i64 (-1), .int .i64 (-9223372036854775808), .int .i64 9223372036854775807, .int .i64 0] 3) = W6 at *
    have hG := grown_trans hG (grown_below hb5)
    have k1 := k1.up hb5 k1.2.2
    have k2 := k2.up hb5 k2.2.2
    refine (pick_any rb len _ v 4 _ (hR5.kept hb5) (by omega)).mono ?_
    rintro e w7 ⟨⟨x7, rfl, h70, h71⟩, hR7, hg7⟩
    have h72 := h71 (by omega)
    obtain ⟨k, rfl⟩ : ∃ k : Nat, x7 = (k : Int) := ⟨x7.toNat, by omega⟩
    obtain ⟨tk, htk⟩ := hlit k (by omega)
    have htk := hg7.cell htk (by simp; omega)
    have hG := grown_trans hG hg7
    have k1 := k1.kept hg7 (by simp; omega)
    have k2 := k2.kept hg7 (by simp; omega)
    clear hlit hR5 hb5 hg7 h71
    obtain ⟨⟨a0, a1⟩, y0, y1⟩ := k2.c2
    go_upto_region 4 with fail
    have k3 : CB (w7.setCell ⟨w3.heap.size, 0, none⟩ (.int .i64 tk)) w3.heap.size [.int .i64 tk, .bool wl] := k2.set (j := 0) (by simp)
    have k4 : CB (w7.setCell ⟨w3.heap.size, 0, none⟩ (.int .i64 tk)) w.heap.size [.int .i64 0, .bool false] := k1.other hne
    have hR8 : Rd (w7.setCell ⟨w3.heap.size, 0, none⟩ (.int .i64 tk)) rb v len (N + 1 + 1 + 1 + 1) := hR7.setCell (by omega)
    have hG8 : w.grownBy (w7.setCell ⟨w3.heap.size, 0, none⟩ (.int .i64 tk)) (some rb) := grown_setNew hG (by omega) _
    clear a0 a1 y0 y1 htk hG k1 k2
    generalize w7.setCell ⟨w3.heap.size, 0, none⟩ (.int .i64 tk) = W8 at *
    obtain ⟨⟨a0, a1⟩, -⟩ := k3.c2
    obtain ⟨⟨d0, d1⟩, f0, f1⟩ := k4.c2
    go_wp2_with fail
    refine end_cb2 Tryz.results19 Tryz.underlying41 rfl sizeSyI k4 rfl ?_
    exact ⟨⟨⟨tk, wl⟩, rfl⟩, (hR8.setCell hlt).setCell hlt, grown_setNew (grown_setNew hG8 (Nat.le_refl _) _) (Nat.le_refl _) _⟩
  · have h0' : (x5 == 0) = false := by simpa using h0
    obtain ⟨⟨a0, a1⟩, -⟩ := k2.c2
    obtain ⟨⟨d0, d1⟩, f0, f1⟩ := k1.c2
    go_wp2_with fail
    refine end_cb2 Tryz.results19 Tryz.underlying41 rfl sizeSyI k1 rfl ?_
    exact ⟨⟨⟨x, wl⟩, rfl⟩, ((hR5.mono (by omega)).setCell hlt).setCell hlt, grown_setNew (grown_setNew hG (Nat.le_refl _) _) (Nat.le_refl _) _⟩
end Go.Proofs.YtcofjoacehacjaaGreatDoor
