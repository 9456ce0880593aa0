/- Runs by the program: the says one by one. -/
import Derived.Test.YtcofjoacehacjaaGreatDoorWh0
import Derived.Test.YtcofjoacehacjaaGreatDoorWg3
namespace Go.Proofs.YtcofjoacehacjaaGreatDoor
open Go.RowKit

theorem CB.c1 {w : World} {b : Nat} {x0 : Value} (h : CB w b [x0]) : w.cell? ⟨b, 0, none⟩ = some x0 ∧ w.frozen? ⟨b, 0, none⟩ = false := ⟨h.1 0 _ rfl, (h.2.1 0 (by simp)).2⟩
/-- The box of the says that are left. -/
def SB (w : World) (q b2 : Nat) (ys : List Sy) : Prop := ∃ a c, CB w q [.slice a ys.length c] ∧ ys.length ≤ c ∧ c ≤ 9223372036854775807 ∧ (ys = [] ∨ ∃ o, a = some ⟨b2, o, none⟩ ∧ SayAt w b2 o ys)
theorem SB.up {w w' : World} {q b2 : Nat} {ys : List Sy} (h : SB w q b2 ys) (hb : Below w.heap.size w w') (hb2 : b2 < w.heap.size) : SB w' q b2 ys := by
  obtain ⟨a, c, k, h1, h2, h3⟩ := h
  refine ⟨a, c, k.up hb k.2.2, h1, h2, ?_⟩
  rcases h3 with h3 | ⟨o, ha, hs⟩
  · exact .inl h3
  · exact .inr ⟨o, ha, hs.up hb hb2⟩
theorem SayAt.kept {w w' : World} {b o q : Nat} {ys : List Sy} (h : SayAt w b o ys) (hg : w.grownBy w' (some q)) (hne : b ≠ q) : SayAt w' b o ys := fun i p hp j v hv => hg.cell (h i p hp j v hv) (by simpa using hne)
theorem SB.kept {w w' : World} {q b2 r : Nat} {ys : List Sy} (h : SB w q b2 ys) (hg : w.grownBy w' (some r)) (hq : q ≠ r) (hb2 : b2 ≠ r) : SB w' q b2 ys := by
  obtain ⟨a, c, k, h1, h2, h3⟩ := h
  refine ⟨a, c, k.kept hg (by simpa using hq), h1, h2, ?_⟩
  rcases h3 with h3 | ⟨o, ha, hs⟩
  · exact .inl h3
  · exact .inr ⟨o, ha, hs.kept hg hb2⟩

set_option maxRecDepth 20000 in
set_option maxHeartbeats 2000000 in
theorem said_any (ys : List Sy) (q b2 : Nat) (w : World) (h : SB w q b2 ys) (hb2 : b2 < w.heap.size) (hne : b2 ≠ q) :
    Calls Tryz.prog 67 #[.pointer (some ⟨q, 0, none⟩)] w
      fun e w' => e = .returned (.agg #[.int .i64 (ys.head?.getD Sy.late).t, .bool (ys.head?.getD Sy.late).well]) ∧ SB w' q b2 ys.tail ∧ w.grownBy w' (some q) := by
  obtain ⟨a, c, k, hlc, hc9, hya⟩ := h
  have hq := k.2.2
  have hB1 : Below w.heap.size w (w.alloc (.cells #[.int .i64 0, .bool false] 41)) := (Below.refl _ _).alloc (Nat.le_refl _) _
  have k1 := k.up hB1 k.2.2
  obtain ⟨c0, f0⟩ := k1.c1
  have kR : CB (w.alloc (.cells #[.int .i64 0, .bool false] 41)) w.heap.size [.int .i64 0, .bool false] := cb_alloc w [.int .i64 0, .bool false] _
  have hs1 : (w.alloc (.cells #[.int .i64 0, .bool false] 41)).heap.size = w.heap.size + 1 := by simp
  cases ys with
  | nil =>
    obtain ⟨⟨d0, d1⟩, g0, g1⟩ := kR.c2
    simp only [List.length_nil] at c0 k k1
    go_enter Tryz.func67, Tryz.ntmps67
    go_upto_region 1 with fail
    generalize w.alloc (.cells #[.int .i64 0, .bool false] 41) = W1 at *
    go_wp2_with fail
    refine end_cb2 Tryz.results67 Tryz.underlying41 rfl sizeSyI kR rfl ?_
    refine ⟨rfl, ⟨a, c, k1.otherCopy (by omega) [.int .i64 1001, .bool false], by simp, hc9, .inl rfl⟩, ?_⟩
    exact grown_new (grown_below hB1) (grown_copies w.heap.size [.int .i64 1001, .bool false] 0 _ _ _ (World.grownBy.refl' _) rfl) (Nat.le_refl _)
  | cons y r =>
    obtain ⟨o, rfl, hsay⟩ := hya.resolve_left (by simp)
    obtain ⟨y0, y1⟩ := (hsay.up hB1 hb2).cells 0 (by simp)
    simp only [Nat.zero_mul, Nat.add_zero, List.getElem_cons_zero, List.length_cons] at y0 y1 c0 hlc k k1
    have hd := hsay.drop 1
    simp only [List.drop_succ_cons, List.drop_zero] at hd
    go_enter Tryz.func67, Tryz.ntmps67
    go_upto_region 1 with fail
    generalize w.alloc (.cells #[.int .i64 0, .bool false] 41) = W1 at *
    go_upto_region 4 with fail
    clear y0 y1 c0 f0
    obtain ⟨W2, hW2, kY, hB2, hs2⟩ : ∃ W2, W1.alloc (.cells #[.int .i64 y.t, .bool y.well] 41) = W2 ∧ CB W2 W1.heap.size y.cellsI ∧ Below W1.heap.size W1 W2 ∧ W2.heap.size = W1.heap.size + 1 := ⟨_, rfl, cb1 W1 y.cellsI _⟩
    rw [hW2]
    clear hW2
    rw [hs1] at kY hs2
    have hB := up_trans hB1 hB2
    have k2 := k1.up hB2 k1.2.2
    have kR := kR.up hB2 kR.2.2
    have hd := hd.up hB hb2
    clear hB2 k1 k hsay hya
    obtain ⟨c0, f0⟩ := k2.c1
    by_cases hc1 : c = 1
    · subst hc1
      obtain rfl : r = [] := List.length_eq_zero_iff.1 (by omega)
      go_upto_region 5 with fail
      have k3 : CB (W2.setCell ⟨q, 0, none⟩ (.slice (some ⟨b2, o, none⟩) 0 0)) q [.slice (some ⟨b2, o, none⟩) 0 0] := k2.set (j := 0) (by simp)
      have kY3 : CB (W2.setCell ⟨q, 0, none⟩ (.slice (some ⟨b2, o, none⟩) 0 0)) (w.heap.size + 1) y.cellsI := kY.other (by omega)
      have kR3 : CB (W2.setCell ⟨q, 0, none⟩ (.slice (some ⟨b2, o, none⟩) 0 0)) w.heap.size [.int .i64 0, .bool false] := kR.other (by omega)
      have hG : w.grownBy (W2.setCell ⟨q, 0, none⟩ (.slice (some ⟨b2, o, none⟩) 0 0)) (some q) := grown_setCell (grown_below hB) _
      clear c0 f0 hd
      generalize W2.setCell ⟨q, 0, none⟩ (.slice (some ⟨b2, o, none⟩) 0 0) = W3 at *
      obtain ⟨⟨e0, e1⟩, -⟩ := kY3.c2
      obtain ⟨⟨d0, d1⟩, g0, g1⟩ := kR3.c2
      go_wp2_with fail
      refine end_cb2 Tryz.results67 Tryz.underlying41 rfl sizeSyI kR3 rfl ?_
      have hg4 := grown_copies w.heap.size [.int .i64 y.t, .bool y.well] 0 W3 W3 (some w.heap.size) (World.grownBy.refl' _) rfl
      exact ⟨rfl, ⟨_, _, k3.otherCopy (by omega) [.int .i64 y.t, .bool y.well], by simp, by omega, .inl rfl⟩, grown_new hG hg4 (Nat.le_refl _)⟩
    · go_upto_region 5 with fail
      have k3 : CB (W2.setCell ⟨q, 0, none⟩ (.slice (some ⟨b2, o + 2, none⟩) r.length (c - 1))) q [.slice (some ⟨b2, o + 2, none⟩) r.length (c - 1)] := k2.set (j := 0) (by simp)
      have kY3 : CB (W2.setCell ⟨q, 0, none⟩ (.slice (some ⟨b2, o + 2, none⟩) r.length (c - 1))) (w.heap.size + 1) y.cellsI := kY.other (by omega)
      have kR3 : CB (W2.setCell ⟨q, 0, none⟩ (.slice (some ⟨b2, o + 2, none⟩) r.length (c - 1))) w.heap.size [.int .i64 0, .bool false] := kR.other (by omega)
      have hG : w.grownBy (W2.setCell ⟨q, 0, none⟩ (.slice (some ⟨b2, o + 2, none⟩) r.length (c - 1))) (some q) := grown_setCell (grown_below hB) _
      have hd3 : SayAt (W2.setCell ⟨q, 0, none⟩ (.slice (some ⟨b2, o + 2, none⟩) r.length (c - 1))) b2 (o + 1 * 2) r := hd.kept (grown_setCell (grown_refl _ _) _) hne
      clear c0 f0 hd
      generalize W2.setCell ⟨q, 0, none⟩ (.slice (some ⟨b2, o + 2, none⟩) r.length (c - 1)) = W3 at *
      obtain ⟨⟨e0, e1⟩, -⟩ := kY3.c2
      obtain ⟨⟨d0, d1⟩, g0, g1⟩ := kR3.c2
      go_wp2_with fail
      refine end_cb2 Tryz.results67 Tryz.underlying41 rfl sizeSyI kR3 rfl ?_
      have hg4 := grown_copies w.heap.size [.int .i64 y.t, .bool y.well] 0 W3 W3 (some w.heap.size) (World.grownBy.refl' _) rfl
      exact ⟨rfl, ⟨_, _, k3.otherCopy (by omega) [.int .i64 y.t, .bool y.well], by simp; omega, by omega, .inr ⟨_, rfl, hd3.kept hg4 (by omega)⟩⟩, grown_new hG hg4 (Nat.le_refl _)⟩

/-- The function that keeps the says. -/
theorem recSaid_any (a : Option Addr) (n c : Nat) (w : World) : Calls Tryz.prog 51 #[.slice a n c] w fun e w' => e = .returned (.func (.func 67) #[] #[.pointer (some ⟨w.heap.size, 0, none⟩)]) ∧ w' = w.alloc (.cells #[.slice a n c] 24) := by
  go_enter Tryz.func51, Tryz.ntmps51
  go_wp2_with fail
  go_ret
  exact ⟨rfl, rfl⟩
theorem recStates_any (a a2 : Option Addr) (n c n2 c2 : Nat) (w : World) : Calls Tryz.prog 21 #[.slice a n c, .slice a2 n2 c2] w fun e w' => e = .returned (.func (.func 50) #[] #[.pointer (some ⟨w.heap.size + 1, 0, none⟩), .pointer (some ⟨w.heap.size, 0, none⟩)]) ∧ w' = (w.alloc (.cells #[.slice a n c] 23)).alloc (.cells #[.slice a2 n2 c2] 24) := by
  go_enter Tryz.func21, Tryz.ntmps21
  go_wp2_with fail
  go_ret
  exact ⟨rfl, rfl⟩
end Go.Proofs.YtcofjoacehacjaaGreatDoor
