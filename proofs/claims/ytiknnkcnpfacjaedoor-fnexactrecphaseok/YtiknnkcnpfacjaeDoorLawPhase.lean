/- The law of RecPhaseOk: its walk. -/
import Derived.Test.YtiknnkcnpfacjaeDoorWd
namespace Go.Proofs.YtiknnkcnpfacjaeDoor
open Go.RowKit

set_option maxHeartbeats 1000000 in
theorem toPhase_any (nm : ByteArray) (k : Int) (a b : ByteArray) (n wi : Int) (t e : ByteArray) (w : World) :
    Calls Tryd.prog 6 #[.agg #[.string nm, .int .i64 k, .string a, .string b, .int .i64 n, .int .i64 wi, .string t, .string e]] w fun e' w' => e' = .returned (.agg #[.string nm, .int .i64 k, .string a, .string b, .int .i64 n, .int .i64 wi, .string t, .string e]) ∧ Below w.heap.size w w' := by
  go_enter Tryd.func6, Tryd.ntmps6
  go_wp2
  go_returns
  exact ⟨rfl, by go_grown⟩

set_option maxHeartbeats 1000000 in
theorem szPhase_any (nm : ByteArray) (k : Int) (a b : ByteArray) (n wi : Int) (t e : ByteArray) (l : Int) (w : World) (hl : 0 ≤ l) (hl' : l ≤ 1048576) (hnm : nm.size ≤ maxLen) (ha : a.size ≤ maxLen) (hb : b.size ≤ maxLen) (ht : t.size ≤ maxLen) (he : e.size ≤ maxLen) :
    Calls Tryd.prog 4 #[.agg #[.string nm, .int .i64 k, .string a, .string b, .int .i64 n, .int .i64 wi, .string t, .string e], .int .i64 l] w
      fun e' w' => (∃ x : Int, e' = .returned (.int .i64 x) ∧ x ≤ l ∧ -1 ≤ x ∧ (0 ≤ x → nm.size + a.size + b.size + t.size + e.size ≤ l)) ∧ Below w.heap.size w w' := by
  unfold maxLen at *
  go_enter Tryd.func4, Tryd.ntmps4
  go_wp2
  all_goals
    go_ret
    exact ⟨⟨_, rfl, by omega, by omega, by omega⟩, (Below.refl _ _).alloc (Nat.le_refl _) _⟩

set_option maxHeartbeats 1000000 in
theorem law_any (nm : ByteArray) (k : Int) (a b : ByteArray) (n wi : Int) (t e : ByteArray) (w : World) (hE : Ends w) (hnm : nm.size ≤ maxLen) (ha : a.size ≤ maxLen) (hb : b.size ≤ maxLen) (ht : t.size ≤ maxLen) (he : e.size ≤ maxLen) :
    Calls Tryd.prog 3 #[.agg #[.string nm, .int .i64 k, .string a, .string b, .int .i64 n, .int .i64 wi, .string t, .string e]] w fun e' w' => e' = .returned (.bool true) ∧ Below w.heap.size w w' := by
  have HE : Hid (Ends w) := hE
  clear hE
  go_enter Tryd.func3, Tryd.ntmps3
  go_wp2_with fail
  refine (szPhase_any _ _ _ _ _ _ _ _ _ _ (by omega) (by omega) hnm ha hb ht he).mono ?_
  rintro e' w1 ⟨⟨x, rfl, -, -, -⟩, hB⟩
  obtain ⟨hc, hf⟩ := bcell hB
  by_cases hx : x < 0
  · go_wp2_with fail
    go_ret
    exact ⟨rfl, up_trans ((Below.refl _ _).alloc (Nat.le_refl _) _) hB⟩
  go_wp2_with (first | (go_at_call 6; refine (toPhase_any _ _ _ _ _ _ _ _ _).mono ?_; rintro e w1 ⟨rfl, hb1⟩; (first | (have hB' := up_trans hB hb1; clear hB; have hB := hB'; clear hB') | (have hB := hb1)); clear hb1; (try clear hc hf); obtain ⟨hc, hf⟩ := bcell hB) | (go_at_call 5; refine (specPhase_any _ _ _ _ _ _ _ _ _ hnm ha hb ht he).mono ?_; rintro e w1 ⟨rfl, hb1⟩; (first | (have hB' := up_trans hB hb1; clear hB; have hB := hB'; clear hB') | (have hB := hb1)); clear hb1; (try clear hc hf); obtain ⟨hc, hf⟩ := bcell hB) | (go_at_call 7; refine (recPhase_any _ _ _ _ _ _ _ _ _ (HE.out.up (up_trans ((Below.refl _ _).alloc (Nat.le_refl _) _) hB)) hnm ha hb ht he).mono ?_; rintro e w1 ⟨rfl, hb1⟩; (first | (have hB' := up_trans hB hb1; clear hB; have hB := hB'; clear hB') | (have hB := hb1)); clear hb1; (try clear hc hf); obtain ⟨hc, hf⟩ := bcell hB))
  go_ret
  exact ⟨rfl, up_trans ((Below.refl _ _).alloc (Nat.le_refl _) _) hB⟩
end Go.Proofs.YtiknnkcnpfacjaeDoor
