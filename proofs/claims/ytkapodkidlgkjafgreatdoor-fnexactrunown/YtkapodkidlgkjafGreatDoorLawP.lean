/- The laws' own helpers over a phase. -/
import Derived.Test.YtkapodkidlgkjafGreatDoorWa
namespace Go.Proofs.YtkapodkidlgkjafGreatDoor
open Go.RowKit

set_option maxHeartbeats 1000000 in
theorem toPhase_any (nm : ByteArray) (k : Int) (a b : ByteArray) (n wi : Int) (t e : ByteArray) (w : World) :
    Calls Tryz.prog 80 #[.agg #[.string nm, .int .i64 k, .string a, .string b, .int .i64 n, .int .i64 wi, .string t, .string e]] w fun e' w' => e' = .returned (.agg #[.string nm, .int .i64 k, .string a, .string b, .int .i64 n, .int .i64 wi, .string t, .string e]) ∧ Below w.heap.size w w' := by
  go_enter Tryz.func80, Tryz.ntmps80
  go_wp2
  go_returns
  exact ⟨rfl, by go_grown⟩

set_option maxHeartbeats 1000000 in
theorem szPhase_any (nm : ByteArray) (k : Int) (a b : ByteArray) (n wi : Int) (t e : ByteArray) (l : Int) (w : World) (hl : 0 ≤ l) (hl' : l ≤ 1048576) (hnm : nm.size ≤ maxLen) (ha : a.size ≤ maxLen) (hb : b.size ≤ maxLen) (ht : t.size ≤ maxLen) (he : e.size ≤ maxLen) :
    Calls Tryz.prog 70 #[.agg #[.string nm, .int .i64 k, .string a, .string b, .int .i64 n, .int .i64 wi, .string t, .string e], .int .i64 l] w
      fun e' w' => (∃ x : Int, e' = .returned (.int .i64 x) ∧ x ≤ l ∧ -1 ≤ x ∧ (0 ≤ x → nm.size + a.size + b.size + t.size + e.size ≤ l)) ∧ Below w.heap.size w w' := by
  unfold maxLen at *
  go_enter Tryz.func70, Tryz.ntmps70
  go_wp2
  all_goals
    go_ret
    exact ⟨⟨_, rfl, by omega, by omega, by omega⟩, (Below.refl _ _).alloc (Nat.le_refl _) _⟩

end Go.Proofs.YtkapodkidlgkjafGreatDoor
