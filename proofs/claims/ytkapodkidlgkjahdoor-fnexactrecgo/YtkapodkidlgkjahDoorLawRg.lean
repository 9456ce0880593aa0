/- The laws' own helpers over where a run is and how a phase went, for RecGo. -/
import Derived.Test.YtkapodkidlgkjahDoorLawR
namespace Go.Proofs.YtkapodkidlgkjahDoor
open Go.RowKit

theorem toState_any (s : St) (w : World) :
    Calls Tryd.prog 20 #[.agg #[.string (s).nm, .int .i64 (s).now, .int .i64 (s).left]] w fun e' w' => e' = .returned (.agg #[.string (s).nm, .int .i64 (s).now, .int .i64 (s).left]) ∧ Below w.heap.size w w' := by
  go_enter Tryd.func20, Tryd.ntmps20
  go_wp2
  go_returns
  exact ⟨rfl, by go_grown⟩
theorem toSay_any (y : Sy) (w : World) :
    Calls Tryd.prog 21 #[.agg #[.int .i64 (y).t, .bool (y).well]] w fun e' w' => e' = .returned (.agg #[.int .i64 (y).t, .bool (y).well]) ∧ Below w.heap.size w w' := by
  go_enter Tryd.func21, Tryd.ntmps21
  go_wp2
  go_returns
  exact ⟨rfl, by go_grown⟩
theorem szState_any (s : St) (l : Int) (w : World) :
    Calls Tryd.prog 18 #[.agg #[.string (s).nm, .int .i64 (s).now, .int .i64 (s).left], .int .i64 l] w fun e' w' => (∃ x : Int, e' = .returned (.int .i64 x)) ∧ Below w.heap.size w w' := by
  go_enter Tryd.func18, Tryd.ntmps18
  go_wp2
  all_goals
    go_ret
    exact ⟨⟨_, rfl⟩, (Below.refl _ _).alloc (Nat.le_refl _) _⟩
end Go.Proofs.YtkapodkidlgkjahDoor
