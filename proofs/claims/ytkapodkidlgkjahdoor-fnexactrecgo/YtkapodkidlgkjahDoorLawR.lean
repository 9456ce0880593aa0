/- The laws' own helpers over where a run is and how a phase went. -/
import Derived.Test.YtkapodkidlgkjahDoorWa
import Derived.Test.YtkapodkidlgkjahDoorRn
namespace Go.Proofs.YtkapodkidlgkjahDoor
open Go.RowKit

theorem eqState_any (s : St) (w : World) :
    Calls Tryd.prog 17 #[.agg #[.string (s).nm, .int .i64 (s).now, .int .i64 (s).left], .agg #[.string (s).nm, .int .i64 (s).now, .int .i64 (s).left]] w fun e' w' => e' = .returned (.bool true) ∧ Below w.heap.size w w' := by
  go_enter Tryd.func17, Tryd.ntmps17
  go_wp2
  go_ret
  exact ⟨rfl, by go_grown⟩
end Go.Proofs.YtkapodkidlgkjahDoor
