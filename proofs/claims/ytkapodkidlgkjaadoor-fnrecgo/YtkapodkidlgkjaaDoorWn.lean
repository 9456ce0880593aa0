/- The walk of a rune of a name. -/
import Derived.Test.YtkapodkidlgkjaaDoorWa0
namespace Go.Proofs.YtkapodkidlgkjaaDoor
open Go.RowKit

theorem rune_any (n : Nat) (w : World) :
    Calls Tryd.prog 79 #[.int .i32 n] w fun e w' => e = .returned (.bool (nbB n)) ∧ w' = w := by
  go_enter Tryd.func79, Tryd.ntmps79
  go_wp2
  all_goals
    go_ret
    exact ⟨ret_bool (by rw [Bool.eq_iff_iff, nbB_iff]; simp; omega), rfl⟩
end Go.Proofs.YtkapodkidlgkjaaDoor
