/- The walk of a rune of a name. -/
import Derived.Test.YtkapodkidlgkjahDoorWa0
namespace Go.Proofs.YtkapodkidlgkjahDoor
open Go.RowKit

theorem rune_any (n : Nat) (w : World) :
    Calls Tryd.prog 87 #[.int .i32 n] w fun e w' => e = .returned (.bool (nbB n)) ∧ w' = w := by
  go_enter Tryd.func87, Tryd.ntmps87
  go_wp2
  all_goals
    go_ret
    exact ⟨ret_bool (by rw [Bool.eq_iff_iff, nbB_iff]; simp; omega), rfl⟩
end Go.Proofs.YtkapodkidlgkjahDoor
