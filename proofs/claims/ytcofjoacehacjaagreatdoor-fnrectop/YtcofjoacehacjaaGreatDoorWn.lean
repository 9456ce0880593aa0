/- The walk of a rune of a name. -/
import Derived.Test.YtcofjoacehacjaaGreatDoorJ0
namespace Go.Proofs.YtcofjoacehacjaaGreatDoor
open Go.RowKit

theorem rune_any (n : Nat) (w : World) :
    Calls Tryz.prog 75 #[.int .i32 n] w fun e w' => e = .returned (.bool (nbB n)) ∧ w' = w := by
  go_enter Tryz.func75, Tryz.ntmps75
  go_wp2
  all_goals
    go_ret
    exact ⟨ret_bool (by rw [Bool.eq_iff_iff, nbB_iff]; simp; omega), rfl⟩
end Go.Proofs.YtcofjoacehacjaaGreatDoor
