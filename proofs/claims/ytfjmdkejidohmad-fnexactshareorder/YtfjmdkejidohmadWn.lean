/- The walk of a rune of a name. -/
import Derived.Test.YtfjmdkejidohmadWa0
namespace Go.Proofs.Ytfjmdkejidohmad
open Go.RowKit

theorem rune_any (n : Nat) (w : World) :
    Calls Try.prog 56 #[.int .i32 n] w fun e w' => e = .returned (.bool (nbB n)) ∧ w' = w := by
  go_enter Try.func56, Try.ntmps56
  go_wp2
  all_goals
    go_ret
    exact ⟨ret_bool (by rw [Bool.eq_iff_iff, nbB_iff]; simp; omega), rfl⟩
end Go.Proofs.Ytfjmdkejidohmad
