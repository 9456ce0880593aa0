/- The walk of a rune of a name. -/
import Derived.Test.YtkapodkidlgkjafWa0
namespace Go.Proofs.Ytkapodkidlgkjaf
open Go.RowKit

theorem rune_any (n : Nat) (w : World) :
    Calls Try.prog 54 #[.int .i32 n] w fun e w' => e = .returned (.bool (nbB n)) ∧ w' = w := by
  go_enter Try.func54, Try.ntmps54
  go_wp2
  all_goals
    go_ret
    exact ⟨ret_bool (by rw [Bool.eq_iff_iff, nbB_iff]; simp; omega), rfl⟩
end Go.Proofs.Ytkapodkidlgkjaf
