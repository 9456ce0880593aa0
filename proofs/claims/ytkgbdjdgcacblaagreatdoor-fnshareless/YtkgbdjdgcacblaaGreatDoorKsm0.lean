/- Texts that are the same, by the law. -/
import Derived.Test.YtkgbdjdgcacblaaGreatDoorJ1
namespace Go.Proofs.YtkgbdjdgcacblaaGreatDoor
open Go.RowKit

/-- Texts that are the same. -/
theorem whTexts_any (ss : List ByteArray) (u v : Value) (w : World) (h : Ls w u ss) (h2 : Ls w v ss) :
    Calls Tryz.prog 22 #[u, v] w fun e w' => e = .returned (.bool true) ∧ Below w.heap.size w w' := by
  obtain ⟨a, c, rfl, hn, -, hpos⟩ := h
  obtain ⟨a2, c2, rfl, -, -, hpos2⟩ := h2
  unfold maxLen at hn
  go_enter Tryz.func22, Tryz.ntmps22
  go_wp2_with fail
  go_loopw [5] (fun i w' => ∃ k : Nat, k ≤ ss.length ∧ i = .int .i64 k ∧ Below w.heap.size w w') (fun i _ => ss.length - (intOf i).toNat)
  case atStart => exact ⟨0, by omega, rfl, Below.refl _ _⟩
  case round =>
    obtain ⟨k, hk, rfl, hB⟩ := hrel
    by_cases hp : k < ss.length
    · obtain ⟨b, o, rfl, hS, hb⟩ := hpos (by omega)
      obtain ⟨b2, o2, rfl, hS2, hb2⟩ := hpos2 (by omega)
      have c0 := (hB.cell (p := ⟨b, o + k, none⟩) hb).trans (hS.cell hp)
      have c1 := (hB.cell (p := ⟨b2, o2 + k, none⟩) hb2).trans (hS2.cell hp)
      generalize ss[k] = s0 at *
      go_wp2_with fail
      go_quiet (fail)
      go_wp2_with fail
      go_roundw
      case rel => exact ⟨k + 1, by omega, by go_num, below_drewN hB _⟩
      case measure => simp [intOf]; omega
    · go_wp2_with fail
      go_ret
      exact ⟨rfl, hB⟩
end Go.Proofs.YtkgbdjdgcacblaaGreatDoor
