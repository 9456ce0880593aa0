/- The walk of a rune of a name. -/
import Derived.Test.YtmkpaciaollcbaaJ0
namespace Go.Proofs.Ytmkpaciaollcbaa
open Go.RowKit

theorem rune_any (n : Nat) (w : World) :
    Calls Try.prog 60 #[.int .i32 n] w fun e w' => e = .returned (.bool (nbB n)) ∧ w' = w := by
  go_enter Try.func60, Try.ntmps60
  go_wp2
  all_goals
    go_ret
    exact ⟨ret_bool (by rw [Bool.eq_iff_iff, nbB_iff]; simp; omega), rfl⟩
end Go.Proofs.Ytmkpaciaollcbaa

/- The program's walk of a name (chapter 11). -/
namespace Go.Proofs.Ytmkpaciaollcbaa
open Go.RowKit

theorem shName_any (s : ByteArray) (w : World) (hs : s.size ≤ maxLen) :
    Calls Try.prog 48 #[.string s] w fun e w' => e = .returned (.bool (nameB s)) ∧ Below w.heap.size w w' := by
  unfold maxLen at hs
  by_cases h1 : 1 ≤ s.size
  case neg =>
    go_enter Try.func48, Try.ntmps48
    go_wp2
    go_ret
    exact ⟨ret_bool (by simp [nameB, h1]), Below.refl _ _⟩
  by_cases h2 : s.size ≤ 8
  case neg =>
    go_enter Try.func48, Try.ntmps48
    go_wp2
    go_ret
    exact ⟨ret_bool (by simp [nameB, h2]), Below.refl _ _⟩
  have hn : Hid (nameB s = allB s.data.toList) := by show nameB s = _; simp [nameB, h1, h2]
  go_enter Try.func48, Try.ntmps48
  go_wp2_with fail
  go_loopw [4] (fun _ w' => ∃ pos : Nat, w' = w.iter s pos ∧ pos ≤ s.size ∧ allB (s.data.toList.take pos) = true) (fun _ w' => s.size - w'.iterPos w.heap.size)
  case atStart => exact ⟨0, rfl, by omega, rfl⟩
  case round =>
    obtain ⟨pos, rfl, hle, hal⟩ := hrel
    have Hal : Hid (allB (s.data.toList.take pos) = true) := hal
    clear hal
    by_cases hp : pos < s.size
    · have hnx : ∀ ty, (Instr.next (.pointer (some ⟨w.heap.size, 0, none⟩)) true ty).run Try.prog (w.iter s pos) = _ := fun ty => run_next_any w s pos ty hp
      by_cases ha : (s[pos]'hp).toNat < 128
      · rw [decode_ascii s pos hp ha] at hnx
        by_cases hb : nbB (s[pos]'hp).toNat = true
        · have Hb : Hid (nbB (s[pos]'hp).toNat = true) := hb
          go_wp2_with (go_at_call 60; refine (rune_any _ _).mono ?_; rintro e w' ⟨rfl, rfl⟩)
          go_roundw
          case rel => exact ⟨pos + 1, rfl, by omega, by rw [allB_take s pos hp, Hal.out, Hb.out]; rfl⟩
          case measure => simp; omega
        · have hb' : nbB (s[pos]'hp).toNat = false := by simpa using hb
          have Hb : Hid (nbB (s[pos]'hp).toNat = false) := hb'
          clear hb
          go_wp2_with (go_at_call 60; refine (rune_any _ _).mono ?_; rintro e w' ⟨rfl, rfl⟩)
          go_ret
          exact ⟨ret_bool (by rw [hn.out, allB_no s pos hp Hb.out]), up_iter _ _ _⟩
      · have hi := decode_high s pos hp (by omega)
        have hb' : nbB (Utf8.decode s pos).1 = false := nbB_high _ hi.1
        have Hb : Hid (nbB (s[pos]'hp).toNat = false) := nbB_high _ (by omega)
        clear hi
        go_wp2_with (go_at_call 60; refine (rune_any _ _).mono ?_; rintro e w' ⟨rfl, rfl⟩)
        go_ret
        exact ⟨ret_bool (by rw [hn.out, allB_no s pos hp Hb.out]), up_iter _ _ _⟩
    · have hnx : ∀ ty, (Instr.next (.pointer (some ⟨w.heap.size, 0, none⟩)) true ty).run Try.prog (w.iter s pos) = _ := fun ty => run_next_end w s pos ty hp
      go_wp2
      go_ret
      exact ⟨ret_bool (by rw [hn.out, allB_yes s pos hp Hal.out]), up_iter _ _ _⟩
end Go.Proofs.Ytmkpaciaollcbaa
