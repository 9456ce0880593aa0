/- The walks of names and ends. -/
import Derived.Test.YtcofjoacehacjaaGreatDoorWn
namespace Go.Proofs.YtcofjoacehacjaaGreatDoor
open Go.RowKit

theorem in_any (n lo hi : Int) (w : World) :
    Calls Tryz.prog 25 #[.int .i64 n, .int .i64 lo, .int .i64 hi] w fun e w' => e = .returned (.bool (inB n lo hi)) ∧ w' = w := by
  by_cases h1 : lo ≤ n <;> by_cases h2 : n ≤ hi
  all_goals
    go_enter Tryz.func25, Tryz.ntmps25
    go_wp2
    go_ret
    exact ⟨ret_bool (by simp [inB, h1, h2]), rfl⟩

theorem recName_any (s : ByteArray) (w : World) (hs : s.size ≤ maxLen) :
    Calls Tryz.prog 65 #[.string s] w fun e w' => e = .returned (.bool (nameB s)) ∧ Below w.heap.size w w' := by
  unfold maxLen at hs
  by_cases h1 : 1 ≤ s.size
  case neg =>
    go_enter Tryz.func65, Tryz.ntmps65
    go_wp2
    go_ret
    exact ⟨ret_bool (by simp [nameB, h1]), Below.refl _ _⟩
  by_cases h2 : s.size ≤ 8
  case neg =>
    go_enter Tryz.func65, Tryz.ntmps65
    go_wp2
    go_ret
    exact ⟨ret_bool (by simp [nameB, h2]), Below.refl _ _⟩
  have hn : Hid (nameB s = allB s.data.toList) := by show nameB s = _; simp [nameB, h1, h2]
  go_enter Tryz.func65, Tryz.ntmps65
  go_wp2_with fail
  go_loopw [4] (fun _ w' => ∃ pos : Nat, w' = w.iter s pos ∧ pos ≤ s.size ∧ allB (s.data.toList.take pos) = true) (fun _ w' => s.size - w'.iterPos w.heap.size)
  case atStart => exact ⟨0, rfl, by omega, rfl⟩
  case round =>
    obtain ⟨pos, rfl, hle, hal⟩ := hrel
    have Hal : Hid (allB (s.data.toList.take pos) = true) := hal
    clear hal
    by_cases hp : pos < s.size
    · have hnx : ∀ ty, (Instr.next (.pointer (some ⟨w.heap.size, 0, none⟩)) true ty).run Tryz.prog (w.iter s pos) = _ := fun ty => run_next_any w s pos ty hp
      by_cases ha : (s[pos]'hp).toNat < 128
      · rw [decode_ascii s pos hp ha] at hnx
        by_cases hb : nbB (s[pos]'hp).toNat = true
        · have Hb : Hid (nbB (s[pos]'hp).toNat = true) := hb
          go_wp2_with (go_at_call 75; refine (rune_any _ _).mono ?_; rintro e w' ⟨rfl, rfl⟩)
          go_roundw
          case rel => exact ⟨pos + 1, rfl, by omega, by rw [allB_take s pos hp, Hal.out, Hb.out]; rfl⟩
          case measure => simp; omega
        · have hb' : nbB (s[pos]'hp).toNat = false := by simpa using hb
          have Hb : Hid (nbB (s[pos]'hp).toNat = false) := hb'
          clear hb
          go_wp2_with (go_at_call 75; refine (rune_any _ _).mono ?_; rintro e w' ⟨rfl, rfl⟩)
          go_ret
          exact ⟨ret_bool (by rw [hn.out, allB_no s pos hp Hb.out]), up_iter _ _ _⟩
      · have hi := decode_high s pos hp (by omega)
        have hb' : nbB (Utf8.decode s pos).1 = false := nbB_high _ hi.1
        have Hb : Hid (nbB (s[pos]'hp).toNat = false) := nbB_high _ (by omega)
        clear hi
        go_wp2_with (go_at_call 75; refine (rune_any _ _).mono ?_; rintro e w' ⟨rfl, rfl⟩)
        go_ret
        exact ⟨ret_bool (by rw [hn.out, allB_no s pos hp Hb.out]), up_iter _ _ _⟩
    · have hnx : ∀ ty, (Instr.next (.pointer (some ⟨w.heap.size, 0, none⟩)) true ty).run Tryz.prog (w.iter s pos) = _ := fun ty => run_next_end w s pos ty hp
      go_wp2
      go_ret
      exact ⟨ret_bool (by rw [hn.out, allB_yes s pos hp Hal.out]), up_iter _ _ _⟩

theorem specName_any (s : ByteArray) (w : World) (hs : s.size ≤ maxLen) :
    Calls Tryz.prog 56 #[.string s] w fun e w' => e = .returned (.bool (nameB s)) ∧ w' = w := by
  unfold maxLen at hs
  by_cases h1 : 1 ≤ s.size ∧ s.size ≤ 8
  case neg =>
    have h2 : inB s.size 1 8 = false := (inB_no _ _ _).2 (by omega)
    go_enter Tryz.func56, Tryz.ntmps56
    go_wp2_with (go_at_call 25; refine (in_any _ _ _ _).mono ?_; rintro e w' ⟨rfl, rfl⟩)
    go_ret
    exact ⟨ret_bool (by simp only [nameB]; simp; omega), rfl⟩
  have hn : Hid (nameB s = allB s.data.toList) := by show nameB s = _; simp [nameB, h1]
  have h2 : inB s.size 1 8 = true := (inB_iff _ _ _).2 (by omega)
  go_enter Tryz.func56, Tryz.ntmps56
  go_wp2_with (go_at_call 25; refine (in_any _ _ _ _).mono ?_; rintro e w' ⟨rfl, rfl⟩)
  go_loop [3] (fun i => ∃ k : Nat, k ≤ s.size ∧ i = .int .i64 k ∧ allB (s.data.toList.take k) = true) (fun i => s.size - (intOf i).toNat)
  case atStart => exact ⟨0, by omega, rfl, rfl⟩
  case round =>
    obtain ⟨k, hk, rfl, hal⟩ := hrel
    have Hal : Hid (allB (s.data.toList.take k) = true) := hal
    clear hal
    by_cases hp : k < s.size
    · have HS : Hid (nbB (s[k]'hp).toNat = true → allB (s.data.toList.take (k + 1)) = true) := by show _ → _; intro hb; rw [allB_take s k hp, Hal.out, hb]; rfl
      have HN : Hid (nbB (s[k]'hp).toNat = false → allB s.data.toList = false) := allB_no s k hp
      go_wp2
      all_goals first
        | (go_ret; exact ⟨ret_bool (by rw [hn.out]; exact (HN.out (by rw [← Bool.not_eq_true, nbB_iff]; go_light; simp at *; omega)).symm), rfl⟩)
        | (go_round
           case rel => exact ⟨k + 1, by omega, by go_num, HS.out (by rw [nbB_iff]; go_light; simp at *; omega)⟩
           case measure => simp [intOf]; omega)
    · go_wp2
      go_ret
      exact ⟨ret_bool (by rw [hn.out, allB_yes s k hp Hal.out]), rfl⟩

theorem specEnd_any (s : ByteArray) (w : World) :
    Calls Tryz.prog 27 #[.string s] w fun e w' => e = .returned (.int .i64 (endN s)) ∧ w' = w := by
  go_enter Tryz.func27, Tryz.ntmps27
  go_wp2
  all_goals
    go_ret
    exact ⟨ret_int (by simp [endN, *]), rfl⟩

/-- The names of the ends, as the program's table holds them. -/
def Ends (w : World) : Prop := w.cell? ⟨0, 0, none⟩ = some (.string ⟨#[103, 111, 111, 100]⟩) ∧
    w.cell? ⟨0, 1, none⟩ = some (.string ⟨#[115, 97, 118, 101, 100]⟩) ∧ w.cell? ⟨0, 2, none⟩ = some (.string ⟨#[115, 99, 114, 97, 112, 112, 101, 100]⟩) ∧ 0 < w.heap.size
theorem Ends.up {w w' : World} (h : Ends w) (b : Below w.heap.size w w') : Ends w' :=
  ⟨(b.cell (p := ⟨0, 0, none⟩) h.2.2.2).trans h.1, (b.cell (p := ⟨0, 1, none⟩) h.2.2.2).trans h.2.1, (b.cell (p := ⟨0, 2, none⟩) h.2.2.2).trans h.2.2.1, Nat.lt_of_lt_of_le h.2.2.2 b.size⟩

theorem recEnd_any (s : ByteArray) (w : World) (hE : Ends w) :
    Calls Tryz.prog 9 #[.string s] w fun e w' => e = .returned (.int .i64 (endN s)) ∧ w' = w := by
  obtain ⟨g0, g1, g2, _⟩ := hE
  have i0 : ∀ w, (Instr.index 56 (.agg #[.string ⟨#[103, 111, 111, 100]⟩, .string ⟨#[115, 97, 118, 101, 100]⟩, .string ⟨#[115, 99, 114, 97, 112, 112, 101, 100]⟩]) (.int .i64 0)).run Tryz.prog w = .ok (.string ⟨#[103, 111, 111, 100]⟩) w := fun _ => by kernel_rfl
  have i1 : ∀ w, (Instr.index 56 (.agg #[.string ⟨#[103, 111, 111, 100]⟩, .string ⟨#[115, 97, 118, 101, 100]⟩, .string ⟨#[115, 99, 114, 97, 112, 112, 101, 100]⟩]) (.int .i64 1)).run Tryz.prog w = .ok (.string ⟨#[115, 97, 118, 101, 100]⟩) w := fun _ => by kernel_rfl
  have i2 : ∀ w, (Instr.index 56 (.agg #[.string ⟨#[103, 111, 111, 100]⟩, .string ⟨#[115, 97, 118, 101, 100]⟩, .string ⟨#[115, 99, 114, 97, 112, 112, 101, 100]⟩]) (.int .i64 2)).run Tryz.prog w = .ok (.string ⟨#[115, 99, 114, 97, 112, 112, 101, 100]⟩) w := fun _ => by kernel_rfl
  go_enter Tryz.func9, Tryz.ntmps9
  go_wp2
  go_rounds 4
  all_goals
    go_ret
    exact ⟨ret_int (by simp [endN, *]), rfl⟩
end Go.Proofs.YtcofjoacehacjaaGreatDoor
