/- The specification's slots: lists joined; a phase's own. -/
import Derived.Test.YtkapodkidlgkjafGreatDoorSp1
import Derived.Test.YtkapodkidlgkjafGreatDoorJ6
namespace Go.Proofs.YtkapodkidlgkjafGreatDoor
open Go.RowKit


set_option maxHeartbeats 1000000 in
theorem both_any (a b : List ByteArray) (va vb : Value) (w : World) (ha : Txt w va a) (hb : Txt w vb b) (hn : a.length + b.length ≤ 900) :
    Calls Tryz.prog 166 #[va, vb] w fun e w' => (∃ u, e = .returned u ∧ Txt w' u (bothL a b)) ∧ Below w.heap.size w w' := by
  have hb' := hb
  obtain ⟨g, c, rfl, hS, hg, hc, hc9⟩ := hb
  go_enter Tryz.func166, Tryz.ntmps166
  go_wp2_with fail
  go_loopw [0, 5] (fun u i w' => ∃ k : Nat, k ≤ b.length ∧ i = .int .i64 k ∧ Txt w' u (bothL a (b.take k)) ∧ Below w.heap.size w w') (fun _ i _ => b.length - (intOf i).toNat)
  case atStart => exact ⟨0, by omega, rfl, by simpa [bothL] using ha, Below.refl _ _⟩
  case round =>
    obtain ⟨k, hk, rfl, hT, hB⟩ := hrel
    by_cases hp : k < b.length
    · have c0 := (hB.cell (p := ⟨g, 0 + k, none⟩) hg).trans (hS k b[k] (by simp [hp]))
      simp only [Nat.zero_add] at c0
      have hl := bothL_len a (b.take k)
      rw [List.length_take] at hl
      go_wp2_with fail
      refine (insert_any (bothL a (b.take k)) _ b[k] _ hT (by omega)).mono ?_
      rintro e w1 ⟨⟨u, rfl, hT1⟩, hB1⟩
      have hB2 := up_trans hB hB1
      rw [← bothL_take a b k hp] at hT1
      clear hB hB1 hT c0
      go_wp2_with fail
      go_roundw
      case rel => exact ⟨k + 1, by omega, by go_num, hT1, hB2⟩
      case measure => simp [intOf]; omega
    · go_wp2_with fail
      go_ret
      exact ⟨⟨_, rfl, by rw [List.take_of_length_le (by omega)] at hT; exact hT⟩, hB⟩

theorem txt_one (w : World) (s : ByteArray) : Txt (w.alloc (.cells #[.string s] 9)) (.slice (some ⟨w.heap.size, 0, none⟩) 1 1) [s] :=
  ⟨w.heap.size, 1, rfl, strsAt_alloc w [s] 9, by simp, by simp, by unfold maxLen; omega⟩
set_option maxHeartbeats 1000000 in
theorem of_any2 (p : Ph) (w : World) :
    Calls Tryz.prog 37 #[.agg #[.string p.nm, .int .i64 p.k, .string p.a, .string p.b, .int .i64 p.n, .int .i64 p.wi, .string p.t, .string p.e]] w fun e w' => (∃ u, e = .returned u ∧ Txt w' u (ofL p)) ∧ Below w.heap.size w w' := by
  obtain ⟨pn, pk, pa, pb, pm, pw, pt, pe⟩ := p
  simp only
  have hB0 : Below w.heap.size w (w.alloc (.cells #[.string pn, .int .i64 pk, .string pa, .string pb, .int .i64 pm, .int .i64 pw, .string pt, .string pe] 75)) := (Below.refl _ _).alloc (Nat.le_refl _) _
  have hT0 := txt_one (w.alloc (.cells #[.string pn, .int .i64 pk, .string pa, .string pb, .int .i64 pm, .int .i64 pw, .string pt, .string pe] 75)) pa
  have hB1 := up_trans hB0 ((Below.refl _ _).alloc (Nat.le_refl _) (.cells #[.string pa] 9))
  rw [show (w.alloc (.cells #[.string pn, .int .i64 pk, .string pa, .string pb, .int .i64 pm, .int .i64 pw, .string pt, .string pe] 75)).heap.size = w.heap.size + 1 by simp] at hT0
  by_cases hk : pk = 2
  · subst hk
    go_enter Tryz.func37, Tryz.ntmps37
    go_wp2_with fail
    refine (insert_any [pa] _ pb _ hT0 (by simp)).mono ?_
    rintro e w1 ⟨⟨u, rfl, hT1⟩, hb1⟩
    have hB2 := up_trans hB1 hb1
    clear hB0 hB1 hb1 hT0
    go_wp2_with fail
    go_ret
    exact ⟨⟨_, rfl, hT1⟩, hB2⟩
  · have hk2 : (pk == 2) = false := by simpa using hk
    have Ho : Hid (ofL ⟨pn, pk, pa, pb, pm, pw, pt, pe⟩ = [pa]) := by show _ = _; rw [ofL, if_neg hk]
    go_enter Tryz.func37, Tryz.ntmps37
    go_wp2_with fail
    go_ret
    exact ⟨⟨_, rfl, by rw [Ho.out]; exact hT0⟩, hB1⟩
end Go.Proofs.YtkapodkidlgkjafGreatDoor
