/- The program's slots of a phase alone. -/
import Derived.Test.YtcofjoacehacjaaGreatDoorWc
import Derived.Test.YtcofjoacehacjaaGreatDoorJ4
import Derived.Test.YtcofjoacehacjaaGreatDoorJ26
import Derived.Test.YtcofjoacehacjaaGreatDoorJ33
namespace Go.Proofs.YtcofjoacehacjaaGreatDoor
open Go.RowKit

theorem txt_lit (w : World) (ss : List ByteArray) (hl : ss.length ≤ 100) : Txt (w.alloc (.cells (ss.map Value.string).toArray 9)) (.slice (some ⟨w.heap.size, 0, none⟩) ss.length ss.length) ss :=
  ⟨w.heap.size, ss.length, rfl, strsAt_alloc w ss 9, by simp, Nat.le_refl _, by unfold maxLen; omega⟩
def ownB (p : Ph) : List ByteArray := if p.k = 2 then [p.a, p.b] else [p.a]
theorem own_keys (p : Ph) : keys (ownB p) = ownK p := by unfold ownB ownK keys; split <;> rfl

theorem slFill (s t : ByteArray) (w : World) :
    Calls Tryz.prog 113 #[.agg #[.string s, .string t]] w fun e w' => (∃ u, e = .returned u ∧ Txt w' u [s]) ∧ Below w.heap.size w w' := by
  have hB : Below w.heap.size w (w.alloc (.cells #[.string s, .string t] 117)) := (Below.refl _ _).alloc (Nat.le_refl _) _
  have hT := txt_lit (w.alloc (.cells #[.string s, .string t] 117)) [s] (by simp)
  rw [show (w.alloc (.cells #[.string s, .string t] 117)).heap.size = w.heap.size + 1 by simp] at hT
  have hB1 := up_trans hB ((Below.refl _ _).alloc (Nat.le_refl _) (.cells (([s] : List ByteArray).map Value.string).toArray 9))
  go_enter Tryz.func113, Tryz.ntmps113
  go_wp2_with fail
  go_ret
  exact ⟨⟨_, rfl, hT⟩, hB1⟩
theorem slMove (s t : ByteArray) (w : World) :
    Calls Tryz.prog 116 #[.agg #[.string s, .string t]] w fun e w' => (∃ u, e = .returned u ∧ Txt w' u [s, t]) ∧ Below w.heap.size w w' := by
  have hB : Below w.heap.size w (w.alloc (.cells #[.string s, .string t] 119)) := (Below.refl _ _).alloc (Nat.le_refl _) _
  have hT := txt_lit (w.alloc (.cells #[.string s, .string t] 119)) [s, t] (by simp)
  rw [show (w.alloc (.cells #[.string s, .string t] 119)).heap.size = w.heap.size + 1 by simp] at hT
  have hB1 := up_trans hB ((Below.refl _ _).alloc (Nat.le_refl _) (.cells (([s, t] : List ByteArray).map Value.string).toArray 9))
  go_enter Tryz.func116, Tryz.ntmps116
  go_wp2_with fail
  go_ret
  exact ⟨⟨_, rfl, hT⟩, hB1⟩
theorem slHold (s : ByteArray) (n : Int) (w : World) :
    Calls Tryz.prog 118 #[.agg #[.string s, .int .i64 n]] w fun e w' => (∃ u, e = .returned u ∧ Txt w' u [s]) ∧ Below w.heap.size w w' := by
  have hB : Below w.heap.size w (w.alloc (.cells #[.string s, .int .i64 n] 121)) := (Below.refl _ _).alloc (Nat.le_refl _) _
  have hT := txt_lit (w.alloc (.cells #[.string s, .int .i64 n] 121)) [s] (by simp)
  rw [show (w.alloc (.cells #[.string s, .int .i64 n] 121)).heap.size = w.heap.size + 1 by simp] at hT
  have hB1 := up_trans hB ((Below.refl _ _).alloc (Nat.le_refl _) (.cells (([s] : List ByteArray).map Value.string).toArray 9))
  go_enter Tryz.func118, Tryz.ntmps118
  go_wp2_with fail
  go_ret
  exact ⟨⟨_, rfl, hT⟩, hB1⟩
theorem slClean (s : ByteArray) (w : World) :
    Calls Tryz.prog 119 #[.agg #[.string s]] w fun e w' => (∃ u, e = .returned u ∧ Txt w' u [s]) ∧ Below w.heap.size w w' := by
  have hB : Below w.heap.size w (w.alloc (.cells #[.string s] 123)) := (Below.refl _ _).alloc (Nat.le_refl _) _
  have hT := txt_lit (w.alloc (.cells #[.string s] 123)) [s] (by simp)
  rw [show (w.alloc (.cells #[.string s] 123)).heap.size = w.heap.size + 1 by simp] at hT
  have hB1 := up_trans hB ((Below.refl _ _).alloc (Nat.le_refl _) (.cells (([s] : List ByteArray).map Value.string).toArray 9))
  go_enter Tryz.func119, Tryz.ntmps119
  go_wp2_with fail
  go_ret
  exact ⟨⟨_, rfl, hT⟩, hB1⟩
theorem slTest (s : ByteArray) (w : World) :
    Calls Tryz.prog 120 #[.agg #[.string s]] w fun e w' => (∃ u, e = .returned u ∧ Txt w' u [s]) ∧ Below w.heap.size w w' := by
  have hB : Below w.heap.size w (w.alloc (.cells #[.string s] 124)) := (Below.refl _ _).alloc (Nat.le_refl _) _
  have hT := txt_lit (w.alloc (.cells #[.string s] 124)) [s] (by simp)
  rw [show (w.alloc (.cells #[.string s] 124)).heap.size = w.heap.size + 1 by simp] at hT
  have hB1 := up_trans hB ((Below.refl _ _).alloc (Nat.le_refl _) (.cells (([s] : List ByteArray).map Value.string).toArray 9))
  go_enter Tryz.func120, Tryz.ntmps120
  go_wp2_with fail
  go_ret
  exact ⟨⟨_, rfl, hT⟩, hB1⟩

theorem phSlots_any (p : Ph) (w : World) (hk : 1 ≤ p.k ∧ p.k ≤ 5) :
    Calls Tryz.prog 58 #[.agg #[.string p.nm, .int .i64 p.k, .string p.a, .string p.b, .int .i64 p.n, .int .i64 p.wi, .string p.t, .string p.e]] w fun e w' => (∃ u, e = .returned u ∧ Txt w' u (ownB p)) ∧ Below w.heap.size w w' := by
  obtain ⟨pn, pk, pa, pb, pm, pw, pt, pe⟩ := p
  simp only at hk ⊢
  have hBx : Below w.heap.size w (w.alloc (.cells #[.string pn, .int .i64 pk, .string pa, .string pb, .int .i64 pm, .int .i64 pw, .string pt, .string pe] 37)) := (Below.refl _ _).alloc (Nat.le_refl _) _
  rcases (by omega : pk = 1 ∨ pk = 2 ∨ pk = 3 ∨ pk = 4 ∨ pk = 5) with rfl | rfl | rfl | rfl | rfl
  · go_enter Tryz.func58, Tryz.ntmps58
    go_wp2_with fail
    refine (workFill _ _ _ _ _ _ _ _).mono ?_
    rintro e w1 ⟨rfl, hb1⟩
    have hB1 := up_trans hBx hb1
    go_wp2_with fail
    refine (slFill _ _ _).mono ?_
    rintro e w2 ⟨⟨u, rfl, hT⟩, hb2⟩
    have hB2 := up_trans hB1 hb2
    go_wp2_with fail
    go_ret
    exact ⟨⟨_, rfl, hT⟩, hB2⟩
  · go_enter Tryz.func58, Tryz.ntmps58
    go_wp2_with fail
    refine (workMove _ _ _ _ _ _ _ _).mono ?_
    rintro e w1 ⟨rfl, hb1⟩
    have hB1 := up_trans hBx hb1
    go_wp2_with fail
    refine (slMove _ _ _).mono ?_
    rintro e w2 ⟨⟨u, rfl, hT⟩, hb2⟩
    have hB2 := up_trans hB1 hb2
    go_wp2_with fail
    go_ret
    exact ⟨⟨_, rfl, hT⟩, hB2⟩
  · go_enter Tryz.func58, Tryz.ntmps58
    go_wp2_with fail
    refine (workHold _ _ _ _ _ _ _ _).mono ?_
    rintro e w1 ⟨rfl, hb1⟩
    have hB1 := up_trans hBx hb1
    go_wp2_with fail
    refine (slHold _ _ _).mono ?_
    rintro e w2 ⟨⟨u, rfl, hT⟩, hb2⟩
    have hB2 := up_trans hB1 hb2
    go_wp2_with fail
    go_ret
    exact ⟨⟨_, rfl, hT⟩, hB2⟩
  · go_enter Tryz.func58, Tryz.ntmps58
    go_wp2_with fail
    refine (workClean _ _ _ _ _ _ _ _).mono ?_
    rintro e w1 ⟨rfl, hb1⟩
    have hB1 := up_trans hBx hb1
    go_wp2_with fail
    refine (slClean _ _).mono ?_
    rintro e w2 ⟨⟨u, rfl, hT⟩, hb2⟩
    have hB2 := up_trans hB1 hb2
    go_wp2_with fail
    go_ret
    exact ⟨⟨_, rfl, hT⟩, hB2⟩
  · go_enter Tryz.func58, Tryz.ntmps58
    go_wp2_with fail
    refine (workTest _ _ _ _ _ _ _ _).mono ?_
    rintro e w1 ⟨rfl, hb1⟩
    have hB1 := up_trans hBx hb1
    go_wp2_with fail
    refine (slTest _ _).mono ?_
    rintro e w2 ⟨⟨u, rfl, hT⟩, hb2⟩
    have hB2 := up_trans hB1 hb2
    go_wp2_with fail
    go_ret
    exact ⟨⟨_, rfl, hT⟩, hB2⟩
end Go.Proofs.YtcofjoacehacjaaGreatDoor
