/- Chapter 23: RunOpen, by the specification and by the program. -/
import Derived.Test.YtkapodkidlgkjafKr3
import Derived.Test.YtkapodkidlgkjafKt0
import Derived.Test.YtkapodkidlgkjafBy6
namespace Go.Proofs.Ytkapodkidlgkjaf
open Go.RowKit

theorem sizeHouse0 : (Try.prog.info? 30).map (·.size) = some 6 := by kernel_rfl
noncomputable def opB (ls : List ByteArray) : Bool := bookB ⟨ls, []⟩
noncomputable def opL (ls : List ByteArray) : List ByteArray := if opB ls = true then ls else []
theorem opL_yes {ls : List ByteArray} (h : opB ls = true) : opL ls = ls := by rw [opL, if_pos h]
theorem opL_no {ls : List ByteArray} (h : opB ls = false) : opL ls = [] := by rw [opL, if_neg (by simp [h])]
theorem opL_len (ls : List ByteArray) : (opL ls).length ≤ 8 := by
  cases h : opB ls
  · rw [opL_no h]; simp
  · rw [opL_yes h]
    exact (pB_iff.1 h).1.1
theorem opL_sz {ls : List ByteArray} (h : ∀ s ∈ ls, s.size ≤ maxLen) : ∀ s ∈ opL ls, s.size ≤ maxLen := fun s hs => by
  cases ho : opB ls
  · rw [opL_no ho] at hs; simp at hs
  · rw [opL_yes ho] at hs; exact h s hs
theorem opL_oks {ls : List ByteArray} : opL (opL ls) = opL ls := by
  cases ho : opB ls
  · rw [opL_no ho, opL]; split <;> rfl
  · rw [opL_yes ho, opL_yes ho]
/-- A house that has things alone, a list of its own. -/
def OpV (w : World) (base : Nat) (v : Value) (ls : List ByteArray) : Prop := ∃ a1 c1 a2 c2, v = .agg #[.int .i64 0, .int .i64 0, .slice a1 ls.length c1, .slice a2 0 c2, .slice none 0 0, .slice none 0 0] ∧ OwnT w base (.slice a1 ls.length c1) ls
theorem OpV.up {w w' : World} {base : Nat} {v : Value} {ls : List ByteArray} (h : OpV w base v ls) (hb : Below w.heap.size w w') : OpV w' base v ls := by
  obtain ⟨a1, c1, a2, c2, e, h1⟩ := h
  exact ⟨a1, c1, a2, c2, e, h1.up hb⟩
theorem opV_none (w : World) (base : Nat) : OpV w base (.agg #[.int .i64 0, .int .i64 0, .slice none 0 0, .slice none 0 0, .slice none 0 0, .slice none 0 0]) [] := ⟨none, 0, none, 0, rfl, World.ownsRow_nil _ _ _ _⟩
theorem bk_things {w : World} {a1 a2 : Option Addr} {c1 c2 : Nat} {ls : List ByteArray} (h : Ls w (.slice a1 ls.length c1) ls) : BkV w (.agg #[.slice a1 ls.length c1, .slice a2 0 c2]) ⟨ls, []⟩ :=
  ⟨_, _, rfl, h, a2, c2, rfl, by simp, fun h => by simp at h⟩

set_option maxRecDepth 20000 in
set_option maxHeartbeats 4000000 in
theorem specOpen_any (ls : List ByteArray) (lv : Value) (w : World) (hl : Ls w lv ls) (hn : ls.length ≤ 1048576) :
    Calls Try.prog 5 #[lv] w fun e w' => (∃ u, e = .returned (.tuple #[u, .bool (opB ls)]) ∧ OpV w' w.heap.size u (opL ls)) ∧ Below w.heap.size w w' := by
  obtain ⟨al, cl, rfl, -, hlz, -⟩ := id hl
  go_enter Try.func5, Try.ntmps5
  go_upto_region 1 with fail
  obtain ⟨W1, hW1, kR, hB1, hs1⟩ : ∃ W1, w.alloc (.cells #[.int .i64 0, .int .i64 0, .slice none 0 0, .slice none 0 0, .slice none 0 0, .slice none 0 0] 30) = W1 ∧ CB W1 w.heap.size [.int .i64 0, .int .i64 0, .slice none 0 0, .slice none 0 0, .slice none 0 0, .slice none 0 0] ∧ Below w.heap.size w W1 ∧ W1.heap.size = w.heap.size + 1 := ⟨_, rfl, cb1 w _ _⟩
  rw [hW1]
  clear hW1
  go_wp2_with fail
  refine (names11_any ls _ _ (hl.up hB1) hn).mono ?_
  rintro e w2 ⟨⟨u, rfl, hou, -⟩, hb2⟩
  obtain ⟨a1, c1, rfl⟩ := hou.lst.shape
  have hz2 := hb2.size
  have kR := kR.up hb2 (by omega)
  have hB2 := up_trans hB1 hb2
  clear hb2 hB1
  go_upto_region 2 with fail
  obtain ⟨W3, hW3, kX, hb3, hs3⟩ : ∃ W3, w2.alloc (.cells #[.slice a1 ls.length c1, .slice none 0 0] 26) = W3 ∧ CB W3 w2.heap.size [.slice a1 ls.length c1, .slice none 0 0] ∧ Below w2.heap.size w2 W3 ∧ W3.heap.size = w2.heap.size + 1 := ⟨_, rfl, cb1 w2 _ _⟩
  try rw [hW3]
  clear hW3
  have kR := kR.up hb3 (by omega)
  have hB3 := up_trans hB2 hb3
  have hou := hou.up hb3
  have hL := hou.lst.ls hlz
  clear hB2 hb3
  obtain ⟨z0, z1⟩ := kX.c2'
  go_wp2_with fail
  refine (specBook_any ⟨ls, []⟩ _ _ (bk_things hL)).mono ?_
  rintro e w4 ⟨rfl, hb4⟩
  have hz4 := hb4.size
  have kR := kR.up hb4 (by omega)
  have kX := kX.up hb4 (by omega)
  have hB4 := up_trans hB3 hb4
  have hou := hou.up hb4
  clear z0 z1 hB3 hb4 hL
  have hbase : w.heap.size < W1.heap.size := by omega
  obtain ⟨⟨y0, y1, y2, y3, y4, y5⟩, g0, g1, g2, g3, g4, g5⟩ := (⟨kR.c6, kR.f6⟩ : _ ∧ _)
  cases hb : bookB ⟨ls, []⟩
  · have ho : opB ls = false := hb
    go_wp2_with fail
    refine end_cb6b Try.results5 Try.underlying30 rfl sizeHouse0 kR rfl rfl ?_
    rw [ho, opL_no ho]
    exact ⟨⟨_, rfl, opV_none _ _⟩, below_set6 hB4 (Nat.le_refl _) _ _ _ _ _ _⟩
  · have ho : opB ls = true := hb
    obtain ⟨z0, z1⟩ := kX.c2'
    go_wp2_with fail
    refine end_cb6b Try.results5 Try.underlying30 rfl sizeHouse0 kR rfl rfl ?_
    rw [ho, opL_yes ho]
    refine ⟨⟨_, rfl, _, _, _, _, rfl, ?_⟩, below_set6 hB4 (Nat.le_refl _) _ _ _ _ _ _⟩
    exact own_low (own_set6 hou hbase) (by omega)
set_option maxRecDepth 20000 in
set_option maxHeartbeats 4000000 in
theorem openP_any (ls : List ByteArray) (lv : Value) (w : World) (hl : Ls w lv ls) :
    Calls Try.prog 7 #[lv] w fun e w' => (∃ u, e = .returned (.tuple #[u, .bool (opB ls)]) ∧ OpV w' w.heap.size u (opL ls)) ∧ Below w.heap.size w w' := by
  obtain ⟨al, cl, rfl, -, hlz, -⟩ := id hl
  go_enter Try.func7, Try.ntmps7
  go_upto_region 2 with fail
  obtain ⟨W1, hW1, kR, kX, hB1, hs1⟩ : ∃ W1, (w.alloc (.cells #[.int .i64 0, .int .i64 0, .slice none 0 0, .slice none 0 0, .slice none 0 0, .slice none 0 0] 30)).alloc (.cells #[.slice al ls.length cl, .slice none 0 0] 26) = W1 ∧ CB W1 w.heap.size [.int .i64 0, .int .i64 0, .slice none 0 0, .slice none 0 0, .slice none 0 0, .slice none 0 0] ∧ CB W1 (w.heap.size + 1) [.slice al ls.length cl, .slice none 0 0] ∧ Below w.heap.size w W1 ∧ W1.heap.size = w.heap.size + 2 := ⟨_, rfl, cb2 w _ _ _ _⟩
  try rw [hW1]
  clear hW1
  have hL := hl.up hB1
  obtain ⟨z0, z1⟩ := kX.c2'
  go_wp2_with fail
  refine (bookOk_any ⟨ls, []⟩ _ _ (bk_things hL)).mono ?_
  rintro e w2 ⟨rfl, hb2⟩
  have hz2 := hb2.size
  have kR := kR.up hb2 (by omega)
  have kX := kX.up hb2 (by omega)
  have hB2 := up_trans hB1 hb2
  have hL := hL.up hb2
  clear z0 z1 hB1 hb2
  cases hb : bookB ⟨ls, []⟩
  · have ho : opB ls = false := hb
    obtain ⟨⟨y0, y1, y2, y3, y4, y5⟩, g0, g1, g2, g3, g4, g5⟩ := (⟨kR.c6, kR.f6⟩ : _ ∧ _)
    go_wp2_with fail
    refine end_cb6b Try.results7 Try.underlying30 rfl sizeHouse0 kR rfl rfl ?_
    rw [ho, opL_no ho]
    exact ⟨⟨_, rfl, opV_none _ _⟩, below_set6 hB2 (Nat.le_refl _) _ _ _ _ _ _⟩
  · have ho : opB ls = true := hb
    have h8 : ls.length ≤ 8 := by have := opL_len ls; rwa [opL_yes ho] at this
    obtain ⟨z0, z1⟩ := kX.c2'
    go_wp2_with fail
    refine (copyP_any ⟨ls, []⟩ _ _ (bk_things hL) (by show ls.length ≤ 100; omega) (by simp) (fun y hy => by simp at hy)).mono ?_
    rintro e w3 ⟨⟨a1, c1, a2, c2, ps, rfl, -, -, hF⟩, hb3⟩
    have hou : OwnT w3 w2.heap.size (.slice a1 ls.length c1) ls := hF.own _ List.mem_cons_self
    have kR := kR.up hb3 (by omega)
    have hB3 := up_trans hB2 hb3
    have hbase : w.heap.size < w2.heap.size := by omega
    clear z0 z1 hF
    obtain ⟨⟨y0, y1, y2, y3, y4, y5⟩, g0, g1, g2, g3, g4, g5⟩ := (⟨kR.c6, kR.f6⟩ : _ ∧ _)
    go_wp2_with fail
    refine end_cb6b Try.results7 Try.underlying30 rfl sizeHouse0 kR rfl rfl ?_
    rw [ho, opL_yes ho]
    refine ⟨⟨_, rfl, _, _, _, _, rfl, ?_⟩, below_set6 hB3 (Nat.le_refl _) _ _ _ _ _ _⟩
    exact own_low (own_set6 hou hbase) (by omega)
end Go.Proofs.Ytkapodkidlgkjaf
