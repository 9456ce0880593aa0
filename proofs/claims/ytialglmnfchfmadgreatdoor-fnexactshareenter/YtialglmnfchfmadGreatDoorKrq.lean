/- The program's ShareEnter. -/
import Derived.Test.YtialglmnfchfmadGreatDoorKrp
namespace Go.Proofs.YtialglmnfchfmadGreatDoor
open Go.RowKit

theorem ent_part {b : Bk} {nm : ByteArray} {ls : List ByteArray} (h : entR b nm ls = 0) : PartOk ls b.things ∧ ¬ 5 ≤ b.bs.length := by
  unfold entR at h
  split at h
  · omega
  · rename_i h1
    split at h
    · omega
    · split at h
      · omega
      · rename_i h2
        refine ⟨pB_iff.1 ?_, h2⟩
        cases hp : pB (PartOk ls b.things)
        · rw [hp, Bool.and_false] at h1; exact absurd rfl h1
        · rfl
theorem ent_short {b : Bk} {nm : ByteArray} {ls : List ByteArray} (hok : BookOk b) (h : entR b nm ls = 0) : ls.length ≤ 8 := by
  have h1 := part_short (ent_part h).1
  have h2 := (ok_small hok).1
  omega
theorem enter_cases (b : Bk) (nm : ByteArray) (ls : List ByteArray) : enterB b nm ls = nobody ∨ (BookOk b ∧ enterB b nm ls = b) ∨ (BookOk b ∧ ls.length ≤ 8 ∧ enterB b nm ls = ⟨b.things, b.bs.take (inN b nm) ++ ⟨nm, [], ls⟩ :: b.bs.drop (inN b nm)⟩) := by
  rw [← (enter_asked b nm ls).2]
  cases hb : bookB b
  · exact .inl (by simp [askedB, hb])
  · by_cases hc : entR b nm ls = 0
    · exact .inr (.inr ⟨book_ok hb, ent_short (book_ok hb) hc, by simp [askedB, hb, hc]⟩)
    · exact .inr (.inl ⟨book_ok hb, by simp [askedB, hb, hc]⟩)
theorem ins_mem {bs : List Ba} {k : Nat} {x y : Ba} (h : y ∈ bs.take k ++ x :: bs.drop k) : y ∈ bs ∨ y = x := by
  rcases List.mem_append.1 h with h | h
  · exact .inl (List.mem_of_mem_take h)
  · rcases List.mem_cons.1 h with h | h
    · exact .inr h
    · exact .inl (List.mem_of_mem_drop h)
theorem szb_enter {b : Bk} {nm : ByteArray} {ls : List ByteArray} (h : Szb b) (hn : ∀ s ∈ ls, s.size ≤ maxLen) : Szb (enterB b nm ls) := by
  rcases enter_cases b nm ls with e | ⟨-, e⟩ | ⟨-, -, e⟩ <;> rw [e]
  · exact szb_none
  · exact h
  · refine ⟨h.1, fun x hx => ?_⟩
    rcases ins_mem hx with k | k
    · exact h.2 x k
    · subst k; exact ⟨fun s hs => by simp at hs, hn⟩
set_option maxRecDepth 20000 in
set_option maxHeartbeats 2000000 in
theorem enterP_any (b : Bk) (v : Value) (nm : ByteArray) (lv : Value) (ls : List ByteArray) (w : World) (h : BkV w v b) (hl : Ls w lv ls) (hnz : nm.size ≤ maxLen) (hg : ErrT w) :
    Calls Tryz.prog 10 #[v, .string nm, lv] w fun e w' => (∃ u, e = .returned (.tuple #[u, .int .i64 (enterC b nm ls)]) ∧ BkF w' w.heap.size u (enterB b nm ls)) ∧ Below w.heap.size w w' := by
  have hA : ∀ W, Below w.heap.size w W → Calls Tryz.prog 26 #[v, .iface 52 (.agg #[.string nm, lv])] W fun e w' => (∃ u, e = .returned (.tuple #[u, .int .i64 (enterC b nm ls)]) ∧ BkF w' W.heap.size u (enterB b nm ls)) ∧ Below W.heap.size W w' := fun W hW => by
    refine answer_any b v nm _ _ (enterC b nm ls) (enterB b nm ls) W (h.up hW) (hg.up hW) fun X hX => ?_
    obtain ⟨e1, e2⟩ := enter_asked b nm ls
    rw [← e1, ← e2]
    exact try_any b v nm _ _ 102 (entR b nm ls) _ X ((h.up hW).up hX) (fun n w => as_whoE n _ _ w) (fun n w => as_refE n _ _ w) ru_E
      (fun hok Y hY => enterRef_any b v nm lv ls Y (((h.up hW).up hX).up hY) hok (((hl.up hW).up hX).up hY) hnz)
      (fun hok hc Y hY => doneEnter_any b v nm lv ls Y (((h.up hW).up hX).up hY) (((hl.up hW).up hX).up hY) (by have := ent_short hok hc; omega) hnz hok)
  obtain ⟨a1, c1, a2, c2, rfl, -, -⟩ := h.parts
  obtain ⟨la, lc, rfl, -⟩ := id hl
  have HA : Hid (∀ W, Below w.heap.size w W → Calls Tryz.prog 26 #[.agg #[.slice a1 b.things.length c1, .slice a2 b.bs.length c2], .iface 52 (.agg #[.string nm, .slice la ls.length lc])] W fun e w' => (∃ u, e = .returned (.tuple #[u, .int .i64 (enterC b nm ls)]) ∧ BkF w' W.heap.size u (enterB b nm ls)) ∧ Below W.heap.size W w') := hA
  clear hA h hg hl
  obtain ⟨W1, hW1, kA, kR, hB1, hs1⟩ : ∃ W1, (w.alloc (.cells #[.slice a1 (b).things.length c1, .slice a2 (b).bs.length c2] 30)).alloc (.cells #[.slice none 0 0, .slice none 0 0] 30) = W1 ∧ CB W1 w.heap.size [.slice a1 b.things.length c1, .slice a2 b.bs.length c2] ∧ CB W1 (w.heap.size + 1) [.slice none 0 0, .slice none 0 0] ∧ Below w.heap.size w W1 ∧ W1.heap.size = w.heap.size + 2 := ⟨_, rfl, cb2 w _ _ _ _⟩
  go_enter Tryz.func10, Tryz.ntmps10
  go_upto_region 1 with fail
  try rw [hW1]
  clear hW1
  obtain ⟨e0, e1⟩ := kA.c2'
  go_wp2_with fail
  refine (HA.out _ hB1).mono ?_
  rintro e w2 ⟨⟨u, rfl, hu⟩, hb2⟩
  have kR2 := kR.up hb2 (by omega)
  have hB2 := up_trans hB1 hb2
  obtain ⟨i1, j1, i2, j2, rfl⟩ := hu.shape
  clear e0 e1 kA kR hB1 hb2 HA
  obtain ⟨⟨y0, y1⟩, q0, q1⟩ := kR2.c2
  go_wp2_with fail
  refine end_cb2b Tryz.results10 Tryz.underlying30 rfl sizeBk1 kR2 rfl rfl ?_
  exact ⟨⟨_, rfl, ((hu.set (by omega)).set (by omega)).low (by omega)⟩, below_set2 hB2 (Nat.le_succ _) _ _⟩
end Go.Proofs.YtialglmnfchfmadGreatDoor
