/- The program's chapter 13: a batch taken out of a row. -/
import Derived.Test.YtkgbdjdgcacblaaGreatDoorJ4
import Derived.Test.YtkgbdjdgcacblaaGreatDoorXr
namespace Go.Proofs.YtkgbdjdgcacblaaGreatDoor
open Go.RowKit

theorem step_append_run {P : Program} {ops : Array Oper} {o : Oper} {a : Act} {w : World} {K : Act → World → Prop} {Q : Exit → Act → World → Prop} {E : Prop}
    (hw : Region.wanted o (yielded ops a.tmps) = true) (s x : Operand) (t u : TypeId) (hop : o.op = Op.call { callee := Callee.builtin Builtin.append, args := #[s, x], argTypes := #[t, u] })
    (v xv v' : Value) (w' : World) (hs : a.eval s = v) (hx : a.eval x = xv) (hr : (Builtin.append_ #[t, u] o.type #[v, xv]).run P w = .ok v' w') (hK : K (a.put o.dst v') w') :
    if Region.wanted o (yielded ops a.tmps) = true then Oper.wp P o a w K Q else E := by
  rw [if_pos hw]
  unfold Oper.wp
  simp [execOp, hop, resolve, invoke, builtin, hs, hx, hr, Result.andThen]
  exact hK
theorem wpList_clear_run {P : Program} (w : World) {ops : Array Oper} {rest : List Oper} {o : Oper} {ac : Act} {Q : Exit → Act → World → Prop} (hg : o.guard = none) (x : Operand) (t : TypeId) (hop : o.op = .call { callee := .builtin .clear, args := #[x], argTypes := #[t] })
    (xv v' : Value) (w' : World) (hx : ac.eval x = xv) (hr : (Builtin.clear_ #[t] o.type #[xv]).run P w = .ok v' w') (h : wpList P ops Q rest (ac.put o.dst v') w') : wpList P ops Q (o :: rest) ac w := by
  refine wpList_plain hg fun K hK => ?_
  unfold Oper.wp
  simp [execOp, hop, resolve, invoke, builtin, hx, hr, Result.andThen]
  exact hK _ _ h
/-- A row of one's own, cut short. -/
theorem own_take {w : World} {base e size n m c g : Nat} {xs : List Value} (h : w.ownsRow base e size (.slice (some ⟨g, 0, none⟩) n c) n xs) (hm : m ≤ n) : w.ownsRow base e size (.slice (some ⟨g, 0, none⟩) m c) m (xs.take (m * size)) := by
  refine ⟨?_, ?_⟩
  · rw [List.length_take, h.1]
    exact Nat.min_eq_left (Nat.mul_le_mul_right _ hm)
  · rcases h.2 with ⟨h0, _⟩ | ⟨g', cap, cur, h', h1, h2, h3, h4, h5, h6⟩
    · simp at h0
    · obtain ⟨e1, -, rfl⟩ := Value.slice.inj h'
      obtain rfl : g = g' := by simpa using e1
      refine .inr ⟨g, c, cur, rfl, h1, h2, by omega, h4, h5, ?_⟩
      rw [← h6, List.take_take, Nat.min_eq_left (Nat.mul_le_mul_right _ hm)]
theorem own_room {w : World} {base e size n c g : Nat} {xs : List Value} (h : w.ownsRow base e size (.slice (some ⟨g, 0, none⟩) n c) n xs) (j : Nat) (hj : j < c * size) : (∃ u, w.cell? ⟨g, j, none⟩ = some u) ∧ w.frozen? ⟨g, j, none⟩ = false := by
  refine ⟨?_, h.frozenAt j⟩
  rcases h.2 with ⟨h0, _⟩ | ⟨g', cap, cur, h', h1, h2, h3, h4, h5, h6⟩
  · simp at h0
  · obtain ⟨e1, -, rfl⟩ := Value.slice.inj h'
    obtain rfl : g = g' := by simpa using e1
    rw [cell_of_row w g j cur e (0, 0) h2]
    exact ⟨cur[j]'(by omega), Array.getElem?_eq_getElem (by omega)⟩
/-- One batch cleared, behind a row's end. -/
theorem run_clear1 {w : World} {base n c g : Nat} {xs : List Value} (h : w.ownsRow base 45 3 (.slice (some ⟨g, 0, none⟩) n c) n xs) (hn : n < c) (cc : Nat) (ty : TypeId) :
    ∃ w', (Builtin.clear_ #[24] ty #[.slice (some ⟨g, n * 3, none⟩) 1 cc]).run Tryz.prog w = .ok (.tuple #[]) w' ∧ w'.ownsRow base 45 3 (.slice (some ⟨g, 0, none⟩) n c) n xs ∧ w.grownBy w' (some g) := by
  have st : ∀ (W : World), W.ownsRow base 45 3 (.slice (some ⟨g, 0, none⟩) n c) n xs → ∀ (j : Nat) (u : Value), u.oneCell' = true → j < 3 → (store ⟨g, n * 3 + j, none⟩ u).run Tryz.prog W = .ok () (W.setCell ⟨g, n * 3 + j, none⟩ u) ∧ (W.setCell ⟨g, n * 3 + j, none⟩ u).ownsRow base 45 3 (.slice (some ⟨g, 0, none⟩) n c) n xs ∧ W.grownBy (W.setCell ⟨g, n * 3 + j, none⟩ u) (some g) := fun W hW j u hu hj => by
    obtain ⟨⟨old, ho⟩, hf⟩ := own_room hW (n * 3 + j) (by omega)
    obtain ⟨s1, s2⟩ := World.ownsRow.stored hW (n * 3 + j) u
    have hl := hW.1
    rw [List.set_eq_of_length_le (by omega)] at s1
    refine ⟨?_, s1, s2⟩
    rw [run_store Tryz.prog W ⟨g, n * 3 + j, none⟩ _ _ hu]
    simp [ho, hf]
  obtain ⟨r0, o0, g0⟩ := st w h 0 (.string ⟨#[]⟩) rfl (by omega)
  obtain ⟨r1, o1, g1⟩ := st _ o0 1 (.slice none 0 0) rfl (by omega)
  obtain ⟨r2, o2, g2⟩ := st _ o1 2 (.slice none 0 0) rfl (by omega)
  refine ⟨_, ?_, o2, grown_trans g0 (grown_trans g1 g2)⟩
  have hs : (storeCells ⟨g, n * 3, none⟩ [.string ⟨#[]⟩, .slice none 0 0, .slice none 0 0]).run Tryz.prog w = .ok () (((w.setCell ⟨g, n * 3 + 0, none⟩ (.string ⟨#[]⟩)).setCell ⟨g, n * 3 + 1, none⟩ (.slice none 0 0)).setCell ⟨g, n * 3 + 2, none⟩ (.slice none 0 0)) := by
    simp only [Nat.add_zero] at r0 r1 r2 ⊢
    simp [storeCells, Addr.add, r0, r1, r2, Result.andThen]
  simp [Builtin.clear_, run_underlying Tryz.underlying24, Builtin.zeroCells, Value.cells, Result.andThen]
  have hm : List.map (fun i => ([Value.string ⟨#[]⟩, Value.slice none 0 0, Value.slice none 0 0][i % 3]?).getD default) (List.range 3) = [.string ⟨#[]⟩, .slice none 0 0, .slice none 0 0] := by simp [List.range, List.range.loop]
  rw [hm, hs]
  simp
end Go.Proofs.YtkgbdjdgcacblaaGreatDoor
