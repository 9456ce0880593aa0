/- The program's chapter 13: copies. -/
import Derived.Test.YtkapodkidlgkjafKp3
import Derived.Test.YtkapodkidlgkjafKf
namespace Go.Proofs.Ytkapodkidlgkjaf
open Go.RowKit

theorem append_named {P : Program} {w : World} {t u ty e e' : TypeId} (ht : P.underlying t = some (.slice e)) (hu : P.underlying u = some (.slice e')) (v x : Value) :
    (Builtin.append_ #[t, u] ty #[v, x]).run P w = (Builtin.append_ #[t, t] ty #[v, x]).run P w := by
  unfold Builtin.append_
  simp only [List.getElem?_toArray, List.getElem?_cons_zero, List.getElem?_cons_succ, Sem.run_bind, run_underlying ht, Result.andThen_ok]
  cases v with
  | slice a n c => simp only [Sem.run_bind, run_underlying ht, run_underlying hu, Result.andThen_ok, Sem.run_pure]
  | _ => rfl
theorem wpList_append_run {P : Program} (w : World) {ops : Array Oper} {rest : List Oper} {o : Oper} {ac : Act} {Q : Exit → Act → World → Prop} (hg : o.guard = none) (s x : Operand) (t u : TypeId) (hop : o.op = .call { callee := .builtin .append, args := #[s, x], argTypes := #[t, u] })
    (v xv v' : Value) (w' : World) (hs : ac.eval s = v) (hx : ac.eval x = xv) (hr : (Builtin.append_ #[t, u] o.type #[v, xv]).run P w = .ok v' w') (h : wpList P ops Q rest (ac.put o.dst v') w') : wpList P ops Q (o :: rest) ac w := by
  refine wpList_plain hg fun K hK => ?_
  unfold Oper.wp
  simp [execOp, hop, resolve, invoke, builtin, hs, hx, hr, Result.andThen]
  exact hK _ _ h
set_option maxRecDepth 20000 in
/-- A list copied behind none. -/
theorem copied_any (ss : List ByteArray) (v : Value) (w : World) (h : Ls w v ss) (hn : ss.length ≤ 1048576) :
    Calls Try.prog 35 #[v] w fun e w' => (∃ u, e = .returned u ∧ OwnT w' w.heap.size u ss) ∧ Below w.heap.size w w' := by
  obtain ⟨a, c, rfl, -, -, hpos⟩ := h
  obtain ⟨ii, hi, iz0, iz1, iz2⟩ := info_parts infoStr
  have ho : OwnT w w.heap.size (.slice none 0 0) [] := World.ownsRow_nil _ _ _ _
  rcases Nat.eq_zero_or_pos ss.length with h0 | h0
  · obtain rfl := List.length_eq_zero_iff.1 h0
    simp only [List.length_nil]
    have hr := (append_named (w := w) (ty := 22) Try.underlying22 Try.underlying50 (.slice none 0 0) (.slice a 0 c)).trans (run_append_zero w.heap.size 22 22 9 ii 1 Try.underlying22 hi _ 0 [] ho a c)
    clear hpos hn h0
    go_enter Try.func35, Try.ntmps35
    go_wp2_with (at_builtin; refine wpList_append_run _ rfl _ _ _ _ rfl _ _ _ _ rfl rfl hr ?_)
    go_ret
    exact ⟨⟨_, rfl, ho⟩, Below.refl _ _⟩
  · obtain ⟨g, o, rfl, hS, hg⟩ := hpos h0
    obtain ⟨v1, w1, hr, hown1, hgr1, -⟩ := run_append_own (P := Try.prog) w w.heap.size 22 22 9 ii _ 1 16 Try.underlying22 hi iz0 iz1 iz2 rfl (by decide) (.slice none 0 0) 0 [] ho ⟨g, o, none⟩ ss.length c (ss.map Value.string) (by simp) (news_of hS) (oneS ss) (by unfold maxLen; omega) (by omega) (Nat.le_refl _)
    have hr2 := (append_named (w := w) (ty := 22) Try.underlying22 Try.underlying50 (.slice none 0 0) (.slice (some ⟨g, o, none⟩) ss.length c)).trans hr
    have hB1 := below_own (Below.refl _ _) ho hgr1 (Nat.le_refl _)
    have ho1 : OwnT w1 w.heap.size v1 ss := by unfold OwnT; simpa using hown1
    clear hown1 hgr1 hr hpos
    go_enter Try.func35, Try.ntmps35
    go_wp2_with (at_builtin; refine wpList_append_run _ rfl _ _ _ _ rfl _ _ _ _ rfl rfl hr2 ?_)
    go_ret
    exact ⟨⟨_, rfl, ho1⟩, hB1⟩
end Go.Proofs.Ytkapodkidlgkjaf
