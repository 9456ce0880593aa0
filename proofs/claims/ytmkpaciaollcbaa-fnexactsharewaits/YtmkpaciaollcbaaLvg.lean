/- From a good run at every shaped start to a row of a call that starts goroutines. -/
import Derived.Conc.LeavingOf
import Derived.Test.YtmkpaciaollcbaaJ34
import Derived.Test.YtmkpaciaollcbaaJ22
namespace Go.Proofs.Ytmkpaciaollcbaa
open Go.Conc

theorem leaving_of {H : Type} {enc : TypeId × Value → H} {C : Checked} {os : Os} {f : FuncId} {fn : Func} {s : ChangeSpec} {conds : List PathCond}
    (own : ownKnob C.prog.godebug = none) (started : os.Started) (hfn : C.prog.funcs[f]? = some fn)
    (witness : ∃ (w : World) (tape : Tape) (i : Input), w.os = os ∧ (w.forCall tape i).Shaped C.prog ∧ i.vars = [] ∧ Input.okWide C.prog (w.forCall tape i) .any w.heap.size f i ∧
      s.pre6 enc C.prog fn conds false (w.forCall tape i).memory i.args ∧ ({} : Assume).holds C.prog (lone (Frame.enter C.prog f i.args .normal) [] (w.forCall tape i)))
    (runs : ∀ (W : World) (base : Nat) (args : Array Value) (ds gs : List (DataW H)) (before : List MemPlace), W.ShapedOpen C.prog →
      (∀ (j : Nat) t v, fn.params[j]? = some t → args[j]? = some v → Value.okWide C.prog W .any base t v) → DataW.Whole enc C.prog fn.params.toList s.vars false W args.toList ds gs before →
      EndsG C.prog (fun v W' => s.post enc C.prog fn false true false false W args v W') (crowd #[G (Frame.enter C.prog f args .normal) []] W none) #[]) :
    ReturnsInLeavingWide {} C os f .any (s.pre6 enc C.prog fn conds false) (s.post enc C.prog fn false true false false) := by
  refine returnsInLeavingWide_of_good own started witness fun w tape i _ hsh _ hok hpre _ => ?_
  obtain ⟨_, _, _, fn', hfn', _, _, _, _, hval⟩ := hok
  obtain rfl : fn' = fn := Option.some.inj (hfn'.symm.trans hfn)
  obtain ⟨⟨ds, gs, before, hw, _⟩, _⟩ := hpre
  obtain ⟨M, last, o, w', t', h1, h2, h3, h4⟩ := runs (w.forCall tape i) w.heap.size i.args ds gs before hsh hval (DataW.Whole.of_heap (by rfl) hw)
  exact ⟨M, last, o, w', t', h1, h2, h3, h4.mono fun v hp => ChangeSpec.post_blind hp⟩

theorem globals_size : Try.prog.globals.size = gN := by kernel_rfl
theorem globals_rows : ((List.range gN).all fun g => (((begin Try.prog (fun _ _ => 0) default).world.heap[g]?).bind Obj.row?).isSome) = true := by kernel_rfl
/-- No package-level variable waits. -/
theorem none_waits {W : World} (h : W.ShapedOpen Try.prog) (b : Nat) (c : Array Value) (t : TypeId) (hb : W.heap[b]? = some (Obj.pending c t)) : gN ≤ b := by
  refine Nat.le_of_not_lt fun hlt => ?_
  have h1 := List.all_eq_true.1 globals_rows b (List.mem_range.2 hlt)
  obtain ⟨⟨zero, e⟩, hr⟩ := Option.isSome_iff_exists.1 h1
  obtain ⟨cs, hc, _⟩ := h.1 b zero e (by rw [globals_size]; exact hlt) hr
  rw [hc] at hb
  cases hb
end Go.Proofs.Ytmkpaciaollcbaa
