/- A loop over a function, by its record: what a round owes, out of its body's walk; the statement, with the record told. -/
import Derived.RangeFuncNested
import Derived.RangeFuncBound
import Derived.RangeFuncCalls
import Derived.RangeFuncLeaves
import Derived.RangeFuncBox
namespace Go.Proofs.YtcofjoacehacjaaGreatDoor
open Go Go.RowKit
variable {F : Fence} {m : Nat} {P : Program}

/-- What is owed where a round's body is left: off its end, or by an exit. -/
def roundEnd (l : Nat) (r : Loop) (R : Ending → World → Prop) : Exit → Act → World → Prop
  | .normal, _, W => W.heap[l]? = some (.loop { r with state := .busy }) ∧ R (.returned (.bool true)) (W.putObj l (.loop { r with state := .ready, pending := none }))
  | .exit id, _, W => W.heap[l]? = some (.loop { r with state := .busy }) ∧ R (.returned (.bool false)) (W.putObj l (.loop { r with state := .done, pending := some (.exit id) }))
  | _, _, _ => False

theorem yield_walk {l : Nat} {r : Loop} {args : Array Value} {W : World} {R : Ending → World → Prop} (hl : W.heap[l]? = some (.loop r)) (hr : r.state = .ready) (hs : args.size = r.params.size) (hF : F.fn r.fn)
    (h : r.assign.wpIn (F.inRound l) m P (Exit.then (fun a₁ W₁ => W₁.heap[l]? = some (.loop r) ∧ r.body.wpIn (F.inRound l) m P (roundEnd l r R) a₁ (W₁.putObj l (.loop { r with state := .busy }))) (fun _ _ _ => False))
      { tmps := (r.params.zip args).foldl (fun t (p, v) => t.setIfInBounds p v) r.tmps, defers := [] } W) :
    YieldAt F m P l args W R := by
  refine ⟨r.fn, _, r.assign, r.body, run_yield hl hs, roundIn_of_wpIn hF (wpIn_mono h ?_)⟩
  rintro e a W1 hq
  cases e with
  | normal =>
    obtain ⟨h1, h2⟩ := hq
    refine ⟨_, run_beginRound h1 hr, wpIn_mono h2 ?_⟩
    rintro e a W3 hq
    cases e with
    | normal => obtain ⟨h1, h2⟩ := hq; exact ⟨_, _, run_endRound none h1, h2⟩
    | exit id => obtain ⟨h1, h2⟩ := hq; exact ⟨_, _, run_endRound (some (.exit id)) h1, h2⟩
    | ret => exact hq.elim
    | goto t => exact hq.elim
    | panic c => exact hq.elim
    | outgrown => exact hq.elim
  | exit id => exact hq.elim
  | ret => exact hq.elim
  | goto t => exact hq.elim
  | panic c => exact hq.elim
  | outgrown => exact hq.elim

/-- The record that such a loop lays. -/
def recOf (a : Act) (w : World) (fn : FuncId) (ps : Array Tmp) (assign body : Code) : Loop := { state := .ready, pending := none, fn, tmps := a.tmps, params := ps, assign, body, defers := w.heap.size }

theorem range_walk {g : Operand} {ps : Array Tmp} {assign body : Code} {Q : Exit → Act → World → Prop} {a : Act} {w : World}
    (hro : F.round = none) (h1 : 1 ≤ m) {gf : Nat} {lb : Array Value} (hg : a.eval g = .func (.func gf) #[] lb) (hFg : F.fn gf) (eg : ∀ args w, (callFunc gf args).run P w = .ok (.enter gf args) w)
    (h : ∀ (fn : FuncId), F.fn fn → CallsIn F (m - 1) P gf (#[.func (.yield (w.heap.size + 1)) #[] #[]] ++ lb)
      ((w.alloc (.deferred (some []))).alloc (.loop (recOf a w fn ps assign body))) fun e W => (∃ v, e = .returned v) ∧ ∃ id,
        W.heap[w.heap.size + 1]? = some (.loop { recOf a w fn ps assign body with state := .done, pending := some (.exit id) }) ∧
        (Code.exit id).wpIn F m P Q { a with defers := { target := .collected w.heap.size, args := #[] } :: a.defers } (W.putObj (w.heap.size + 1) (.loop { recOf a w fn ps assign body with state := .exhausted, pending := some (.exit id) }))) :
    (Code.rangeFunc g ps assign body).wpIn F m P Q a w := by
  refine wpIn_rangeFunc ?_
  intro fn hfn
  rw [hro]
  have h' := h fn hfn
  obtain ⟨W1, hW1⟩ : ∃ W1, (w.alloc (.deferred (some []))).alloc (.loop (recOf a w fn ps assign body)) = W1 := ⟨_, rfl⟩
  rw [hW1] at h'
  have he : (Instr.enterLoop fn a.tmps ps assign body none).run P w = .ok (w.heap.size + 1, [{ target := .collected w.heap.size, args := #[] }]) W1 := by
    rw [← hW1]; exact run_enterLoop_outer _ _ _ _ _
  refine ⟨w.heap.size + 1, [{ target := .collected w.heap.size, args := #[] }], W1, { target := .fn (.func gf) lb, args := #[.func (.yield (w.heap.size + 1)) #[] #[]] }, W1, gf,
    #[.func (.yield (w.heap.size + 1)) #[] #[]] ++ lb, W1, he, ?_, ?_, ?_, fun _ => h1, ?_⟩
  · simp only [resolve, hg]
    simp [go_sem]
  · intro f' hf'; simp [Target.leads] at hf'; subst hf'; exact hFg
  · simp [invoke, go_sem, eg]
  · refine h'.mono ?_
    rintro e W ⟨⟨v, rfl⟩, id, hl, hw⟩
    exact ⟨some (.exit id), _, run_endLoop hl (by simp), hw⟩
theorem range_walk2 {g : Operand} {ps : Array Tmp} {assign body : Code} {Q : Exit → Act → World → Prop} {a : Act} {w : World}
    (hro : F.round = none) (h1 : 1 ≤ m) {gf : Nat} {lb : Array Value} (hg : a.eval g = .func (.func gf) #[] lb) (hFg : F.fn gf) (eg : ∀ args w, (callFunc gf args).run P w = .ok (.enter gf args) w)
    (h : ∀ (fn : FuncId) (lp : Loop), F.fn fn → lp = recOf a w fn ps assign body → CallsIn F (m - 1) P gf (#[.func (.yield (w.heap.size + 1)) #[] #[]] ++ lb)
      ((w.alloc (.deferred (some []))).alloc (.loop lp)) fun e W => (∃ v, e = .returned v) ∧ ∃ id,
        W.heap[w.heap.size + 1]? = some (.loop { lp with state := .done, pending := some (.exit id) }) ∧
        (Code.exit id).wpIn F m P Q { a with defers := { target := .collected w.heap.size, args := #[] } :: a.defers } (W.putObj (w.heap.size + 1) (.loop { lp with state := .exhausted, pending := some (.exit id) }))) :
    (Code.rangeFunc g ps assign body).wpIn F m P Q a w := range_walk hro h1 hg hFg eg fun fn hf => h fn _ hf rfl
end Go.Proofs.YtcofjoacehacjaaGreatDoor
