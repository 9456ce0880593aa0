/-
  PROVED: for every book handed to it, the law of ShareMoves returns true, on every tape, and the book reads afterwards as it read before: so at every argument the program's ShareMoves, which looks at each batch by a goroutine of its own, answers as the specification's, writes into no argument, keeps nothing of one, and its answer owns its memory, behind another call too; no run has a race.
  CONDITIONS: the form's own reach, no other.
-/
import Derived.Test.YtafgabakhaipnaaRows
import Derived.Test.YtafgabakhaipnaaJ31
import Derived.Test.YtafgabakhaipnaaJ36
import Derived.Test.YtafgabakhaipnaaJ51
namespace Go.Proofs.Ytafgabakhaipnaa
open Go.ChangeShapes Go.WideShapes Go.ChangeAt Go.RowKit Go.Conc

theorem BelR.below {W w : World} (h : BelR W w) : Below W.heap.size W { w with tape := W.tape } := ⟨h.os, rfl, h.output, h.size, h.block⟩
theorem EndsG.mono {P : Program} {Post Post' : Value → World → Prop} {m : Machine} {t : Trace} (h : EndsG P Post m t) (hp : ∀ v w, Post v w → Post' v w) : EndsG P Post' m t := by
  obtain ⟨N, last, o, w', t', h1, h2, h3, h4⟩ := h
  exact ⟨N, last, o, w', t', h1, h2, h3, h4.mono fun v => hp v w'⟩

set_option maxRecDepth 100000 in
theorem fnExactShareMoves_runs (H : Type) (enc : TypeId × Value → H) (W : World) (base : Nat) (args : Array Value) (ds gs : List (DataW H)) (before : List MemPlace) (hsh : W.ShapedOpen Try.prog)
    (hval : ∀ (j : Nat) t v, Try.f3.params[j]? = some t → args[j]? = some v → Value.okWide Try.prog W .any base t v)
    (hW : DataW.Whole enc Try.prog Try.f3.params.toList Rows.fnExactShareMovesSpec.vars false W args.toList ds gs before) :
    EndsG Try.prog (fun v W' => Rows.fnExactShareMovesSpec.post enc Try.prog Try.f3 false true false false W args v W') (crowd #[G (Frame.enter Try.prog 3 args .normal) []] W none) #[] := by
  have hW' := hW
  have hlt := hW.lt
  obtain ⟨p, q, hA0, hV, rfl, hfz, hnd⟩ := hW
  have hA : DataW.TrodAll enc Try.prog W 0 (fun _ => true) true Try.f3.params.toList args.toList ds p := hA0
  rw [Try.params3] at hA hval
  obtain ⟨v0, vs0, d0, ds0, p0, q0, hargs, rfl, rfl, h0, r0⟩ := trodAll_cons hA
  obtain ⟨rfl, rfl, rfl⟩ := trodAll_nil r0
  obtain rfl : args = #[v0] := by cases args; simp_all
  have hk0 := hval 0 25 v0 (by simp) (by simp)
  obtain ⟨cs0, rfl, _⟩ := okWide_struct Try.underlying25 hk0
  have g0 := h0
  obtain ⟨fuel0, hf0⟩ := g0
  obtain ⟨b0, hsr0⟩ := bk_of_trod hf0
  have hsrc0 : BkV W (.agg cs0) b0 := by simpa [Value.cells] using hsr0
  obtain ⟨rfl, rfl⟩ := trodVars_none hV
  obtain ⟨a1, c1, a2, c2, e0, -, -⟩ := hsrc0.parts
  rw [e0] at hsrc0 h0 hW' ⊢
  refine (lawMoves_ends hsrc0 (none_waits hsh)).mono fun v W' ⟨he, hb⟩ => ?_
  subst he
  have hb := hb.below
  refine ⟨_, _, _, [], p0 ++ [], [], hW', ?_, ?_, ?_, ?_, fun h => by cases h⟩
  · exact trodAll_cons_mk (shut_bool Try.underlying4 _) trodAll_mk0
  · exact DataW.TrodAll.of_heap (w := { W' with tape := W.tape }) (w' := W') rfl (trodAll_cons_mk (Below.trod laidOut (by kernel_rfl) (of_decide_eq_true (by kernel_rfl)) h0 hb (fun x hx => hlt x (by simp [hx]))) trodAll_mk0)
  · exact DataW.TrodVars.of_heap (w := { W' with tape := W.tape }) (w' := W') rfl (hb.trodVars laidOut (by kernel_rfl) hV)
  · have hf := hb.frame (fun p => p ∈ p0 ++ [] ++ [] ∧ (p ∈ ([] : List MemPlace) ∨ p ∈ p0 ++ [] ∨ p ∈ ([] : List MemPlace)))
    exact ⟨hf.1, hf.2.1, hf.2.2⟩

set_option maxRecDepth 100000 in
theorem fnExactShareMoves_lifted (os : Os) (started : os.Started) (H : Type) (enc : TypeId × Value → H) :
    ReturnsInLeavingWide {} Try.checked os 3 .any (Rows.fnExactShareMovesSpec.pre6 enc Try.prog Try.f3 Rows.fnExactShareMovesRow.domain false) (Rows.fnExactShareMovesSpec.post enc Try.prog Try.f3 false true false false) := by
  refine leaving_of (C := Try.checked) own started Try.func3
    (ChangeSpec.witness6 (enc := enc) (C := Try.checked) false ⟨#[], #[.agg #[.slice none 0 0, .slice none 0 0]], []⟩ 8 (by kernel_rfl) (by kernel_rfl) (by kernel_rfl) (by kernel_rfl)) ?_
  intro W base args ds gs before hsh hval hW
  exact fnExactShareMoves_runs H enc W base args ds gs before hsh hval hW

theorem fnExactShareMoves_said : Rows.FnExactShareMovesSaid :=
  OpenClaim.holds_of_wide_leaving 3 Try.f3 rfl rfl rfl rfl rfl rfl rfl ⟨rfl, rfl, rfl, rfl, rfl⟩ rfl rfl rfl rfl rfl (by kernel_rfl) Try.func3 (by kernel_rfl)
    (of_decide_eq_true (by kernel_rfl)) (by unfold Func.isWrapper; first | (rw [if_pos (by decide +kernel)]; kernel_rfl) | (rw [if_neg (by decide +kernel)]; exact ⟨rfl, rfl⟩))
    (fun os started H enc _ => fnExactShareMoves_lifted os started H enc)
end Go.Proofs.Ytafgabakhaipnaa
