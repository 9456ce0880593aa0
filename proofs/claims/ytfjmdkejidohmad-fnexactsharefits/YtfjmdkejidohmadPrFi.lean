/-
  PROVED: for every book and every list of texts handed to it, the law of ShareFits returns true, and both read afterwards as they read before: so at every argument the program's ShareFits answers as the specification's, and writes into no argument.
  CONDITIONS: the form's own reach, no other.
-/
import Derived.Test.YtfjmdkejidohmadRows
import Derived.Test.YtfjmdkejidohmadTk
import Derived.Test.YtfjmdkejidohmadLawFi
namespace Go.Proofs.Ytfjmdkejidohmad
open Go.ChangeShapes Go.WideShapes Go.ChangeAt Go.RowKit
open Go.ChangeMaps (open_string)

set_option maxRecDepth 100000 in
theorem fnExactShareFits_contract (H : Type) (enc : TypeId × Value → H) (W : World) (base : Nat) (args : Array Value) (ds gs : List (DataW H)) (before : List MemPlace)
    (hval : ∀ (j : Nat) t v, Try.f5.params[j]? = some t → args[j]? = some v → Value.okWide Try.prog W .any base t v)
    (hW : DataW.Whole enc Try.prog Try.f5.params.toList Rows.fnExactShareFitsSpec.vars false W args.toList ds gs before) :
    Calls Try.prog 5 args W fun e W' => ∃ v, e = .returned v ∧ Rows.fnExactShareFitsSpec.post enc Try.prog Try.f5 false true false false W args v W' := by
  have hW' := hW
  have hlt := hW.lt
  obtain ⟨p, q, hA0, hV, rfl, hfz, hnd⟩ := hW
  have hA : DataW.TrodAll enc Try.prog W 0 (fun _ => true) true Try.f5.params.toList args.toList ds p := hA0
  rw [Try.params5] at hA hval
  obtain ⟨v0, vs0, d0, ds0, p0, q0, hargs, rfl, rfl, h0, r0⟩ := trodAll_cons hA
  obtain ⟨v1, vs1, d1, ds1, p1, q1, rfl, rfl, rfl, h1, r1⟩ := trodAll_cons r0
  obtain ⟨rfl, rfl, rfl⟩ := trodAll_nil r1
  obtain rfl : args = #[v0, v1] := by cases args; simp_all
  have hk0 := hval 0 25 v0 (by simp) (by simp)
  obtain ⟨cs0, rfl, _⟩ := okWide_struct Try.underlying25 hk0
  have g0 := h0
  obtain ⟨fuel0, hf0⟩ := g0
  obtain ⟨b0, hsr0⟩ := bk_of_trod hf0
  have hsrc0 : BkV W (.agg cs0) b0 := by simpa [Value.cells] using hsr0
  have hk1 := hval 1 22 v1 (by simp) (by simp)
  obtain ⟨a1, l1, c1, hv1⟩ := okWide_slice Try.underlying22 hk1
  have g1 := h1
  obtain ⟨fuel1, hf1⟩ := g1
  obtain ⟨ss1, hsrc1⟩ : ∃ ss, Ls W v1 ss := by subst hv1; exact ls_of_trod (by simpa [Value.cells] using hf1)
  obtain ⟨rfl, rfl⟩ := trodVars_none hV
  refine (lawFits_any b0 _ ss1 v1 W hsrc0 hsrc1).mono fun e' W' ⟨he, hb⟩ => ?_
  subst he
  refine ⟨_, rfl, _, _, _, [], p0 ++ (p1 ++ []), [], hW', ?_, ?_, ?_, hb.frame _, fun h => by cases h⟩
  · exact trodAll_cons_mk (shut_bool Try.underlying4 _) trodAll_mk0
  · exact (trodAll_cons_mk (Below.trod laidOut (by kernel_rfl) (of_decide_eq_true (by kernel_rfl)) h0 hb (fun x hx => hlt x (by simp [hx]))) (trodAll_cons_mk (Below.trod laidOut (by kernel_rfl) (of_decide_eq_true (by kernel_rfl)) h1 hb (fun x hx => hlt x (by simp [hx]))) trodAll_mk0))
  · exact hb.trodVars laidOut (by kernel_rfl) hV

noncomputable def fnExactShareFits_world (os : Os) : World := World.holding Try.prog os ⟨#[], #[], []⟩
theorem fnExactShareFits_reads (os : Os) {H : Type} (enc : TypeId × Value → H) : ∃ ds gs places, DataW.whole enc Try.prog ((fnExactShareFits_world os).forCall (fun _ _ => 0) ⟨#[], #[.agg #[.slice none 0 0, .slice none 0 0], .slice none 0 0], []⟩).memory Try.f5.params.toList Rows.fnExactShareFitsSpec.vars false
    #[(.agg #[.slice none 0 0, .slice none 0 0] : Value), (.slice none 0 0 : Value)].toList 8 = some (ds, gs, places) :=
  ⟨[.agg [.nil, .nil], .nil], [], [], by kernel_rfl⟩

set_option maxRecDepth 100000 in
theorem fnExactShareFits_lifted (os : Os) (started : os.Started) (H : Type) (enc : TypeId × Value → H) (F : Stop.Interp) :
    ReturnsInHanded {} Try.checked os 5 .any ((OpenSpec.ofChange Rows.fnExactShareFitsSpec).preRow enc Try.prog Try.f5 Rows.fnExactShareFitsRow.domain false Rows.fnExactShareFitsRow.laid) (((OpenSpec.ofChange Rows.fnExactShareFitsSpec).at F).post enc Try.prog Try.f5 false true false false) := by
  obtain ⟨ds, gs, places, hx⟩ := fnExactShareFits_reads os enc
  refine returnsInHanded_of_row (C := Try.checked) (s := OpenSpec.ofChange Rows.fnExactShareFitsSpec) own started (by kernel_rfl) Try.func5
    (witness_row_at (enc := enc) (C := Try.checked) false (fnExactShareFits_world os) #[.agg #[.slice none 0 0, .slice none 0 0], .slice none 0 0] rfl (by kernel_rfl) (by kernel_rfl) (by kernel_rfl)
      (OpenSpec.preRow_of_cond 8 hx (by kernel_rfl) (fun k hk => by cases hk) (by kernel_rfl) (laidMet_nil _ _))) ?_
  intro W base args ds gs before hval hW _ _ _ _ _ _
  exact fnExactShareFits_contract H enc W base args ds gs before hval hW

theorem fnExactShareFits_said : Rows.FnExactShareFitsSaid :=
  OpenClaim.holds_of_cond 5 Try.f5 rfl rfl rfl rfl rfl rfl rfl ⟨rfl, rfl, rfl, rfl, rfl⟩ rfl rfl rfl rfl rfl (by kernel_rfl) Try.func5 (by kernel_rfl)
    (of_decide_eq_true (by kernel_rfl)) (by unfold Func.isWrapper; first | (rw [if_pos (by decide +kernel)]; kernel_rfl) | (rw [if_neg (by decide +kernel)]; exact ⟨rfl, rfl⟩))
    (fun os started H enc _ F => by rw [OpenClaim.pre_eq_preRow]; exact fnExactShareFits_lifted os started H enc F)
end Go.Proofs.Ytfjmdkejidohmad
