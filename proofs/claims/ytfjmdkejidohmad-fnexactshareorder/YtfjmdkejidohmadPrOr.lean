/-
  PROVED: for every book handed to it, the law of ShareOrder returns true, and the book reads afterwards as it read before: so at every argument the program's ShareOrder answers as the specification's, writes into no argument, keeps nothing of one, and its answer owns its memory, behind another call too.
  CONDITIONS: the form's own reach, no other.
-/
import Derived.Test.YtfjmdkejidohmadRows
import Derived.Test.YtfjmdkejidohmadTk
import Derived.Test.YtfjmdkejidohmadLawOr
namespace Go.Proofs.Ytfjmdkejidohmad
open Go.ChangeShapes Go.WideShapes Go.ChangeAt Go.RowKit
open Go.ChangeMaps (open_string)

set_option maxRecDepth 100000 in
theorem fnExactShareOrder_contract (H : Type) (enc : TypeId × Value → H) (W : World) (base : Nat) (args : Array Value) (ds gs : List (DataW H)) (before : List MemPlace)
    (hval : ∀ (j : Nat) t v, Try.f6.params[j]? = some t → args[j]? = some v → Value.okWide Try.prog W .any base t v)
    (hW : DataW.Whole enc Try.prog Try.f6.params.toList Rows.fnExactShareOrderSpec.vars false W args.toList ds gs before) :
    Calls Try.prog 6 args W fun e W' => ∃ v, e = .returned v ∧ Rows.fnExactShareOrderSpec.post enc Try.prog Try.f6 false true false false W args v W' := by
  have hW' := hW
  have hlt := hW.lt
  obtain ⟨p, q, hA0, hV, rfl, hfz, hnd⟩ := hW
  have hA : DataW.TrodAll enc Try.prog W 0 (fun _ => true) true Try.f6.params.toList args.toList ds p := hA0
  rw [Try.params6] at hA hval
  obtain ⟨v0, vs0, d0, ds0, p0, q0, hargs, rfl, rfl, h0, r0⟩ := trodAll_cons hA
  obtain ⟨rfl, rfl, rfl⟩ := trodAll_nil r0
  obtain rfl : args = #[v0] := by cases args; simp_all
  have hk0 := hval 0 25 v0 (by simp) (by simp)
  obtain ⟨cs0, rfl, _⟩ := okWide_struct Try.underlying25 hk0
  have g0 := h0
  obtain ⟨fuel0, hf0⟩ := g0
  obtain ⟨b0, hsr0⟩ := bk_of_trod hf0
  have hsrc0 : BkV W (.agg cs0) b0 := by simpa [Value.cells] using hsr0
  obtain ⟨rfl, rfl⟩ := trodVars_none hV
  refine (lawOrder_any b0 _ W hsrc0).mono fun e' W' ⟨he, hb⟩ => ?_
  subst he
  refine ⟨_, rfl, _, _, _, [], p0 ++ [], [], hW', ?_, ?_, ?_, hb.frame _, fun h => by cases h⟩
  · exact trodAll_cons_mk (shut_bool Try.underlying4 _) trodAll_mk0
  · exact (trodAll_cons_mk (Below.trod laidOut (by kernel_rfl) (of_decide_eq_true (by kernel_rfl)) h0 hb (fun x hx => hlt x (by simp [hx]))) trodAll_mk0)
  · exact hb.trodVars laidOut (by kernel_rfl) hV

noncomputable def fnExactShareOrder_world (os : Os) : World := World.holding Try.prog os ⟨#[], #[], []⟩
theorem fnExactShareOrder_reads (os : Os) {H : Type} (enc : TypeId × Value → H) : ∃ ds gs places, DataW.whole enc Try.prog ((fnExactShareOrder_world os).forCall (fun _ _ => 0) ⟨#[], #[.agg #[.slice none 0 0, .slice none 0 0]], []⟩).memory Try.f6.params.toList Rows.fnExactShareOrderSpec.vars false
    #[(.agg #[.slice none 0 0, .slice none 0 0] : Value)].toList 8 = some (ds, gs, places) :=
  ⟨[.agg [.nil, .nil]], [], [], by kernel_rfl⟩

set_option maxRecDepth 100000 in
theorem fnExactShareOrder_lifted (os : Os) (started : os.Started) (H : Type) (enc : TypeId × Value → H) (F : Stop.Interp) :
    ReturnsInHanded {} Try.checked os 6 .any ((OpenSpec.ofChange Rows.fnExactShareOrderSpec).preRow enc Try.prog Try.f6 Rows.fnExactShareOrderRow.domain false Rows.fnExactShareOrderRow.laid) (((OpenSpec.ofChange Rows.fnExactShareOrderSpec).at F).post enc Try.prog Try.f6 false true false false) := by
  obtain ⟨ds, gs, places, hx⟩ := fnExactShareOrder_reads os enc
  refine returnsInHanded_of_row (C := Try.checked) (s := OpenSpec.ofChange Rows.fnExactShareOrderSpec) own started (by kernel_rfl) Try.func6
    (witness_row_at (enc := enc) (C := Try.checked) false (fnExactShareOrder_world os) #[.agg #[.slice none 0 0, .slice none 0 0]] rfl (by kernel_rfl) (by kernel_rfl) (by kernel_rfl)
      (OpenSpec.preRow_of_cond 8 hx (by kernel_rfl) (fun k hk => by cases hk) (by kernel_rfl) (laidMet_nil _ _))) ?_
  intro W base args ds gs before hval hW _ _ _ _ _ _
  exact fnExactShareOrder_contract H enc W base args ds gs before hval hW

theorem fnExactShareOrder_said : Rows.FnExactShareOrderSaid :=
  OpenClaim.holds_of_cond 6 Try.f6 rfl rfl rfl rfl rfl rfl rfl ⟨rfl, rfl, rfl, rfl, rfl⟩ rfl rfl rfl rfl rfl (by kernel_rfl) Try.func6 (by kernel_rfl)
    (of_decide_eq_true (by kernel_rfl)) (by unfold Func.isWrapper; first | (rw [if_pos (by decide +kernel)]; kernel_rfl) | (rw [if_neg (by decide +kernel)]; exact ⟨rfl, rfl⟩))
    (fun os started H enc _ F => by rw [OpenClaim.pre_eq_preRow]; exact fnExactShareOrder_lifted os started H enc F)
end Go.Proofs.Ytfjmdkejidohmad
