/-
  PROVED: for every list of texts handed to it, the law of RunOpen returns true, and the list reads afterwards as it read before: so at every argument the program's RunOpen answers as the specification's, every field, writes into no argument, and its answer owns its memory.
  CONDITIONS: the form's own reach, no other.
-/
import Derived.Test.YtkapodkidlgkjafRows
import Derived.Test.YtkapodkidlgkjafLawRp
import Derived.Test.YtkapodkidlgkjafTk0
namespace Go.Proofs.Ytkapodkidlgkjaf
open Go.ChangeShapes Go.WideShapes Go.ChangeAt Go.RowKit
open Go.ChangeMaps (open_string)

set_option maxRecDepth 100000 in
theorem fnExactRunOpen_contract (H : Type) (enc : TypeId × Value → H) (W : World) (base : Nat) (args : Array Value) (ds gs : List (DataW H)) (before : List MemPlace)
    (hval : ∀ (j : Nat) t v, Try.f3.params[j]? = some t → args[j]? = some v → Value.okWide Try.prog W .any base t v)
    (hW : DataW.Whole enc Try.prog Try.f3.params.toList Rows.fnExactRunOpenSpec.vars false W args.toList ds gs before) :
    Calls Try.prog 3 args W fun e W' => ∃ v, e = .returned v ∧ Rows.fnExactRunOpenSpec.post enc Try.prog Try.f3 false true false false W args v W' := by
  have hW' := hW
  have hlt := hW.lt
  obtain ⟨p, q, hA0, hV, rfl, hfz, hnd⟩ := hW
  have hA : DataW.TrodAll enc Try.prog W 0 (fun _ => true) true Try.f3.params.toList args.toList ds p := hA0
  rw [Try.params3] at hA hval
  obtain ⟨v0, vs0, d0, ds0, p0, q0, hargs, rfl, rfl, h0, r0⟩ := trodAll_cons hA
  obtain ⟨rfl, rfl, rfl⟩ := trodAll_nil r0
  obtain rfl : args = #[v0] := by cases args; simp_all
  have hk0 := hval 0 22 v0 (by simp) (by simp)
  obtain ⟨a0, l0, c0, hv0⟩ := okWide_slice Try.underlying22 hk0
  have g0 := h0
  obtain ⟨fuel0, hf0⟩ := g0
  obtain ⟨ss0, hsrc0⟩ : ∃ ss, Ls W v0 ss := by subst hv0; exact ls_of_trod (by simpa [Value.cells] using hf0)
  obtain ⟨rfl, rfl⟩ := trodVars_none hV
  refine (lawOpen_any ss0 v0 W hsrc0).mono fun e' W' ⟨he, hb⟩ => ?_
  subst he
  refine ⟨_, rfl, _, _, _, [], p0 ++ [], [], hW', ?_, ?_, ?_, hb.frame _, fun h => by cases h⟩
  · exact trodAll_cons_mk (shut_bool Try.underlying4 _) trodAll_mk0
  · exact (trodAll_cons_mk (Below.trod laidOut (by kernel_rfl) (of_decide_eq_true (by kernel_rfl)) h0 hb (fun x hx => hlt x (by simp [hx]))) trodAll_mk0)
  · exact hb.trodVars laidOut (by kernel_rfl) hV

noncomputable def fnExactRunOpen_world (os : Os) : World := World.holding Try.prog os ⟨#[], #[], []⟩
theorem fnExactRunOpen_reads (os : Os) {H : Type} (enc : TypeId × Value → H) : ∃ ds gs places, DataW.whole enc Try.prog ((fnExactRunOpen_world os).forCall (fun _ _ => 0) ⟨#[], #[.slice none 0 0], []⟩).memory Try.f3.params.toList Rows.fnExactRunOpenSpec.vars false
    #[(.slice none 0 0 : Value)].toList 8 = some (ds, gs, places) :=
  ⟨[.nil], [], [], by kernel_rfl⟩

set_option maxRecDepth 100000 in
theorem fnExactRunOpen_lifted (os : Os) (started : os.Started) (H : Type) (enc : TypeId × Value → H) (F : Stop.Interp) :
    ReturnsInHanded {} Try.checked os 3 .any ((OpenSpec.ofChange Rows.fnExactRunOpenSpec).preRow enc Try.prog Try.f3 Rows.fnExactRunOpenRow.domain false Rows.fnExactRunOpenRow.laid) (((OpenSpec.ofChange Rows.fnExactRunOpenSpec).at F).post enc Try.prog Try.f3 false true false false) := by
  obtain ⟨ds, gs, places, hx⟩ := fnExactRunOpen_reads os enc
  refine returnsInHanded_of_row (C := Try.checked) (s := OpenSpec.ofChange Rows.fnExactRunOpenSpec) own started (by kernel_rfl) Try.func3
    (witness_row_at (enc := enc) (C := Try.checked) false (fnExactRunOpen_world os) #[.slice none 0 0] rfl (by kernel_rfl) (by kernel_rfl) (by kernel_rfl)
      (OpenSpec.preRow_of_cond 8 hx (by kernel_rfl) (fun k hk => by cases hk) (by kernel_rfl) (laidMet_nil _ _))) ?_
  intro W base args ds gs before hval hW _ _ _ _ _ _
  exact fnExactRunOpen_contract H enc W base args ds gs before hval hW

theorem fnExactRunOpen_said : Rows.FnExactRunOpenSaid :=
  OpenClaim.holds_of_cond 3 Try.f3 rfl rfl rfl rfl rfl rfl rfl ⟨rfl, rfl, rfl, rfl, rfl⟩ rfl rfl rfl rfl rfl (by kernel_rfl) Try.func3 (by kernel_rfl)
    (of_decide_eq_true (by kernel_rfl)) (by unfold Func.isWrapper; first | (rw [if_pos (by decide +kernel)]; kernel_rfl) | (rw [if_neg (by decide +kernel)]; exact ⟨rfl, rfl⟩))
    (fun os started H enc _ F => by rw [OpenClaim.pre_eq_preRow]; exact fnExactRunOpen_lifted os started H enc F)
end Go.Proofs.Ytkapodkidlgkjaf
