/-
  PROVED: for every book and name handed to it, the law of ShareLeave returns true, and the book reads afterwards as it read before: so at every argument the program's ShareLeave answers as the specification's, book and code, writes into no argument, keeps nothing of one, and its answer owns its memory, behind another call too.
  CONDITIONS: the errors package's variable errorType holds the handle that its initialiser lays (tied to the program's text by the given tie); the form's own reach.
-/
import Derived.Test.YtialglmnfchfmaeGreatDoorCards
import Derived.Test.YtialglmnfchfmaeGreatDoorTie
import Derived.Test.YtialglmnfchfmaeGreatDoorJ26
import Derived.Test.YtialglmnfchfmaeGreatDoorLawLv
namespace Go.Proofs.YtialglmnfchfmaeGreatDoor
open Go.ChangeShapes Go.WideShapes Go.ChangeAt Go.RowKit
open Go.ChangeMaps (open_string)

set_option maxRecDepth 100000 in
theorem fnExactShareLeave_contract (H : Type) (enc : TypeId × Value → H) (W : World) (base : Nat) (args : Array Value) (ds gs : List (DataW H)) (before : List MemPlace)
    (hval : ∀ (j : Nat) t v, Tryz.f4.params[j]? = some t → args[j]? = some v → Value.okWide Tryz.prog W .any base t v)
    (hW : DataW.Whole enc Tryz.prog Tryz.f4.params.toList Rows.fnExactShareLeaveSpec.vars false W args.toList ds gs before) (hL : laidMetH Tryz.prog Rows.fnExactShareLeaveRow.laid W) :
    Calls Tryz.prog 4 args W fun e W' => ∃ v, e = .returned v ∧ Rows.fnExactShareLeaveSpec.post enc Tryz.prog Tryz.f4 false true false false W args v W' := by
  have hW' := hW
  have hlt := hW.lt
  obtain ⟨p, q, hA0, hV, rfl, hfz, hnd⟩ := hW
  have hA : DataW.TrodAll enc Tryz.prog W 0 (fun _ => true) true Tryz.f4.params.toList args.toList ds p := hA0
  rw [Tryz.params4] at hA hval
  obtain ⟨v0, vs0, d0, ds0, p0, q0, hargs, rfl, rfl, h0, r0⟩ := trodAll_cons hA
  obtain ⟨v1, vs1, d1, ds1, p1, q1, rfl, rfl, rfl, h1, r1⟩ := trodAll_cons r0
  obtain ⟨rfl, rfl, rfl⟩ := trodAll_nil r1
  obtain rfl : args = #[v0, v1] := by cases args; simp_all
  have hk0 := hval 0 25 v0 (by simp) (by simp)
  obtain ⟨cs0, rfl, _⟩ := okWide_struct Tryz.underlying25 hk0
  have g0 := h0
  obtain ⟨fuel0, hf0⟩ := g0
  obtain ⟨b0, hsr0⟩ := bk_of_trod hf0
  have hsrc0 : BkV W (.agg cs0) b0 := by simpa [Value.cells] using hsr0
  have hk1 := hval 1 9 v1 (by simp) (by simp)
  have g1 := h1
  obtain ⟨s1, hv1, _, _, hs1⟩ := open_string Tryz.underlying9 hk1 g1
  subst hv1
  have hE : ErrT W := ErrT.of_laid hL
  obtain ⟨rfl, rfl⟩ := trodVars_none hV
  refine (lawLeave_any b0 _ s1 W hE hsrc0 hs1).mono fun e' W' ⟨he, hb⟩ => ?_
  subst he
  refine ⟨_, rfl, _, _, _, [], p0 ++ (p1 ++ []), [], hW', ?_, ?_, ?_, hb.frame _, fun h => by cases h⟩
  · exact trodAll_cons_mk (shut_bool Tryz.underlying4 _) trodAll_mk0
  · exact (trodAll_cons_mk (Below.trod laidOut (by kernel_rfl) (of_decide_eq_true (by kernel_rfl)) h0 hb (fun x hx => hlt x (by simp [hx]))) (trodAll_cons_mk (Below.trod laidOut (by kernel_rfl) (of_decide_eq_true (by kernel_rfl)) h1 hb (fun x hx => hlt x (by simp [hx]))) trodAll_mk0))
  · exact hb.trodVars laidOut (by kernel_rfl) hV

theorem fnExactShareLeave_reads (os : Os) {H : Type} (enc : TypeId × Value → H) : ∃ ds gs places, DataW.whole enc Tryz.prog ((laidWorldE os).forCall (fun _ _ => 0) ⟨#[], #[.agg #[.slice none 0 0, .slice none 0 0], .string ⟨#[]⟩], []⟩).memory Tryz.f4.params.toList Rows.fnExactShareLeaveSpec.vars false
    #[(.agg #[.slice none 0 0, .slice none 0 0] : Value), (.string ⟨#[]⟩ : Value)].toList 8 = some (ds, gs, places) :=
  ⟨[.agg [.nil, .nil], .lit (.string [])], [], [], by kernel_rfl⟩

set_option maxRecDepth 100000 in
theorem fnExactShareLeave_lifted (os : Os) (started : os.Started) (H : Type) (enc : TypeId × Value → H) (F : Stop.Interp) :
    ReturnsInHanded {} Tryz.checked os 4 .any ((OpenSpec.ofChange Rows.fnExactShareLeaveSpec).preRow enc Tryz.prog Tryz.f4 Rows.fnExactShareLeaveRow.domain false Rows.fnExactShareLeaveRow.laid) (((OpenSpec.ofChange Rows.fnExactShareLeaveSpec).at F).post enc Tryz.prog Tryz.f4 false true false false) := by
  obtain ⟨ds, gs, places, hx⟩ := fnExactShareLeave_reads os enc
  refine returnsInHanded_of_row (C := Tryz.checked) (s := OpenSpec.ofChange Rows.fnExactShareLeaveSpec) own started (by kernel_rfl) Tryz.func4
    (witness_row_at (enc := enc) (C := Tryz.checked) false (laidWorldE os) #[.agg #[.slice none 0 0, .slice none 0 0], .string ⟨#[]⟩] rfl (by kernel_rfl) (by kernel_rfl) (by kernel_rfl)
      (OpenSpec.preRow_of_cond 8 hx (by kernel_rfl) (fun k hk => by cases hk) (by kernel_rfl) (laidE_met os _))) ?_
  intro W base args ds gs before hval hW _ _ _ hL _ _
  exact fnExactShareLeave_contract H enc W base args ds gs before hval hW hL

theorem fnExactShareLeave_said : Rows.FnExactShareLeaveSaid :=
  OpenClaim.holds_of_cond 4 Tryz.f4 rfl rfl rfl rfl rfl rfl rfl ⟨rfl, rfl, rfl, rfl, rfl⟩ rfl rfl rfl rfl rfl (by kernel_rfl) Tryz.func4 (by kernel_rfl)
    (of_decide_eq_true (by kernel_rfl)) (by unfold Func.isWrapper; first | (rw [if_pos (by decide +kernel)]; kernel_rfl) | (rw [if_neg (by decide +kernel)]; exact ⟨rfl, rfl⟩))
    (fun os started H enc _ F => by rw [OpenClaim.pre_eq_preRow]; exact fnExactShareLeave_lifted os started H enc F)

theorem fnExactShareLeave_plain (f : FuncId) (fn : Func) (hf : Tryz.pinned.checked.prog.funcNamed "loop.example/maltrun/laws.FnExactShareLeave" = some f) (hfn : Tryz.pinned.checked.prog.funcs[f]? = some fn) :
    true = Tryz.pinned.checked.prog.looks [] ∧ ∀ (j : Nat) t, fn.params[j]? = some t → Tryz.pinned.checked.prog.wantsStandIn t = false := by
  obtain rfl : f = 4 := Option.some.inj ((show Tryz.prog.funcNamed "loop.example/maltrun/laws.FnExactShareLeave" = some 4 by kernel_rfl).symm.trans hf) |>.symm
  obtain rfl : fn = Tryz.f4 := (Option.some.inj (Tryz.func4.symm.trans hfn)).symm
  refine ⟨by kernel_rfl, fun j t ht => ?_⟩
  rw [Tryz.params4] at ht
  have hm : t = 25 ∨ t = 9 := by simpa using Array.mem_of_getElem? ht
  rcases hm with rfl | rfl
  · exact (show Tryz.prog.wantsStandIn 25 = false by kernel_rfl)
  · exact (show Tryz.prog.wantsStandIn 9 = false by kernel_rfl)

theorem fnExactShareLeave_card : Rows.FnExactShareLeaveCardSaid :=
  Claim7.holds_tied_plain_at .later [] _ _ _ _ fnExactShareLeave_said (fun _ h => by cases h) (by kernel_rfl) (fun _ h => by cases h) fnExactShareLeave_row_tie rfl ⟨rfl, rfl⟩ (by kernel_rfl) rfl fnExactShareLeave_plain (by kernel_rfl)
end Go.Proofs.YtialglmnfchfmaeGreatDoor
