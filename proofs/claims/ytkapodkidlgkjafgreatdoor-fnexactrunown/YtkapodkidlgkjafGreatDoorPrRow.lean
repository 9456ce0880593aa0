/-
  PROVED: for every batch handed to it, the law returns true, and the batch reads afterwards as it read before: the program's RunOwn answers as the specification's, text by text; it writes nothing into its argument; its answer owns its memory: marks written into the argument do not reach it, and marks written into it outlast another call.
  CONDITIONS: the program's table of the ends' names holds what its initialiser lays (tied to the program's text by the given tie); the form's own reach.
-/
import Derived.Test.YtkapodkidlgkjafGreatDoorCards
import Derived.Test.YtkapodkidlgkjafGreatDoorTie
import Derived.Test.YtkapodkidlgkjafGreatDoorLawUo
import Derived.Test.YtkapodkidlgkjafGreatDoorJ46
import Derived.Test.YtkapodkidlgkjafGreatDoorTu
namespace Go.Proofs.YtkapodkidlgkjafGreatDoor
open Go.ChangeShapes Go.WideShapes Go.ChangeAt Go.RowKit
open Go.ChangeMaps (open_string)

set_option maxRecDepth 100000 in
theorem fnExactRunOwn_contract (H : Type) (enc : TypeId × Value → H) (W : World) (base : Nat) (args : Array Value) (ds gs : List (DataW H)) (before : List MemPlace)
    (hval : ∀ (j : Nat) t v, Tryz.f3.params[j]? = some t → args[j]? = some v → Value.okWide Tryz.prog W .any base t v)
    (hW : DataW.Whole enc Tryz.prog Tryz.f3.params.toList Rows.fnExactRunOwnSpec.vars false W args.toList ds gs before) (hL : laidMetH Tryz.prog Rows.fnExactRunOwnRow.laid W) :
    Calls Tryz.prog 3 args W fun e W' => ∃ v, e = .returned v ∧ Rows.fnExactRunOwnSpec.post enc Tryz.prog Tryz.f3 false true false false W args v W' := by
  have hW' := hW
  have hlt := hW.lt
  obtain ⟨p, q, hA0, hV, rfl, hfz, hnd⟩ := hW
  have hA : DataW.TrodAll enc Tryz.prog W 0 (fun _ => true) true Tryz.f3.params.toList args.toList ds p := hA0
  rw [Tryz.params3] at hA hval
  obtain ⟨v0, vs0, d0, ds0, p0, q0, hargs, rfl, rfl, h0, r0⟩ := trodAll_cons hA
  obtain ⟨rfl, rfl, rfl⟩ := trodAll_nil r0
  obtain rfl : args = #[v0] := by cases args; simp_all
  have hk0 := hval 0 25 v0 (by simp) (by simp)
  obtain ⟨cs0, rfl, _⟩ := okWide_struct Tryz.underlying25 hk0
  have g0 := h0
  obtain ⟨fuel0, hf0⟩ := g0
  obtain ⟨x0, rv0, sv0, hcs0, hsrc0⟩ := rb_of_trod hf0
  obtain rfl : cs0 = #[.string x0.nm, rv0, sv0, .string x0.ad, .int .i64 x0.si, .int .i64 x0.st] := by cases cs0; simpa [Value.cells] using hcs0
  have hE : Ends W := Ends.of_laid hL
  obtain ⟨g1, rfl⟩ := one_var (n := "loop.example/maltrun/impl.recEndNames") hV
  refine (lawOwn_any x0 rv0 sv0 W hE hsrc0).mono fun e' W' ⟨he, hb⟩ => ?_
  subst he
  refine ⟨_, rfl, _, _, _, [], p0 ++ [], q, hW', ?_, ?_, ?_, hb.frame _, fun h => by cases h⟩
  · exact trodAll_cons_mk (shut_bool Tryz.underlying4 _) trodAll_mk0
  · exact (trodAll_cons_mk (Below.trod laidOut (by kernel_rfl) (of_decide_eq_true (by kernel_rfl)) h0 hb (fun x hx => hlt x (by simp [hx]))) trodAll_mk0)
  · exact hb.trodVars laidOut (by kernel_rfl) hV

theorem fnExactRunOwn_reads (os : Os) {H : Type} (enc : TypeId × Value → H) : ∃ ds gs places, DataW.whole enc Tryz.prog ((laidWorld os).forCall (fun _ _ => 0) ⟨#[], #[.agg #[.string ⟨#[]⟩, .slice none 0 0, .slice none 0 0, .string ⟨#[]⟩, .int .i64 0, .int .i64 0]], []⟩).memory Tryz.f3.params.toList Rows.fnExactRunOwnSpec.vars false
    #[(.agg #[.string ⟨#[]⟩, .slice none 0 0, .slice none 0 0, .string ⟨#[]⟩, .int .i64 0, .int .i64 0] : Value)].toList 8 = some (ds, gs, places) :=
  ⟨[.agg [.lit (.string []), .nil, .nil, .lit (.string []), .lit (.int .i64 0), .lit (.int .i64 0)]], [Rows.laid_loop_example_maltrun_impl_recEndNames], [.cell 1 0, .cell 1 1, .cell 1 2], by kernel_rfl⟩

set_option maxRecDepth 100000 in
theorem fnExactRunOwn_lifted (os : Os) (started : os.Started) (H : Type) (enc : TypeId × Value → H) (F : Stop.Interp) :
    ReturnsInHanded {} Tryz.checked os 3 .any ((OpenSpec.ofChange Rows.fnExactRunOwnSpec).preRow enc Tryz.prog Tryz.f3 Rows.fnExactRunOwnRow.domain false Rows.fnExactRunOwnRow.laid) (((OpenSpec.ofChange Rows.fnExactRunOwnSpec).at F).post enc Tryz.prog Tryz.f3 false true false false) := by
  obtain ⟨ds, gs, places, hx⟩ := fnExactRunOwn_reads os enc
  refine returnsInHanded_of_row (C := Tryz.checked) (s := OpenSpec.ofChange Rows.fnExactRunOwnSpec) own started (by kernel_rfl) Tryz.func3
    (witness_row_at (enc := enc) (C := Tryz.checked) false (laidWorld os) #[.agg #[.string ⟨#[]⟩, .slice none 0 0, .slice none 0 0, .string ⟨#[]⟩, .int .i64 0, .int .i64 0]] rfl (by kernel_rfl) (by kernel_rfl) (by kernel_rfl)
      (OpenSpec.preRow_of_cond 8 hx (by kernel_rfl) (fun k hk => by cases hk) (by kernel_rfl) (laid_met os _))) ?_
  intro W base args ds gs before hval hW _ _ _ hL _ _
  exact fnExactRunOwn_contract H enc W base args ds gs before hval hW hL

theorem fnExactRunOwn_said : Rows.FnExactRunOwnSaid :=
  OpenClaim.holds_of_cond 3 Tryz.f3 rfl rfl rfl rfl rfl rfl rfl ⟨rfl, rfl, rfl, rfl, rfl⟩ rfl rfl rfl rfl rfl (by kernel_rfl) Tryz.func3 (by kernel_rfl)
    (of_decide_eq_true (by kernel_rfl)) (by unfold Func.isWrapper; first | (rw [if_pos (by decide +kernel)]; kernel_rfl) | (rw [if_neg (by decide +kernel)]; exact ⟨rfl, rfl⟩))
    (fun os started H enc _ F => by rw [OpenClaim.pre_eq_preRow]; exact fnExactRunOwn_lifted os started H enc F)

theorem fnExactRunOwn_plain (f : FuncId) (fn : Func) (hf : Tryz.pinned.checked.prog.funcNamed "loop.example/maltrun/laws.FnExactRunOwn" = some f) (hfn : Tryz.pinned.checked.prog.funcs[f]? = some fn) :
    true = Tryz.pinned.checked.prog.looks [] ∧ ∀ (j : Nat) t, fn.params[j]? = some t → Tryz.pinned.checked.prog.wantsStandIn t = false := by
  obtain rfl : f = 3 := Option.some.inj ((show Tryz.prog.funcNamed "loop.example/maltrun/laws.FnExactRunOwn" = some 3 by kernel_rfl).symm.trans hf) |>.symm
  obtain rfl : fn = Tryz.f3 := (Option.some.inj (Tryz.func3.symm.trans hfn)).symm
  refine ⟨by kernel_rfl, fun j t ht => ?_⟩
  rw [Tryz.params3] at ht
  obtain rfl : t = 25 := by simpa using Array.mem_of_getElem? ht
  exact (show Tryz.prog.wantsStandIn 25 = false by kernel_rfl)

theorem fnExactRunOwn_card : Rows.FnExactRunOwnCardSaid :=
  Claim7.holds_tied_plain_at .later [] _ _ _ _ fnExactRunOwn_said (fun _ h => by cases h) (by kernel_rfl) (fun _ h => by cases h) fnExactRunOwn_row_tie rfl ⟨rfl, rfl⟩ (by kernel_rfl) rfl fnExactRunOwn_plain (by kernel_rfl)
end Go.Proofs.YtkapodkidlgkjafGreatDoor
