/-
  PROVED: for every recipe and every list of says handed to it, the law of RecRun returns true, and they read afterwards as they read before: so at every argument the program's RecRun answers as the specification's, field by field and name by name, writes into no argument, keeps nothing of one, and its answer owns its memory, behind another call too.
  CONDITIONS: the program's table of the ends' names holds what its initialiser lays (tied to the program's text by the given tie); the form's own reach.
-/
import Derived.Test.YtkapodkidlgkjahDoorCards
import Derived.Test.YtkapodkidlgkjahDoorTie
import Derived.Test.YtkapodkidlgkjahDoorL1
import Derived.Test.YtkapodkidlgkjahDoorLawRun
namespace Go.Proofs.YtkapodkidlgkjahDoor
open Go.ChangeShapes Go.WideShapes Go.ChangeAt Go.RowKit
open Go.ChangeMaps (open_string)

set_option maxRecDepth 100000 in
theorem fnExactRecRun_contract (H : Type) (enc : TypeId × Value → H) (W : World) (base : Nat) (args : Array Value) (ds gs : List (DataW H)) (before : List MemPlace)
    (hval : ∀ (j : Nat) t v, Tryd.f7.params[j]? = some t → args[j]? = some v → Value.okWide Tryd.prog W .any base t v)
    (hW : DataW.Whole enc Tryd.prog Tryd.f7.params.toList Rows.fnExactRecRunSpec.vars false W args.toList ds gs before) (hL : laidMetH Tryd.prog Rows.fnExactRecRunRow.laid W) :
    Calls Tryd.prog 7 args W fun e W' => ∃ v, e = .returned v ∧ Rows.fnExactRecRunSpec.post enc Tryd.prog Tryd.f7 false true false false W args v W' := by
  have hW' := hW
  have hlt := hW.lt
  obtain ⟨p, q, hA0, hV, rfl, hfz, hnd⟩ := hW
  have hA : DataW.TrodAll enc Tryd.prog W 0 (fun _ => true) true Tryd.f7.params.toList args.toList ds p := hA0
  rw [Tryd.params7] at hA hval
  obtain ⟨v0, vs0, d0, ds0, p0, q0, hargs, rfl, rfl, h0, r0⟩ := trodAll_cons hA
  obtain ⟨v1, vs1, d1, ds1, p1, q1, rfl, rfl, rfl, h1, r1⟩ := trodAll_cons r0
  obtain ⟨rfl, rfl, rfl⟩ := trodAll_nil r1
  obtain rfl : args = #[v0, v1] := by cases args; simp_all
  have hk0 := hval 0 22 v0 (by simp) (by simp)
  obtain ⟨a0, l0, c0, hv0⟩ := okWide_slice Tryd.underlying22 hk0
  obtain ⟨ps0, hsrc0, hs0⟩ := src_of_trod ⟨_, _, _, hv0⟩ h0
  have hk1 := hval 1 45 v1 (by simp) (by simp)
  obtain ⟨a1, l1, c1, hv1⟩ := okWide_slice Tryd.underlying45 hk1
  obtain ⟨ys1, hsrc1⟩ := says_of_trod ⟨_, _, _, hv1⟩ h1
  have hE : Ends W := Ends.of_laid hL
  obtain ⟨g1, rfl⟩ := one_var (n := "loop.example/maltrun/impl.recEndNames") hV
  refine (lawRun_any ps0 v0 ys1 v1 W hE hsrc0 hs0 hsrc1).mono fun e' W' ⟨he, hb⟩ => ?_
  subst he
  refine ⟨_, rfl, _, _, _, [], p0 ++ (p1 ++ []), q, hW', ?_, ?_, ?_, hb.frame _, fun h => by cases h⟩
  · exact trodAll_cons_mk (shut_bool Tryd.underlying4 _) trodAll_mk0
  · exact (trodAll_cons_mk (Below.trod laidOut (by kernel_rfl) (of_decide_eq_true (by kernel_rfl)) h0 hb (fun x hx => hlt x (by simp [hx]))) (trodAll_cons_mk (Below.trod laidOut (by kernel_rfl) (of_decide_eq_true (by kernel_rfl)) h1 hb (fun x hx => hlt x (by simp [hx]))) trodAll_mk0))
  · exact hb.trodVars laidOut (by kernel_rfl) hV

theorem fnExactRecRun_reads (os : Os) {H : Type} (enc : TypeId × Value → H) : ∃ ds gs places, DataW.whole enc Tryd.prog ((laidWorld os).forCall (fun _ _ => 0) ⟨#[], #[.slice none 0 0, .slice none 0 0], []⟩).memory Tryd.f7.params.toList Rows.fnExactRecRunSpec.vars false
    #[(.slice none 0 0 : Value), (.slice none 0 0 : Value)].toList 8 = some (ds, gs, places) :=
  ⟨[.nil, .nil], [Rows.laid_loop_example_maltrun_impl_recEndNames], [.cell 0 0, .cell 0 1, .cell 0 2], by kernel_rfl⟩

set_option maxRecDepth 100000 in
theorem fnExactRecRun_lifted (os : Os) (started : os.Started) (H : Type) (enc : TypeId × Value → H) (F : Stop.Interp) :
    ReturnsInHanded {} Tryd.checked os 7 .any ((OpenSpec.ofChange Rows.fnExactRecRunSpec).preRow enc Tryd.prog Tryd.f7 Rows.fnExactRecRunRow.domain false Rows.fnExactRecRunRow.laid) (((OpenSpec.ofChange Rows.fnExactRecRunSpec).at F).post enc Tryd.prog Tryd.f7 false true false false) := by
  obtain ⟨ds, gs, places, hx⟩ := fnExactRecRun_reads os enc
  refine returnsInHanded_of_row (C := Tryd.checked) (s := OpenSpec.ofChange Rows.fnExactRecRunSpec) own started (by kernel_rfl) Tryd.func7
    (witness_row_at (enc := enc) (C := Tryd.checked) false (laidWorld os) #[.slice none 0 0, .slice none 0 0] rfl (by kernel_rfl) (by kernel_rfl) (by kernel_rfl)
      (OpenSpec.preRow_of_cond 8 hx (by kernel_rfl) (fun k hk => by cases hk) (by kernel_rfl) (laid_met os _))) ?_
  intro W base args ds gs before hval hW _ _ _ hL _ _
  exact fnExactRecRun_contract H enc W base args ds gs before hval hW hL

theorem fnExactRecRun_said : Rows.FnExactRecRunSaid :=
  OpenClaim.holds_of_cond 7 Tryd.f7 rfl rfl rfl rfl rfl rfl rfl ⟨rfl, rfl, rfl, rfl, rfl⟩ rfl rfl rfl rfl rfl (by kernel_rfl) Tryd.func7 (by kernel_rfl)
    (of_decide_eq_true (by kernel_rfl)) (by unfold Func.isWrapper; first | (rw [if_pos (by decide +kernel)]; kernel_rfl) | (rw [if_neg (by decide +kernel)]; exact ⟨rfl, rfl⟩))
    (fun os started H enc _ F => by rw [OpenClaim.pre_eq_preRow]; exact fnExactRecRun_lifted os started H enc F)

theorem fnExactRecRun_plain (f : FuncId) (fn : Func) (hf : Tryd.pinned.checked.prog.funcNamed "loop.example/maltrun/laws.FnExactRecRun" = some f) (hfn : Tryd.pinned.checked.prog.funcs[f]? = some fn) :
    true = Tryd.pinned.checked.prog.looks [] ∧ ∀ (j : Nat) t, fn.params[j]? = some t → Tryd.pinned.checked.prog.wantsStandIn t = false := by
  obtain rfl : f = 7 := Option.some.inj ((show Tryd.prog.funcNamed "loop.example/maltrun/laws.FnExactRecRun" = some 7 by kernel_rfl).symm.trans hf) |>.symm
  obtain rfl : fn = Tryd.f7 := (Option.some.inj (Tryd.func7.symm.trans hfn)).symm
  refine ⟨by kernel_rfl, fun j t ht => ?_⟩
  rw [Tryd.params7] at ht
  have hm : t = 22 ∨ t = 45 := by simpa using Array.mem_of_getElem? ht
  rcases hm with rfl | rfl
  · exact (show Tryd.prog.wantsStandIn 22 = false by kernel_rfl)
  · exact (show Tryd.prog.wantsStandIn 45 = false by kernel_rfl)

theorem fnExactRecRun_card : Rows.FnExactRecRunCardSaid :=
  Claim7.holds_tied_plain_at .later [] _ _ _ _ fnExactRecRun_said (fun _ h => by cases h) (by kernel_rfl) (fun _ h => by cases h) fnExactRecRun_row_tie rfl ⟨rfl, rfl⟩ (by kernel_rfl) rfl fnExactRecRun_plain (by kernel_rfl)
end Go.Proofs.YtkapodkidlgkjahDoor
