/-
  PROVED: for every two codes handed to it, the law of promise 20 (FnRunThings) returns true, and both read afterwards as they read before: what a drawn batch may yet need, and what it needs now, are told as the specification tells them; what may be needed behind a phase was among what might be needed from it on; what is needed now is among what may yet be needed, and it is something.
  CONDITIONS: the program's table of the ends' names holds what its initialiser lays (tied to the program's text by the given tie); the form's own reach.
-/
import Derived.Test.YtliebjbbomghiaaGreatDoorCards
import Derived.Test.YtliebjbbomghiaaGreatDoorTie
import Derived.Test.YtliebjbbomghiaaGreatDoorJ1
import Derived.Test.YtliebjbbomghiaaGreatDoorJ48
namespace Go.Proofs.YtliebjbbomghiaaGreatDoor
open Go.ChangeShapes Go.WideShapes Go.ChangeAt Go.RowKit
open Go.ChangeMaps (open_string)

set_option maxRecDepth 100000 in
theorem fnRunThings_contract (H : Type) (enc : TypeId × Value → H) (W : World) (base : Nat) (args : Array Value) (ds gs : List (DataW H)) (before : List MemPlace)
    (hval : ∀ (j : Nat) t v, Tryz.f3.params[j]? = some t → args[j]? = some v → Value.okWide Tryz.prog W .any base t v)
    (hW : DataW.Whole enc Tryz.prog Tryz.f3.params.toList Rows.fnRunThingsSpec.vars false W args.toList ds gs before) (hL : laidMetH Tryz.prog Rows.fnRunThingsRow.laid W) :
    Calls Tryz.prog 3 args W fun e W' => ∃ v, e = .returned v ∧ Rows.fnRunThingsSpec.post enc Tryz.prog Tryz.f3 false true false false W args v W' := by
  have hW' := hW
  have hlt := hW.lt
  obtain ⟨p, q, hA0, hV, rfl, hfz, hnd⟩ := hW
  have hA : DataW.TrodAll enc Tryz.prog W 0 (fun _ => true) true Tryz.f3.params.toList args.toList ds p := hA0
  rw [Tryz.params3] at hA hval
  obtain ⟨v0, vs0, d0, ds0, p0, q0, hargs, rfl, rfl, h0, r0⟩ := trodAll_cons hA
  obtain ⟨v1, vs1, d1, ds1, p1, q1, rfl, rfl, rfl, h1, r1⟩ := trodAll_cons r0
  obtain ⟨rfl, rfl, rfl⟩ := trodAll_nil r1
  obtain rfl : args = #[v0, v1] := by cases args; simp_all
  have hk0 := hval 0 22 v0 (by simp) (by simp)
  obtain ⟨a0, l0, c0, hv0⟩ := okWide_slice Tryz.underlying22 hk0
  obtain ⟨x0, n0, k0, rfl, hsrc0, hcap0, hbig0⟩ := bytes_of_trod ⟨_, _, _, hv0⟩ h0
  have hk1 := hval 1 22 v1 (by simp) (by simp)
  obtain ⟨a1, l1, c1, hv1⟩ := okWide_slice Tryz.underlying22 hk1
  obtain ⟨x1, n1, k1, rfl, hsrc1, hcap1, hbig1⟩ := bytes_of_trod ⟨_, _, _, hv1⟩ h1
  have hE : Ends W := Ends.of_laid hL
  obtain ⟨g1, rfl⟩ := one_var (n := "loop.example/maltrun/impl.recEndNames") hV
  refine (lawRunThings_any x0 n0 k0 x1 n1 k1 W hE hsrc0 hcap0 hbig0 hsrc1 hcap1 hbig1).mono fun e' W' ⟨he, hb⟩ => ?_
  subst he
  refine ⟨_, rfl, _, _, _, [], p0 ++ (p1 ++ []), q, hW', ?_, ?_, ?_, hb.frame _, fun h => by cases h⟩
  · exact trodAll_cons_mk (shut_bool Tryz.underlying4 _) trodAll_mk0
  · exact (trodAll_cons_mk (Below.trod laidOut (by kernel_rfl) (of_decide_eq_true (by kernel_rfl)) h0 hb (fun x hx => hlt x (by simp [hx]))) (trodAll_cons_mk (Below.trod laidOut (by kernel_rfl) (of_decide_eq_true (by kernel_rfl)) h1 hb (fun x hx => hlt x (by simp [hx]))) trodAll_mk0))
  · exact hb.trodVars laidOut (by kernel_rfl) hV

theorem fnRunThings_reads (os : Os) {H : Type} (enc : TypeId × Value → H) : ∃ ds gs places, DataW.whole enc Tryz.prog ((laidWorld os).forCall (fun _ _ => 0) ⟨#[], #[.slice none 0 0, .slice none 0 0], []⟩).memory Tryz.f3.params.toList Rows.fnRunThingsSpec.vars false
    #[(.slice none 0 0 : Value), (.slice none 0 0 : Value)].toList 8 = some (ds, gs, places) :=
  ⟨[.nil, .nil], [Rows.laid_loop_example_maltrun_impl_recEndNames], [.cell 0 0, .cell 0 1, .cell 0 2], by kernel_rfl⟩

set_option maxRecDepth 100000 in
theorem fnRunThings_lifted (os : Os) (started : os.Started) (H : Type) (enc : TypeId × Value → H) (F : Stop.Interp) :
    ReturnsInHanded {} Tryz.checked os 3 .any ((OpenSpec.ofChange Rows.fnRunThingsSpec).preRow enc Tryz.prog Tryz.f3 Rows.fnRunThingsRow.domain false Rows.fnRunThingsRow.laid) (((OpenSpec.ofChange Rows.fnRunThingsSpec).at F).post enc Tryz.prog Tryz.f3 false true false false) := by
  obtain ⟨ds, gs, places, hx⟩ := fnRunThings_reads os enc
  refine returnsInHanded_of_row (C := Tryz.checked) (s := OpenSpec.ofChange Rows.fnRunThingsSpec) own started (by kernel_rfl) Tryz.func3
    (witness_row_at (enc := enc) (C := Tryz.checked) false (laidWorld os) #[.slice none 0 0, .slice none 0 0] rfl (by kernel_rfl) (by kernel_rfl) (by kernel_rfl)
      (OpenSpec.preRow_of_cond 8 hx (by kernel_rfl) (fun k hk => by cases hk) (by kernel_rfl) (laid_met os _))) ?_
  intro W base args ds gs before hval hW _ _ _ hL _ _
  exact fnRunThings_contract H enc W base args ds gs before hval hW hL

theorem fnRunThings_said : Rows.FnRunThingsSaid :=
  OpenClaim.holds_of_cond 3 Tryz.f3 rfl rfl rfl rfl rfl rfl rfl ⟨rfl, rfl, rfl, rfl, rfl⟩ rfl rfl rfl rfl rfl (by kernel_rfl) Tryz.func3 (by kernel_rfl)
    (of_decide_eq_true (by kernel_rfl)) (by unfold Func.isWrapper; first | (rw [if_pos (by decide +kernel)]; kernel_rfl) | (rw [if_neg (by decide +kernel)]; exact ⟨rfl, rfl⟩))
    (fun os started H enc _ F => by rw [OpenClaim.pre_eq_preRow]; exact fnRunThings_lifted os started H enc F)

theorem fnRunThings_plain (f : FuncId) (fn : Func) (hf : Tryz.pinned.checked.prog.funcNamed "loop.example/maltrun/laws.FnRunThings" = some f) (hfn : Tryz.pinned.checked.prog.funcs[f]? = some fn) :
    true = Tryz.pinned.checked.prog.looks [] ∧ ∀ (j : Nat) t, fn.params[j]? = some t → Tryz.pinned.checked.prog.wantsStandIn t = false := by
  obtain rfl : f = 3 := Option.some.inj ((show Tryz.prog.funcNamed "loop.example/maltrun/laws.FnRunThings" = some 3 by kernel_rfl).symm.trans hf) |>.symm
  obtain rfl : fn = Tryz.f3 := (Option.some.inj (Tryz.func3.symm.trans hfn)).symm
  refine ⟨by kernel_rfl, fun j t ht => ?_⟩
  rw [Tryz.params3] at ht
  have hm : t = 22 ∨ t = 22 := by simpa using Array.mem_of_getElem? ht
  rcases hm with rfl | rfl
  · exact (show Tryz.prog.wantsStandIn 22 = false by kernel_rfl)
  · exact (show Tryz.prog.wantsStandIn 22 = false by kernel_rfl)

theorem fnRunThings_card : Rows.FnRunThingsCardSaid :=
  Claim7.holds_tied_plain_at .later [] _ _ _ _ fnRunThings_said (fun _ h => by cases h) (by kernel_rfl) (fun _ h => by cases h) fnRunThings_row_tie rfl ⟨rfl, rfl⟩ (by kernel_rfl) rfl fnRunThings_plain (by kernel_rfl)
end Go.Proofs.YtliebjbbomghiaaGreatDoor
