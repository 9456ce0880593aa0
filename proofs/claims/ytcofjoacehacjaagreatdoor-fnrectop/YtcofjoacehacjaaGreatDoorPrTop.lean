/-
  PROVED: for every code handed to it, the law of promises 1 to 3 (FnRecTop) returns true, and the code reads afterwards as it read before: a drawn run of a drawn recipe comes to an end that was told of, in time, and what may still be used becomes less from phase to phase.
  CONDITIONS: the program's table of the ends' names holds what its initialiser lays (tied to the program's text by the given tie); the form's own reach.
-/
import Derived.Test.YtcofjoacehacjaaGreatDoorCards
import Derived.Test.YtcofjoacehacjaaGreatDoorTie
import Derived.Test.YtcofjoacehacjaaGreatDoorJ4
import Derived.Test.YtcofjoacehacjaaGreatDoorLawTop
namespace Go.Proofs.YtcofjoacehacjaaGreatDoor
open Go.ChangeShapes Go.WideShapes Go.ChangeAt Go.RowKit
open Go.ChangeMaps (open_string)

set_option maxRecDepth 100000 in
theorem fnRecTop_contract (H : Type) (enc : TypeId × Value → H) (W : World) (base : Nat) (args : Array Value) (ds gs : List (DataW H)) (before : List MemPlace)
    (hval : ∀ (j : Nat) t v, Tryz.f3.params[j]? = some t → args[j]? = some v → Value.okWide Tryz.prog W .any base t v)
    (hW : DataW.Whole enc Tryz.prog Tryz.f3.params.toList Rows.fnRecTopSpec.vars false W args.toList ds gs before) (hL : laidMetH Tryz.prog Rows.fnRecTopRow.laid W) :
    Calls Tryz.prog 3 args W fun e W' => ∃ v, e = .returned v ∧ Rows.fnRecTopSpec.post enc Tryz.prog Tryz.f3 false true false false W args v W' := by
  have hW' := hW
  have hlt := hW.lt
  obtain ⟨p, q, hA0, hV, rfl, hfz, hnd⟩ := hW
  have hA : DataW.TrodAll enc Tryz.prog W 0 (fun _ => true) true Tryz.f3.params.toList args.toList ds p := hA0
  rw [Tryz.params3] at hA hval
  obtain ⟨v0, vs0, d0, ds0, p0, q0, hargs, rfl, rfl, h0, r0⟩ := trodAll_cons hA
  obtain ⟨rfl, rfl, rfl⟩ := trodAll_nil r0
  obtain rfl : args = #[v0] := by cases args; simp_all
  have hk0 := hval 0 22 v0 (by simp) (by simp)
  obtain ⟨a0, l0, c0, hv0⟩ := okWide_slice Tryz.underlying22 hk0
  obtain ⟨x0, n0, k0, rfl, hsrc0, hcap0, hbig0⟩ := bytes_of_trod ⟨_, _, _, hv0⟩ h0
  have hE : Ends W := Ends.of_laid hL
  obtain ⟨g1, rfl⟩ := one_var (n := "loop.example/maltrun/impl.recEndNames") hV
  refine (lawTop_any x0 n0 k0 W hE hsrc0 hcap0 hbig0).mono fun e' W' ⟨he, hb⟩ => ?_
  subst he
  refine ⟨_, rfl, _, _, _, [], p0 ++ [], q, hW', ?_, ?_, ?_, hb.frame _, fun h => by cases h⟩
  · exact trodAll_cons_mk (shut_bool Tryz.underlying4 _) trodAll_mk0
  · exact (trodAll_cons_mk (Below.trod laidOut (by kernel_rfl) (of_decide_eq_true (by kernel_rfl)) h0 hb (fun x hx => hlt x (by simp [hx]))) trodAll_mk0)
  · exact hb.trodVars laidOut (by kernel_rfl) hV

theorem fnRecTop_reads (os : Os) {H : Type} (enc : TypeId × Value → H) : ∃ ds gs places, DataW.whole enc Tryz.prog ((laidWorld os).forCall (fun _ _ => 0) ⟨#[], #[.slice none 0 0], []⟩).memory Tryz.f3.params.toList Rows.fnRecTopSpec.vars false
    #[(.slice none 0 0 : Value)].toList 8 = some (ds, gs, places) :=
  ⟨[.nil], [Rows.laid_loop_example_maltrun_impl_recEndNames], [.cell 0 0, .cell 0 1, .cell 0 2], by kernel_rfl⟩

set_option maxRecDepth 100000 in
theorem fnRecTop_lifted (os : Os) (started : os.Started) (H : Type) (enc : TypeId × Value → H) (F : Stop.Interp) :
    ReturnsInHanded {} Tryz.checked os 3 .any ((OpenSpec.ofChange Rows.fnRecTopSpec).preRow enc Tryz.prog Tryz.f3 Rows.fnRecTopRow.domain false Rows.fnRecTopRow.laid) (((OpenSpec.ofChange Rows.fnRecTopSpec).at F).post enc Tryz.prog Tryz.f3 false true false false) := by
  obtain ⟨ds, gs, places, hx⟩ := fnRecTop_reads os enc
  refine returnsInHanded_of_row (C := Tryz.checked) (s := OpenSpec.ofChange Rows.fnRecTopSpec) own started (by kernel_rfl) Tryz.func3
    (witness_row_at (enc := enc) (C := Tryz.checked) false (laidWorld os) #[.slice none 0 0] rfl (by kernel_rfl) (by kernel_rfl) (by kernel_rfl)
      (OpenSpec.preRow_of_cond 8 hx (by kernel_rfl) (fun k hk => by cases hk) (by kernel_rfl) (laid_met os _))) ?_
  intro W base args ds gs before hval hW _ _ _ hL _ _
  exact fnRecTop_contract H enc W base args ds gs before hval hW hL

theorem fnRecTop_said : Rows.FnRecTopSaid :=
  OpenClaim.holds_of_cond 3 Tryz.f3 rfl rfl rfl rfl rfl rfl rfl ⟨rfl, rfl, rfl, rfl, rfl⟩ rfl rfl rfl rfl rfl (by kernel_rfl) Tryz.func3 (by kernel_rfl)
    (of_decide_eq_true (by kernel_rfl)) (by unfold Func.isWrapper; first | (rw [if_pos (by decide +kernel)]; kernel_rfl) | (rw [if_neg (by decide +kernel)]; exact ⟨rfl, rfl⟩))
    (fun os started H enc _ F => by rw [OpenClaim.pre_eq_preRow]; exact fnRecTop_lifted os started H enc F)

theorem fnRecTop_plain (f : FuncId) (fn : Func) (hf : Tryz.pinned.checked.prog.funcNamed "loop.example/maltrun/laws.FnRecTop" = some f) (hfn : Tryz.pinned.checked.prog.funcs[f]? = some fn) :
    true = Tryz.pinned.checked.prog.looks [] ∧ ∀ (j : Nat) t, fn.params[j]? = some t → Tryz.pinned.checked.prog.wantsStandIn t = false := by
  obtain rfl : f = 3 := Option.some.inj ((show Tryz.prog.funcNamed "loop.example/maltrun/laws.FnRecTop" = some 3 by kernel_rfl).symm.trans hf) |>.symm
  obtain rfl : fn = Tryz.f3 := (Option.some.inj (Tryz.func3.symm.trans hfn)).symm
  refine ⟨by kernel_rfl, fun j t ht => ?_⟩
  rw [Tryz.params3] at ht
  obtain rfl : t = 22 := by simpa using Array.mem_of_getElem? ht
  exact (show Tryz.prog.wantsStandIn 22 = false by kernel_rfl)

theorem fnRecTop_card : Rows.FnRecTopCardSaid :=
  Claim7.holds_tied_plain_at .later [] _ _ _ _ fnRecTop_said (fun _ h => by cases h) (by kernel_rfl) (fun _ h => by cases h) fnRecTop_row_tie rfl ⟨rfl, rfl⟩ (by kernel_rfl) rfl fnRecTop_plain (by kernel_rfl)
end Go.Proofs.YtcofjoacehacjaaGreatDoor
