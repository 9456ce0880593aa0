/-
  PROVED: for every recipe and every text handed to it, the law returns true, and both arguments read afterwards as they read before: the program's RecSlots answers as the specification's, text by text; it writes nothing into its argument; its answer owns its memory: marks written into the argument do not reach it, and marks written into it outlast another call.
  CONDITIONS: the program's table of the ends' names holds what its initialiser lays (tied to the program's text by the given tie); the form's own reach.
-/
import Derived.Test.YtkfclahdofjhjagDoorCards
import Derived.Test.YtkfclahdofjhjagDoorTie
import Derived.Test.YtkfclahdofjhjagDoorLawSlots
import Derived.Test.YtkfclahdofjhjagDoorLay
import Derived.Test.YtkfclahdofjhjagDoorTp
import Derived.Test.YtkfclahdofjhjagDoorTs
namespace Go.Proofs.YtkfclahdofjhjagDoor
open Go.ChangeShapes Go.WideShapes Go.ChangeAt Go.RowKit
open Go.ChangeMaps (open_string)

set_option maxRecDepth 100000 in
theorem fnExactRecSlots_contract (H : Type) (enc : TypeId × Value → H) (W : World) (base : Nat) (args : Array Value) (ds gs : List (DataW H)) (before : List MemPlace)
    (hval : ∀ (j : Nat) t v, Tryd.f4.params[j]? = some t → args[j]? = some v → Value.okWide Tryd.prog W .any base t v)
    (hW : DataW.Whole enc Tryd.prog Tryd.f4.params.toList Rows.fnExactRecSlotsSpec.vars false W args.toList ds gs before) (hL : laidMetH Tryd.prog Rows.fnExactRecSlotsRow.laid W) :
    Calls Tryd.prog 4 args W fun e W' => ∃ v, e = .returned v ∧ Rows.fnExactRecSlotsSpec.post enc Tryd.prog Tryd.f4 false true false false W args v W' := by
  have hW' := hW
  have hlt := hW.lt
  obtain ⟨p, q, hA0, hV, rfl, hfz, hnd⟩ := hW
  have hA : DataW.TrodAll enc Tryd.prog W 0 (fun _ => true) true Tryd.f4.params.toList args.toList ds p := hA0
  rw [Tryd.params4] at hA hval
  obtain ⟨v0, vs0, d0, ds0, p0, q0, hargs, rfl, rfl, h0, r0⟩ := trodAll_cons hA
  obtain ⟨v1, vs1, d1, ds1, p1, q1, rfl, rfl, rfl, h1, r1⟩ := trodAll_cons r0
  obtain ⟨rfl, rfl, rfl⟩ := trodAll_nil r1
  obtain rfl : args = #[v0, v1] := by cases args; simp_all
  have hk0 := hval 0 22 v0 (by simp) (by simp)
  obtain ⟨a0, l0, c0, hv0⟩ := okWide_slice Tryd.underlying22 hk0
  obtain ⟨ps0, hsrc0, hs0⟩ := src_of_trod ⟨_, _, _, hv0⟩ h0
  have hk1 := hval 1 9 v1 (by simp) (by simp)
  have g1 := h1
  obtain ⟨s1, hv1, _, _, hs1⟩ := open_string Tryd.underlying9 hk1 g1
  subst hv1
  have hE : Ends W := Ends.of_laid hL
  obtain ⟨g1, rfl⟩ := one_var (n := "loop.example/maltrun/impl.recEndNames") hV
  refine (lawSlots_any ps0 v0 s1 W hE hsrc0 hs0 hs1).mono fun e' W' ⟨he, hb⟩ => ?_
  subst he
  refine ⟨_, rfl, _, _, _, [], p0 ++ (p1 ++ []), q, hW', ?_, ?_, ?_, hb.frame _, fun h => by cases h⟩
  · exact trodAll_cons_mk (shut_bool Tryd.underlying4 _) trodAll_mk0
  · exact (trodAll_cons_mk (Below.trod laidOut (by kernel_rfl) (of_decide_eq_true (by kernel_rfl)) h0 hb (fun x hx => hlt x (by simp [hx]))) (trodAll_cons_mk (Below.trod laidOut (by kernel_rfl) (of_decide_eq_true (by kernel_rfl)) h1 hb (fun x hx => hlt x (by simp [hx]))) trodAll_mk0))
  · exact hb.trodVars laidOut (by kernel_rfl) hV

theorem fnExactRecSlots_reads (os : Os) {H : Type} (enc : TypeId × Value → H) : ∃ ds gs places, DataW.whole enc Tryd.prog ((laidWorld os).forCall (fun _ _ => 0) ⟨#[], #[.slice none 0 0, .string ⟨#[]⟩], []⟩).memory Tryd.f4.params.toList Rows.fnExactRecSlotsSpec.vars false
    #[(.slice none 0 0 : Value), (.string ⟨#[]⟩ : Value)].toList 8 = some (ds, gs, places) :=
  ⟨[.nil, .lit (.string [])], [Rows.laid_loop_example_maltrun_impl_recEndNames], [.cell 0 0, .cell 0 1, .cell 0 2], by kernel_rfl⟩

set_option maxRecDepth 100000 in
theorem fnExactRecSlots_lifted (os : Os) (started : os.Started) (H : Type) (enc : TypeId × Value → H) (F : Stop.Interp) :
    ReturnsInHanded {} Tryd.checked os 4 .any ((OpenSpec.ofChange Rows.fnExactRecSlotsSpec).preRow enc Tryd.prog Tryd.f4 Rows.fnExactRecSlotsRow.domain false Rows.fnExactRecSlotsRow.laid) (((OpenSpec.ofChange Rows.fnExactRecSlotsSpec).at F).post enc Tryd.prog Tryd.f4 false true false false) := by
  obtain ⟨ds, gs, places, hx⟩ := fnExactRecSlots_reads os enc
  refine returnsInHanded_of_row (C := Tryd.checked) (s := OpenSpec.ofChange Rows.fnExactRecSlotsSpec) own started (by kernel_rfl) Tryd.func4
    (witness_row_at (enc := enc) (C := Tryd.checked) false (laidWorld os) #[.slice none 0 0, .string ⟨#[]⟩] rfl (by kernel_rfl) (by kernel_rfl) (by kernel_rfl)
      (OpenSpec.preRow_of_cond 8 hx (by kernel_rfl) (fun k hk => by cases hk) (by kernel_rfl) (laid_met os _))) ?_
  intro W base args ds gs before hval hW _ _ _ hL _ _
  exact fnExactRecSlots_contract H enc W base args ds gs before hval hW hL

theorem fnExactRecSlots_said : Rows.FnExactRecSlotsSaid :=
  OpenClaim.holds_of_cond 4 Tryd.f4 rfl rfl rfl rfl rfl rfl rfl ⟨rfl, rfl, rfl, rfl, rfl⟩ rfl rfl rfl rfl rfl (by kernel_rfl) Tryd.func4 (by kernel_rfl)
    (of_decide_eq_true (by kernel_rfl)) (by unfold Func.isWrapper; first | (rw [if_pos (by decide +kernel)]; kernel_rfl) | (rw [if_neg (by decide +kernel)]; exact ⟨rfl, rfl⟩))
    (fun os started H enc _ F => by rw [OpenClaim.pre_eq_preRow]; exact fnExactRecSlots_lifted os started H enc F)

theorem fnExactRecSlots_plain (f : FuncId) (fn : Func) (hf : Tryd.pinned.checked.prog.funcNamed "loop.example/maltrun/laws.FnExactRecSlots" = some f) (hfn : Tryd.pinned.checked.prog.funcs[f]? = some fn) :
    true = Tryd.pinned.checked.prog.looks [] ∧ ∀ (j : Nat) t, fn.params[j]? = some t → Tryd.pinned.checked.prog.wantsStandIn t = false := by
  obtain rfl : f = 4 := Option.some.inj ((show Tryd.prog.funcNamed "loop.example/maltrun/laws.FnExactRecSlots" = some 4 by kernel_rfl).symm.trans hf) |>.symm
  obtain rfl : fn = Tryd.f4 := (Option.some.inj (Tryd.func4.symm.trans hfn)).symm
  refine ⟨by kernel_rfl, fun j t ht => ?_⟩
  rw [Tryd.params4] at ht
  have hm : t = 22 ∨ t = 9 := by simpa using Array.mem_of_getElem? ht
  rcases hm with rfl | rfl
  · exact (show Tryd.prog.wantsStandIn 22 = false by kernel_rfl)
  · exact (show Tryd.prog.wantsStandIn 9 = false by kernel_rfl)

theorem fnExactRecSlots_card : Rows.FnExactRecSlotsCardSaid :=
  Claim7.holds_tied_plain_at .later [] _ _ _ _ fnExactRecSlots_said (fun _ h => by cases h) (by kernel_rfl) (fun _ h => by cases h) fnExactRecSlots_row_tie rfl ⟨rfl, rfl⟩ (by kernel_rfl) rfl fnExactRecSlots_plain (by kernel_rfl)
end Go.Proofs.YtkfclahdofjhjagDoor
