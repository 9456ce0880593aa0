/-
  PROVED: for every two codes handed to it, the law of promise 10 returns true, and the codes read afterwards as they read before: for every book that a code draws the program's ShareOrder, ShareSafe and ShareBookOk answer as the specification's, a book is safe just if some order of all fits, tried by all orders, and the order told of fits; and for every book and order that the other code draws ShareFits answers as the specification's, and an order fits only in a book that is safe.
  CONDITIONS: the form's own reach, no other.
-/
import Derived.Test.YthpcadlohahblabRows
import Derived.Test.YthpcadlohahblabLawSo
import Derived.Test.YthpcadlohahblabTb0
import Derived.Test.YthpcadlohahblabLay0
namespace Go.Proofs.Ythpcadlohahblab
open Go.ChangeShapes Go.WideShapes Go.ChangeAt Go.RowKit
open Go.ChangeMaps (open_string)

set_option maxRecDepth 100000 in
theorem fnShareOrder_contract (H : Type) (enc : TypeId × Value → H) (W : World) (base : Nat) (args : Array Value) (ds gs : List (DataW H)) (before : List MemPlace)
    (hval : ∀ (j : Nat) t v, Try.f3.params[j]? = some t → args[j]? = some v → Value.okWide Try.prog W .any base t v)
    (hW : DataW.Whole enc Try.prog Try.f3.params.toList Rows.fnShareOrderSpec.vars false W args.toList ds gs before) :
    Calls Try.prog 3 args W fun e W' => ∃ v, e = .returned v ∧ Rows.fnShareOrderSpec.post enc Try.prog Try.f3 false true false false W args v W' := by
  have hW' := hW
  have hlt := hW.lt
  obtain ⟨p, q, hA0, hV, rfl, hfz, hnd⟩ := hW
  have hA : DataW.TrodAll enc Try.prog W 0 (fun _ => true) true Try.f3.params.toList args.toList ds p := hA0
  rw [Try.params3] at hA hval
  obtain ⟨v0, vs0, d0, ds0, p0, q0, hargs, rfl, rfl, h0, r0⟩ := trodAll_cons hA
  obtain ⟨v1, vs1, d1, ds1, p1, q1, rfl, rfl, rfl, h1, r1⟩ := trodAll_cons r0
  obtain ⟨rfl, rfl, rfl⟩ := trodAll_nil r1
  obtain rfl : args = #[v0, v1] := by cases args; simp_all
  have hk0 := hval 0 22 v0 (by simp) (by simp)
  obtain ⟨a0, l0, c0, hv0⟩ := okWide_slice Try.underlying22 hk0
  obtain ⟨x0, n0, k0, rfl, hsrc0, hcap0, hbig0⟩ := bytes_of_trod ⟨_, _, _, hv0⟩ h0
  have hk1 := hval 1 22 v1 (by simp) (by simp)
  obtain ⟨a1, l1, c1, hv1⟩ := okWide_slice Try.underlying22 hk1
  obtain ⟨x1, n1, k1, rfl, hsrc1, hcap1, hbig1⟩ := bytes_of_trod ⟨_, _, _, hv1⟩ h1
  obtain ⟨rfl, rfl⟩ := trodVars_none hV
  refine (lawShareOrder_any x0 n0 k0 x1 n1 k1 W hsrc0 hcap0 hbig0 hsrc1 hcap1 hbig1).mono fun e' W' ⟨he, hb⟩ => ?_
  subst he
  refine ⟨_, rfl, _, _, _, [], p0 ++ (p1 ++ []), [], hW', ?_, ?_, ?_, hb.frame _, fun h => by cases h⟩
  · exact trodAll_cons_mk (shut_bool Try.underlying4 _) trodAll_mk0
  · exact (trodAll_cons_mk (Below.trod laidOut (by kernel_rfl) (of_decide_eq_true (by kernel_rfl)) h0 hb (fun x hx => hlt x (by simp [hx]))) (trodAll_cons_mk (Below.trod laidOut (by kernel_rfl) (of_decide_eq_true (by kernel_rfl)) h1 hb (fun x hx => hlt x (by simp [hx]))) trodAll_mk0))
  · exact hb.trodVars laidOut (by kernel_rfl) hV

noncomputable def fnShareOrder_world (os : Os) : World := World.holding Try.prog os ⟨#[], #[], []⟩
theorem fnShareOrder_reads (os : Os) {H : Type} (enc : TypeId × Value → H) : ∃ ds gs places, DataW.whole enc Try.prog ((fnShareOrder_world os).forCall (fun _ _ => 0) ⟨#[], #[.slice none 0 0, .slice none 0 0], []⟩).memory Try.f3.params.toList Rows.fnShareOrderSpec.vars false
    #[(.slice none 0 0 : Value), (.slice none 0 0 : Value)].toList 8 = some (ds, gs, places) :=
  ⟨[.nil, .nil], [], [], by kernel_rfl⟩

set_option maxRecDepth 100000 in
theorem fnShareOrder_lifted (os : Os) (started : os.Started) (H : Type) (enc : TypeId × Value → H) (F : Stop.Interp) :
    ReturnsInHanded {} Try.checked os 3 .any ((OpenSpec.ofChange Rows.fnShareOrderSpec).preRow enc Try.prog Try.f3 Rows.fnShareOrderRow.domain false Rows.fnShareOrderRow.laid) (((OpenSpec.ofChange Rows.fnShareOrderSpec).at F).post enc Try.prog Try.f3 false true false false) := by
  obtain ⟨ds, gs, places, hx⟩ := fnShareOrder_reads os enc
  refine returnsInHanded_of_row (C := Try.checked) (s := OpenSpec.ofChange Rows.fnShareOrderSpec) own started (by kernel_rfl) Try.func3
    (witness_row_at (enc := enc) (C := Try.checked) false (fnShareOrder_world os) #[.slice none 0 0, .slice none 0 0] rfl (by kernel_rfl) (by kernel_rfl) (by kernel_rfl)
      (OpenSpec.preRow_of_cond 8 hx (by kernel_rfl) (fun k hk => by cases hk) (by kernel_rfl) (laidMet_nil _ _))) ?_
  intro W base args ds gs before hval hW _ _ _ _ _ _
  exact fnShareOrder_contract H enc W base args ds gs before hval hW

theorem fnShareOrder_said : Rows.FnShareOrderSaid :=
  OpenClaim.holds_of_cond 3 Try.f3 rfl rfl rfl rfl rfl rfl rfl ⟨rfl, rfl, rfl, rfl, rfl⟩ rfl rfl rfl rfl rfl (by kernel_rfl) Try.func3 (by kernel_rfl)
    (of_decide_eq_true (by kernel_rfl)) (by unfold Func.isWrapper; first | (rw [if_pos (by decide +kernel)]; kernel_rfl) | (rw [if_neg (by decide +kernel)]; exact ⟨rfl, rfl⟩))
    (fun os started H enc _ F => by rw [OpenClaim.pre_eq_preRow]; exact fnShareOrder_lifted os started H enc F)
end Go.Proofs.Ythpcadlohahblab
