/-
  PROVED: for every recipe, every state and every say handed to it, the law of RecGo returns true, and they read afterwards as they read before: so at every argument the program's RecGo answers as the specification's, field by field, and writes into no argument.
  CONDITIONS: the program's table of the ends' names holds what its initialiser lays (tied to the program's text by the given tie); the form's own reach.
-/
import Derived.Test.YtkapodkidlgkjahDoorCards
import Derived.Test.YtkapodkidlgkjahDoorTie
import Derived.Test.YtkapodkidlgkjahDoorTs
import Derived.Test.YtkapodkidlgkjahDoorTr
import Derived.Test.YtkapodkidlgkjahDoorLawGo
namespace Go.Proofs.YtkapodkidlgkjahDoor
open Go.ChangeShapes Go.WideShapes Go.ChangeAt Go.RowKit
open Go.ChangeMaps (open_string)

set_option maxRecDepth 100000 in
theorem fnExactRecGo_contract (H : Type) (enc : TypeId × Value → H) (W : World) (base : Nat) (args : Array Value) (ds gs : List (DataW H)) (before : List MemPlace)
    (hval : ∀ (j : Nat) t v, Tryd.f6.params[j]? = some t → args[j]? = some v → Value.okWide Tryd.prog W .any base t v)
    (hW : DataW.Whole enc Tryd.prog Tryd.f6.params.toList Rows.fnExactRecGoSpec.vars false W args.toList ds gs before) (hL : laidMetH Tryd.prog Rows.fnExactRecGoRow.laid W) :
    Calls Tryd.prog 6 args W fun e W' => ∃ v, e = .returned v ∧ Rows.fnExactRecGoSpec.post enc Tryd.prog Tryd.f6 false true false false W args v W' := by
  have hW' := hW
  have hlt := hW.lt
  obtain ⟨p, q, hA0, hV, rfl, hfz, hnd⟩ := hW
  have hA : DataW.TrodAll enc Tryd.prog W 0 (fun _ => true) true Tryd.f6.params.toList args.toList ds p := hA0
  rw [Tryd.params6] at hA hval
  obtain ⟨v0, vs0, d0, ds0, p0, q0, hargs, rfl, rfl, h0, r0⟩ := trodAll_cons hA
  obtain ⟨v1, vs1, d1, ds1, p1, q1, rfl, rfl, rfl, h1, r1⟩ := trodAll_cons r0
  obtain ⟨v2, vs2, d2, ds2, p2, q2, rfl, rfl, rfl, h2, r2⟩ := trodAll_cons r1
  obtain ⟨rfl, rfl, rfl⟩ := trodAll_nil r2
  obtain rfl : args = #[v0, v1, v2] := by cases args; simp_all
  have hk0 := hval 0 22 v0 (by simp) (by simp)
  obtain ⟨a0, l0, c0, hv0⟩ := okWide_slice Tryd.underlying22 hk0
  obtain ⟨ps0, hsrc0, hs0⟩ := src_of_trod ⟨_, _, _, hv0⟩ h0
  have hk1 := hval 1 35 v1 (by simp) (by simp)
  obtain ⟨cs1, rfl, _⟩ := okWide_struct Tryd.underlying35 hk1
  have g1 := h1
  obtain ⟨fuel1, hf1⟩ := g1
  obtain ⟨s1, hcs1, _⟩ := trod_state hf1
  obtain rfl : cs1 = #[.string s1.nm, .int .i64 s1.now, .int .i64 s1.left] := by cases cs1; simpa [Value.cells] using hcs1
  have hk2 := hval 2 37 v2 (by simp) (by simp)
  obtain ⟨cs2, rfl, _⟩ := okWide_struct Tryd.underlying37 hk2
  have g2 := h2
  obtain ⟨fuel2, hf2⟩ := g2
  obtain ⟨s2, hcs2, _⟩ := trod_say hf2
  obtain rfl : cs2 = #[.int .i64 s2.t, .bool s2.well] := by cases cs2; simpa [Value.cells] using hcs2
  have hE : Ends W := Ends.of_laid hL
  obtain ⟨g1, rfl⟩ := one_var (n := "loop.example/maltrun/impl.recEndNames") hV
  refine (lawGo_any ps0 v0 s1 s2 W hE hsrc0 hs0).mono fun e' W' ⟨he, hb⟩ => ?_
  subst he
  refine ⟨_, rfl, _, _, _, [], p0 ++ (p1 ++ (p2 ++ [])), q, hW', ?_, ?_, ?_, hb.frame _, fun h => by cases h⟩
  · exact trodAll_cons_mk (shut_bool Tryd.underlying4 _) trodAll_mk0
  · exact (trodAll_cons_mk (Below.trod laidOut (by kernel_rfl) (of_decide_eq_true (by kernel_rfl)) h0 hb (fun x hx => hlt x (by simp [hx]))) (trodAll_cons_mk (Below.trod laidOut (by kernel_rfl) (of_decide_eq_true (by kernel_rfl)) h1 hb (fun x hx => hlt x (by simp [hx]))) (trodAll_cons_mk (Below.trod laidOut (by kernel_rfl) (of_decide_eq_true (by kernel_rfl)) h2 hb (fun x hx => hlt x (by simp [hx]))) trodAll_mk0)))
  · exact hb.trodVars laidOut (by kernel_rfl) hV

theorem fnExactRecGo_reads (os : Os) {H : Type} (enc : TypeId × Value → H) : ∃ ds gs places, DataW.whole enc Tryd.prog ((laidWorld os).forCall (fun _ _ => 0) ⟨#[], #[.slice none 0 0, .agg #[.string ⟨#[]⟩, .int .i64 0, .int .i64 0], .agg #[.int .i64 0, .bool false]], []⟩).memory Tryd.f6.params.toList Rows.fnExactRecGoSpec.vars false
    #[(.slice none 0 0 : Value), (.agg #[.string ⟨#[]⟩, .int .i64 0, .int .i64 0] : Value), (.agg #[.int .i64 0, .bool false] : Value)].toList 8 = some (ds, gs, places) :=
  ⟨[.nil, .agg [.lit (.string []), .lit (.int .i64 0), .lit (.int .i64 0)], .agg [.lit (.int .i64 0), .lit (.bool false)]], [Rows.laid_loop_example_maltrun_impl_recEndNames], [.cell 0 0, .cell 0 1, .cell 0 2], by kernel_rfl⟩

set_option maxRecDepth 100000 in
theorem fnExactRecGo_lifted (os : Os) (started : os.Started) (H : Type) (enc : TypeId × Value → H) (F : Stop.Interp) :
    ReturnsInHanded {} Tryd.checked os 6 .any ((OpenSpec.ofChange Rows.fnExactRecGoSpec).preRow enc Tryd.prog Tryd.f6 Rows.fnExactRecGoRow.domain false Rows.fnExactRecGoRow.laid) (((OpenSpec.ofChange Rows.fnExactRecGoSpec).at F).post enc Tryd.prog Tryd.f6 false true false false) := by
  obtain ⟨ds, gs, places, hx⟩ := fnExactRecGo_reads os enc
  refine returnsInHanded_of_row (C := Tryd.checked) (s := OpenSpec.ofChange Rows.fnExactRecGoSpec) own started (by kernel_rfl) Tryd.func6
    (witness_row_at (enc := enc) (C := Tryd.checked) false (laidWorld os) #[.slice none 0 0, .agg #[.string ⟨#[]⟩, .int .i64 0, .int .i64 0], .agg #[.int .i64 0, .bool false]] rfl (by kernel_rfl) (by kernel_rfl) (by kernel_rfl)
      (OpenSpec.preRow_of_cond 8 hx (by kernel_rfl) (fun k hk => by cases hk) (by kernel_rfl) (laid_met os _))) ?_
  intro W base args ds gs before hval hW _ _ _ hL _ _
  exact fnExactRecGo_contract H enc W base args ds gs before hval hW hL

theorem fnExactRecGo_said : Rows.FnExactRecGoSaid :=
  OpenClaim.holds_of_cond 6 Tryd.f6 rfl rfl rfl rfl rfl rfl rfl ⟨rfl, rfl, rfl, rfl, rfl⟩ rfl rfl rfl rfl rfl (by kernel_rfl) Tryd.func6 (by kernel_rfl)
    (of_decide_eq_true (by kernel_rfl)) (by unfold Func.isWrapper; first | (rw [if_pos (by decide +kernel)]; kernel_rfl) | (rw [if_neg (by decide +kernel)]; exact ⟨rfl, rfl⟩))
    (fun os started H enc _ F => by rw [OpenClaim.pre_eq_preRow]; exact fnExactRecGo_lifted os started H enc F)

theorem fnExactRecGo_plain (f : FuncId) (fn : Func) (hf : Tryd.pinned.checked.prog.funcNamed "loop.example/maltrun/laws.FnExactRecGo" = some f) (hfn : Tryd.pinned.checked.prog.funcs[f]? = some fn) :
    true = Tryd.pinned.checked.prog.looks [] ∧ ∀ (j : Nat) t, fn.params[j]? = some t → Tryd.pinned.checked.prog.wantsStandIn t = false := by
  obtain rfl : f = 6 := Option.some.inj ((show Tryd.prog.funcNamed "loop.example/maltrun/laws.FnExactRecGo" = some 6 by kernel_rfl).symm.trans hf) |>.symm
  obtain rfl : fn = Tryd.f6 := (Option.some.inj (Tryd.func6.symm.trans hfn)).symm
  refine ⟨by kernel_rfl, fun j t ht => ?_⟩
  rw [Tryd.params6] at ht
  have hm : t = 22 ∨ t = 35 ∨ t = 37 := by simpa using Array.mem_of_getElem? ht
  rcases hm with rfl | rfl | rfl
  · exact (show Tryd.prog.wantsStandIn 22 = false by kernel_rfl)
  · exact (show Tryd.prog.wantsStandIn 35 = false by kernel_rfl)
  · exact (show Tryd.prog.wantsStandIn 37 = false by kernel_rfl)

theorem fnExactRecGo_card : Rows.FnExactRecGoCardSaid :=
  Claim7.holds_tied_plain_at .later [] _ _ _ _ fnExactRecGo_said (fun _ h => by cases h) (by kernel_rfl) (fun _ h => by cases h) fnExactRecGo_row_tie rfl ⟨rfl, rfl⟩ (by kernel_rfl) rfl fnExactRecGo_plain (by kernel_rfl)
end Go.Proofs.YtkapodkidlgkjahDoor
