/-
  PROVED: for every book, name and list handed to it, the law of ShareEnter returns true, and the book and the list read afterwards as they read before: so at every argument the program's ShareEnter answers as the specification's, book and code, writes into no argument, keeps nothing of one, and its answer owns its memory, behind another call too.
  CONDITIONS: the errors package's variable errorType holds the handle that its initialiser lays (tied to the program's text by the given tie); the form's own reach.
-/
import Derived.Test.YtialglmnfchfmadGreatDoorCards
import Derived.Test.YtialglmnfchfmadGreatDoorTie
import Derived.Test.YtialglmnfchfmadGreatDoorK21
import Derived.Test.YtialglmnfchfmadGreatDoorTk
import Derived.Test.YtialglmnfchfmadGreatDoorLawLe
namespace Go.Proofs.YtialglmnfchfmadGreatDoor
open Go.ChangeShapes Go.WideShapes Go.ChangeAt Go.RowKit
open Go.ChangeMaps (open_string)

set_option maxRecDepth 100000 in
theorem fnExactShareEnter_contract (H : Type) (enc : TypeId × Value → H) (W : World) (base : Nat) (args : Array Value) (ds gs : List (DataW H)) (before : List MemPlace)
    (hval : ∀ (j : Nat) t v, Tryz.f3.params[j]? = some t → args[j]? = some v → Value.okWide Tryz.prog W .any base t v)
    (hW : DataW.Whole enc Tryz.prog Tryz.f3.params.toList Rows.fnExactShareEnterSpec.vars false W args.toList ds gs before) (hL : laidMetH Tryz.prog Rows.fnExactShareEnterRow.laid W) :
    Calls Tryz.prog 3 args W fun e W' => ∃ v, e = .returned v ∧ Rows.fnExactShareEnterSpec.post enc Tryz.prog Tryz.f3 false true false false W args v W' := by
  have hW' := hW
  have hlt := hW.lt
  obtain ⟨p, q, hA0, hV, rfl, hfz, hnd⟩ := hW
  have hA : DataW.TrodAll enc Tryz.prog W 0 (fun _ => true) true Tryz.f3.params.toList args.toList ds p := hA0
  rw [Tryz.params3] at hA hval
  obtain ⟨v0, vs0, d0, ds0, p0, q0, hargs, rfl, rfl, h0, r0⟩ := trodAll_cons hA
  obtain ⟨v1, vs1, d1, ds1, p1, q1, rfl, rfl, rfl, h1, r1⟩ := trodAll_cons r0
  obtain ⟨v2, vs2, d2, ds2, p2, q2, rfl, rfl, rfl, h2, r2⟩ := trodAll_cons r1
  obtain ⟨rfl, rfl, rfl⟩ := trodAll_nil r2
  obtain rfl : args = #[v0, v1, v2] := by cases args; simp_all
  have hk0 := hval 0 25 v0 (by simp) (by simp)
  obtain ⟨cs0, rfl, _⟩ := okWide_struct Tryz.underlying25 hk0
  have g0 := h0
  obtain ⟨fuel0, hf0⟩ := g0
  obtain ⟨b0, hsr0⟩ := bk_of_trod hf0
  have hsrc0 : BkV W (.agg cs0) b0 := by simpa [Value.cells] using hsr0
  have hk1 := hval 1 9 v1 (by simp) (by simp)
  have g1 := h1
  obtain ⟨s1, hv1, _, _, hs1⟩ := open_string Tryz.underlying9 hk1 g1
  subst hv1
  have hk2 := hval 2 22 v2 (by simp) (by simp)
  obtain ⟨a2, l2, c2, hv2⟩ := okWide_slice Tryz.underlying22 hk2
  have g2 := h2
  obtain ⟨fuel2, hf2⟩ := g2
  obtain ⟨ss2, hsrc2⟩ : ∃ ss, Ls W v2 ss := by subst hv2; exact ls_of_trod (by simpa [Value.cells] using hf2)
  have hE : ErrT W := ErrT.of_laid hL
  obtain ⟨rfl, rfl⟩ := trodVars_none hV
  refine (lawEnter_any b0 _ s1 ss2 v2 W hE hsrc0 hs1 hsrc2).mono fun e' W' ⟨he, hb⟩ => ?_
  subst he
  refine ⟨_, rfl, _, _, _, [], p0 ++ (p1 ++ (p2 ++ [])), [], hW', ?_, ?_, ?_, hb.frame _, fun h => by cases h⟩
  · exact trodAll_cons_mk (shut_bool Tryz.underlying4 _) trodAll_mk0
  · exact (trodAll_cons_mk (Below.trod laidOut (by kernel_rfl) (of_decide_eq_true (by kernel_rfl)) h0 hb (fun x hx => hlt x (by simp [hx]))) (trodAll_cons_mk (Below.trod laidOut (by kernel_rfl) (of_decide_eq_true (by kernel_rfl)) h1 hb (fun x hx => hlt x (by simp [hx]))) (trodAll_cons_mk (Below.trod laidOut (by kernel_rfl) (of_decide_eq_true (by kernel_rfl)) h2 hb (fun x hx => hlt x (by simp [hx]))) trodAll_mk0)))
  · exact hb.trodVars laidOut (by kernel_rfl) hV

theorem fnExactShareEnter_reads (os : Os) {H : Type} (enc : TypeId × Value → H) : ∃ ds gs places, DataW.whole enc Tryz.prog ((laidWorldE os).forCall (fun _ _ => 0) ⟨#[], #[.agg #[.slice none 0 0, .slice none 0 0], .string ⟨#[]⟩, .slice none 0 0], []⟩).memory Tryz.f3.params.toList Rows.fnExactShareEnterSpec.vars false
    #[(.agg #[.slice none 0 0, .slice none 0 0] : Value), (.string ⟨#[]⟩ : Value), (.slice none 0 0 : Value)].toList 8 = some (ds, gs, places) :=
  ⟨[.agg [.nil, .nil], .lit (.string []), .nil], [], [], by kernel_rfl⟩

set_option maxRecDepth 100000 in
theorem fnExactShareEnter_lifted (os : Os) (started : os.Started) (H : Type) (enc : TypeId × Value → H) (F : Stop.Interp) :
    ReturnsInHanded {} Tryz.checked os 3 .any ((OpenSpec.ofChange Rows.fnExactShareEnterSpec).preRow enc Tryz.prog Tryz.f3 Rows.fnExactShareEnterRow.domain false Rows.fnExactShareEnterRow.laid) (((OpenSpec.ofChange Rows.fnExactShareEnterSpec).at F).post enc Tryz.prog Tryz.f3 false true false false) := by
  obtain ⟨ds, gs, places, hx⟩ := fnExactShareEnter_reads os enc
  refine returnsInHanded_of_row (C := Tryz.checked) (s := OpenSpec.ofChange Rows.fnExactShareEnterSpec) own started (by kernel_rfl) Tryz.func3
    (witness_row_at (enc := enc) (C := Tryz.checked) false (laidWorldE os) #[.agg #[.slice none 0 0, .slice none 0 0], .string ⟨#[]⟩, .slice none 0 0] rfl (by kernel_rfl) (by kernel_rfl) (by kernel_rfl)
      (OpenSpec.preRow_of_cond 8 hx (by kernel_rfl) (fun k hk => by cases hk) (by kernel_rfl) (laidE_met os _))) ?_
  intro W base args ds gs before hval hW _ _ _ hL _ _
  exact fnExactShareEnter_contract H enc W base args ds gs before hval hW hL

theorem fnExactShareEnter_said : Rows.FnExactShareEnterSaid :=
  OpenClaim.holds_of_cond 3 Tryz.f3 rfl rfl rfl rfl rfl rfl rfl ⟨rfl, rfl, rfl, rfl, rfl⟩ rfl rfl rfl rfl rfl (by kernel_rfl) Tryz.func3 (by kernel_rfl)
    (of_decide_eq_true (by kernel_rfl)) (by unfold Func.isWrapper; first | (rw [if_pos (by decide +kernel)]; kernel_rfl) | (rw [if_neg (by decide +kernel)]; exact ⟨rfl, rfl⟩))
    (fun os started H enc _ F => by rw [OpenClaim.pre_eq_preRow]; exact fnExactShareEnter_lifted os started H enc F)

theorem fnExactShareEnter_plain (f : FuncId) (fn : Func) (hf : Tryz.pinned.checked.prog.funcNamed "loop.example/maltrun/laws.FnExactShareEnter" = some f) (hfn : Tryz.pinned.checked.prog.funcs[f]? = some fn) :
    true = Tryz.pinned.checked.prog.looks [] ∧ ∀ (j : Nat) t, fn.params[j]? = some t → Tryz.pinned.checked.prog.wantsStandIn t = false := by
  obtain rfl : f = 3 := Option.some.inj ((show Tryz.prog.funcNamed "loop.example/maltrun/laws.FnExactShareEnter" = some 3 by kernel_rfl).symm.trans hf) |>.symm
  obtain rfl : fn = Tryz.f3 := (Option.some.inj (Tryz.func3.symm.trans hfn)).symm
  refine ⟨by kernel_rfl, fun j t ht => ?_⟩
  rw [Tryz.params3] at ht
  have hm : t = 25 ∨ t = 9 ∨ t = 22 := by simpa using Array.mem_of_getElem? ht
  rcases hm with rfl | rfl | rfl
  · exact (show Tryz.prog.wantsStandIn 25 = false by kernel_rfl)
  · exact (show Tryz.prog.wantsStandIn 9 = false by kernel_rfl)
  · exact (show Tryz.prog.wantsStandIn 22 = false by kernel_rfl)

theorem fnExactShareEnter_card : Rows.FnExactShareEnterCardSaid :=
  Claim7.holds_tied_plain_at .later [] _ _ _ _ fnExactShareEnter_said (fun _ h => by cases h) (by kernel_rfl) (fun _ h => by cases h) fnExactShareEnter_row_tie rfl ⟨rfl, rfl⟩ (by kernel_rfl) rfl fnExactShareEnter_plain (by kernel_rfl)
end Go.Proofs.YtialglmnfchfmadGreatDoor
