/-
  PROVED: for every two codes handed to it, the law of needing less, going and coming returns true, and both read afterwards as they read before: what ShareLess, ShareLeave and ShareEnter answer is what the specification answers, and what is safe stays so.
  CONDITIONS: the errors package's variable errorType holds the handle that its initialiser lays (tied to the program's text by the given tie); the form's own reach.
-/
import Derived.Test.YtkgbdjdgcacblaaGreatDoorCards
import Derived.Test.YtkgbdjdgcacblaaGreatDoorTie
import Derived.Test.YtkgbdjdgcacblaaGreatDoorJ13
import Derived.Test.YtkgbdjdgcacblaaGreatDoorLawSl
import Derived.Test.YtkgbdjdgcacblaaGreatDoorJ48
namespace Go.Proofs.YtkgbdjdgcacblaaGreatDoor
open Go.ChangeShapes Go.WideShapes Go.ChangeAt Go.RowKit
open Go.ChangeMaps (open_string)

set_option maxRecDepth 100000 in
theorem fnShareLess_contract (H : Type) (enc : TypeId × Value → H) (W : World) (base : Nat) (args : Array Value) (ds gs : List (DataW H)) (before : List MemPlace)
    (hval : ∀ (j : Nat) t v, Tryz.f3.params[j]? = some t → args[j]? = some v → Value.okWide Tryz.prog W .any base t v)
    (hW : DataW.Whole enc Tryz.prog Tryz.f3.params.toList Rows.fnShareLessSpec.vars false W args.toList ds gs before) (hL : laidMetH Tryz.prog Rows.fnShareLessRow.laid W) :
    Calls Tryz.prog 3 args W fun e W' => ∃ v, e = .returned v ∧ Rows.fnShareLessSpec.post enc Tryz.prog Tryz.f3 false true false false W args v W' := by
  have hW' := hW
  have hlt := hW.lt
  obtain ⟨p, q, hA0, hV, rfl, hfz, hnd⟩ := hW
  have hA : DataW.TrodAll enc Tryz.prog W 0 (fun _ => true) true Tryz.f3.params.toList args.toList ds p := hA0
  rw [Tryz.params3] at hA hval
  obtain ⟨v0, vs0, d0, ds0, p0, q0, hargs, rfl, rfl, h0, r0⟩ := trodAll_cons hA
  obtain ⟨v1, vs1, d1, ds1, p1, q1, rfl, rfl, rfl, h1, r1⟩ := trodAll_cons r0
  obtain ⟨rfl, rfl, rfl⟩ := trodAll_nil r1
  obtain rfl : args = #[v0, v1] := by cases args; simp_all
  have hk0 := hval 0 22 v0 (by simp) (by simp)
  obtain ⟨a0, l0, c0, hv0⟩ := okWide_slice Tryz.underlying22 hk0
  obtain ⟨x0, n0, k0, rfl, hsrc0, hcap0, hbig0⟩ := bytes_of_trod ⟨_, _, _, hv0⟩ h0
  have hk1 := hval 1 22 v1 (by simp) (by simp)
  obtain ⟨a1, l1, c1, hv1⟩ := okWide_slice Tryz.underlying22 hk1
  obtain ⟨x1, n1, k1, rfl, hsrc1, hcap1, hbig1⟩ := bytes_of_trod ⟨_, _, _, hv1⟩ h1
  have hE : ErrT W := ErrT.of_laid hL
  obtain ⟨rfl, rfl⟩ := trodVars_none hV
  refine (lawShareLess_any x0 n0 k0 x1 n1 k1 W hE hsrc0 hcap0 hbig0 hsrc1 hcap1 hbig1).mono fun e' W' ⟨he, hb⟩ => ?_
  subst he
  refine ⟨_, rfl, _, _, _, [], p0 ++ (p1 ++ []), [], hW', ?_, ?_, ?_, hb.frame _, fun h => by cases h⟩
  · exact trodAll_cons_mk (shut_bool Tryz.underlying4 _) trodAll_mk0
  · exact (trodAll_cons_mk (Below.trod laidOut (by kernel_rfl) (of_decide_eq_true (by kernel_rfl)) h0 hb (fun x hx => hlt x (by simp [hx]))) (trodAll_cons_mk (Below.trod laidOut (by kernel_rfl) (of_decide_eq_true (by kernel_rfl)) h1 hb (fun x hx => hlt x (by simp [hx]))) trodAll_mk0))
  · exact hb.trodVars laidOut (by kernel_rfl) hV

theorem fnShareLess_reads (os : Os) {H : Type} (enc : TypeId × Value → H) : ∃ ds gs places, DataW.whole enc Tryz.prog ((laidWorldE os).forCall (fun _ _ => 0) ⟨#[], #[.slice none 0 0, .slice none 0 0], []⟩).memory Tryz.f3.params.toList Rows.fnShareLessSpec.vars false
    #[(.slice none 0 0 : Value), (.slice none 0 0 : Value)].toList 8 = some (ds, gs, places) :=
  ⟨[.nil, .nil], [], [], by kernel_rfl⟩

set_option maxRecDepth 100000 in
theorem fnShareLess_lifted (os : Os) (started : os.Started) (H : Type) (enc : TypeId × Value → H) (F : Stop.Interp) :
    ReturnsInHanded {} Tryz.checked os 3 .any ((OpenSpec.ofChange Rows.fnShareLessSpec).preRow enc Tryz.prog Tryz.f3 Rows.fnShareLessRow.domain false Rows.fnShareLessRow.laid) (((OpenSpec.ofChange Rows.fnShareLessSpec).at F).post enc Tryz.prog Tryz.f3 false true false false) := by
  obtain ⟨ds, gs, places, hx⟩ := fnShareLess_reads os enc
  refine returnsInHanded_of_row (C := Tryz.checked) (s := OpenSpec.ofChange Rows.fnShareLessSpec) own started (by kernel_rfl) Tryz.func3
    (witness_row_at (enc := enc) (C := Tryz.checked) false (laidWorldE os) #[.slice none 0 0, .slice none 0 0] rfl (by kernel_rfl) (by kernel_rfl) (by kernel_rfl)
      (OpenSpec.preRow_of_cond 8 hx (by kernel_rfl) (fun k hk => by cases hk) (by kernel_rfl) (laidE_met os _))) ?_
  intro W base args ds gs before hval hW _ _ _ hL _ _
  exact fnShareLess_contract H enc W base args ds gs before hval hW hL

theorem fnShareLess_said : Rows.FnShareLessSaid :=
  OpenClaim.holds_of_cond 3 Tryz.f3 rfl rfl rfl rfl rfl rfl rfl ⟨rfl, rfl, rfl, rfl, rfl⟩ rfl rfl rfl rfl rfl (by kernel_rfl) Tryz.func3 (by kernel_rfl)
    (of_decide_eq_true (by kernel_rfl)) (by unfold Func.isWrapper; first | (rw [if_pos (by decide +kernel)]; kernel_rfl) | (rw [if_neg (by decide +kernel)]; exact ⟨rfl, rfl⟩))
    (fun os started H enc _ F => by rw [OpenClaim.pre_eq_preRow]; exact fnShareLess_lifted os started H enc F)

theorem fnShareLess_plain (f : FuncId) (fn : Func) (hf : Tryz.pinned.checked.prog.funcNamed "loop.example/maltrun/laws.FnShareLess" = some f) (hfn : Tryz.pinned.checked.prog.funcs[f]? = some fn) :
    true = Tryz.pinned.checked.prog.looks [] ∧ ∀ (j : Nat) t, fn.params[j]? = some t → Tryz.pinned.checked.prog.wantsStandIn t = false := by
  obtain rfl : f = 3 := Option.some.inj ((show Tryz.prog.funcNamed "loop.example/maltrun/laws.FnShareLess" = some 3 by kernel_rfl).symm.trans hf) |>.symm
  obtain rfl : fn = Tryz.f3 := (Option.some.inj (Tryz.func3.symm.trans hfn)).symm
  refine ⟨by kernel_rfl, fun j t ht => ?_⟩
  rw [Tryz.params3] at ht
  have hm : t = 22 ∨ t = 22 := by simpa using Array.mem_of_getElem? ht
  rcases hm with rfl | rfl
  · exact (show Tryz.prog.wantsStandIn 22 = false by kernel_rfl)
  · exact (show Tryz.prog.wantsStandIn 22 = false by kernel_rfl)

/-- A tied card without a companion whose row may say that it goes. -/
theorem holds_tied_goes (Lk : Looks) {p : Pinned} {s : OpenSpec} {c : OpenClaim} (kinds : List LaidKind) (tests : Bool) (har : Bool × String) (lk g : Bool)
    (hc : c.holds p s) (hw : c.wfByText s = true) (htie : c.laidByTextAt Lk p kinds tests)
    (hst : c.start = .entering) (hnb : c.noBlocks = false ∧ c.again = false) (hm : p.checked.prog.mainIs = some (har.1, har.2.toList)) (hn : (!har.1 && har.2.isEmpty && !lk) = false)
    (hl : ∀ f fn, p.checked.prog.funcNamed c.func = some f → p.checked.prog.funcs[f]? = some fn → lk = p.checked.prog.looks [] ∧ ∀ (j : Nat) t, fn.params[j]? = some t → p.checked.prog.wantsStandIn t = false)
    (hg : g = c.goesBy p.checked.prog) :
    Claim7.holds p (.plain s) { stood := { row := c, standIns := [], harness := har, looks := lk }, kinds := [], alts := [], goes := g, laidByText := true, laidKinds := kinds, laidTests := tests, laidLooks := Lk } := by
  have h6 : Claim7.isSixth { stood := { row := c, standIns := [], harness := har, looks := lk }, kinds := [] } = false := by simpa [Claim7.isSixth] using hn
  refine ⟨Claim7.tied_new_at Lk kinds tests (Claim7.new_of_sixth hc har lk hst hnb hm h6 hl) hw, ?_, htie, ?_, hg⟩
  · intro D hD
    cases hD
  · intro h
    cases h

theorem fnShareLess_card : Rows.FnShareLessCardSaid :=
  holds_tied_goes .later _ _ _ _ _ fnShareLess_said (by kernel_rfl) fnShareLess_row_tie rfl ⟨rfl, rfl⟩ (by kernel_rfl) rfl fnShareLess_plain (by kernel_rfl)
end Go.Proofs.YtkgbdjdgcacblaaGreatDoor
