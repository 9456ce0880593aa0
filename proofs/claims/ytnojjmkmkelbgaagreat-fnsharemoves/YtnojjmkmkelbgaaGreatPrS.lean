/-
  PROVED: for every two codes handed to it, the law of promises 14 and 15 returns true, on every tape, and the codes read afterwards as they read before: for every book that the first code draws the program's ShareMoves and ShareStuck, which look at each batch by a goroutine of its own, answer as the specification's, a book that is stuck is not safe, and who moves waits on nobody, and who waits on nobody moves, in a book that is well formed; and for every book and name that the second code draws ShareWaits answers as the specification's, and nobody waits on itself; no run has a race.
  CONDITIONS: the form's own reach, no other.
-/
import Derived.Test.YtnojjmkmkelbgaaGreatRows
import Derived.Test.YtnojjmkmkelbgaaGreatJ34
import Derived.Test.YtnojjmkmkelbgaaGreatJ26
import Derived.Test.YtnojjmkmkelbgaaGreatJ51
namespace Go.Proofs.YtnojjmkmkelbgaaGreat
open Go.ChangeShapes Go.WideShapes Go.ChangeAt Go.RowKit Go.Conc

theorem BelR.below {W w : World} (h : BelR W w) : Below W.heap.size W { w with tape := W.tape } := ⟨h.os, rfl, h.output, h.size, h.block⟩
theorem EndsG.mono {P : Program} {Post Post' : Value → World → Prop} {m : Machine} {t : Trace} (h : EndsG P Post m t) (hp : ∀ v w, Post v w → Post' v w) : EndsG P Post' m t := by
  obtain ⟨N, last, o, w', t', h1, h2, h3, h4⟩ := h
  exact ⟨N, last, o, w', t', h1, h2, h3, h4.mono fun v => hp v w'⟩

set_option maxRecDepth 100000 in
theorem fnShareMoves_runs (H : Type) (enc : TypeId × Value → H) (W : World) (base : Nat) (args : Array Value) (ds gs : List (DataW H)) (before : List MemPlace) (hsh : W.ShapedOpen Tryz.prog)
    (hval : ∀ (j : Nat) t v, Tryz.f3.params[j]? = some t → args[j]? = some v → Value.okWide Tryz.prog W .any base t v)
    (hW : DataW.Whole enc Tryz.prog Tryz.f3.params.toList Rows.fnShareMovesSpec.vars false W args.toList ds gs before) :
    EndsG Tryz.prog (fun v W' => Rows.fnShareMovesSpec.post enc Tryz.prog Tryz.f3 false true false false W args v W') (crowd #[G (Frame.enter Tryz.prog 3 args .normal) []] W none) #[] := by
  have hW' := hW
  have hlt := hW.lt
  obtain ⟨p, q, hA0, hV, rfl, hfz, hnd⟩ := hW
  have hA : DataW.TrodAll enc Tryz.prog W 0 (fun _ => true) true Tryz.f3.params.toList args.toList ds p := hA0
  rw [Tryz.params3] at hA hval
  obtain ⟨v0, vs0, d0, ds0, p0, q0, hargs, rfl, rfl, h0, r0⟩ := trodAll_cons hA
  obtain ⟨v1, vs1, d1, ds1, p1, q1, rfl, rfl, rfl, h1, r1⟩ := trodAll_cons r0
  obtain ⟨rfl, rfl, rfl⟩ := trodAll_nil r1
  obtain rfl : args = #[v0, v1] := by cases args; simp_all
  have hk0 := hval 0 22 v0 (by simp) (by simp)
  obtain ⟨a0, l0, c0, hv0⟩ := okWide_slice Tryz.underlying22 hk0
  obtain ⟨x0, n0, k0, rfl, hsrc0, hcap0, hbig0⟩ := bytes_of_trod ⟨_, _, _, hv0⟩ h0
  have hk1 := hval 1 22 v1 (by simp) (by simp)
  obtain ⟨a1, l1, c1, hv1⟩ := okWide_slice Tryz.underlying22 hk1
  obtain ⟨x1, n1, k1, rfl, hsrc1, hcap1, hbig1⟩ := bytes_of_trod ⟨_, _, _, hv1⟩ h1
  obtain ⟨rfl, rfl⟩ := trodVars_none hV
  refine (law_ends hsrc0 hcap0 hbig0 hsrc1 hcap1 hbig1 (none_waits hsh)).mono fun v W' ⟨he, hb⟩ => ?_
  subst he
  have hb := hb.below
  refine ⟨_, _, _, [], p0 ++ (p1 ++ []), [], hW', ?_, ?_, ?_, ?_, fun h => by cases h⟩
  · exact trodAll_cons_mk (shut_bool Tryz.underlying4 _) trodAll_mk0
  · exact DataW.TrodAll.of_heap (w := { W' with tape := W.tape }) (w' := W') rfl (trodAll_cons_mk (Below.trod laidOut (by kernel_rfl) (of_decide_eq_true (by kernel_rfl)) h0 hb (fun x hx => hlt x (by simp [hx]))) (trodAll_cons_mk (Below.trod laidOut (by kernel_rfl) (of_decide_eq_true (by kernel_rfl)) h1 hb (fun x hx => hlt x (by simp [hx]))) trodAll_mk0))
  · exact DataW.TrodVars.of_heap (w := { W' with tape := W.tape }) (w' := W') rfl (hb.trodVars laidOut (by kernel_rfl) hV)
  · have hf := hb.frame (fun p => p ∈ p0 ++ (p1 ++ []) ++ [] ∧ (p ∈ ([] : List MemPlace) ∨ p ∈ p0 ++ (p1 ++ []) ∨ p ∈ ([] : List MemPlace)))
    exact ⟨hf.1, hf.2.1, hf.2.2⟩

set_option maxRecDepth 100000 in
theorem fnShareMoves_lifted (os : Os) (started : os.Started) (H : Type) (enc : TypeId × Value → H) :
    ReturnsInLeavingWide {} Tryz.checked os 3 .any (Rows.fnShareMovesSpec.pre6 enc Tryz.prog Tryz.f3 Rows.fnShareMovesRow.domain false) (Rows.fnShareMovesSpec.post enc Tryz.prog Tryz.f3 false true false false) := by
  refine leaving_of (C := Tryz.checked) own started Tryz.func3
    (ChangeSpec.witness6 (enc := enc) (C := Tryz.checked) false ⟨#[], #[.slice none 0 0, .slice none 0 0], []⟩ 8 (by kernel_rfl) (by kernel_rfl) (by kernel_rfl) (by kernel_rfl)) ?_
  intro W base args ds gs before hsh hval hW
  exact fnShareMoves_runs H enc W base args ds gs before hsh hval hW

theorem fnShareMoves_said : Rows.FnShareMovesSaid :=
  OpenClaim.holds_of_wide_leaving 3 Tryz.f3 rfl rfl rfl rfl rfl rfl rfl ⟨rfl, rfl, rfl, rfl, rfl⟩ rfl rfl rfl rfl rfl (by kernel_rfl) Tryz.func3 (by kernel_rfl)
    (of_decide_eq_true (by kernel_rfl)) (by unfold Func.isWrapper; first | (rw [if_pos (by decide +kernel)]; kernel_rfl) | (rw [if_neg (by decide +kernel)]; exact ⟨rfl, rfl⟩))
    (fun os started H enc _ => fnShareMoves_lifted os started H enc)
end Go.Proofs.YtnojjmkmkelbgaaGreat
