/- The law of RunThings: its walk. -/
import Derived.Test.YtialglmnfchfmaeGreatDoorM1
import Derived.Test.YtialglmnfchfmaeGreatDoorU7
import Derived.Test.YtialglmnfchfmaeGreatDoorCards
import Derived.Test.YtialglmnfchfmaeGreatDoorTie
import Derived.Test.YtialglmnfchfmaeGreatDoorL1
namespace Go.Proofs.YtialglmnfchfmaeGreatDoor
open Go.RowKit

theorem rbThings_len (x : Rb) (nm : ByteArray) : (rbThings x nm).length ≤ 24 := by
  by_cases h : RbOk x
  · rw [rbThings_ok h]
    have h1 := thE_len x.sl (slE x.ps nm)
    have h2 := slE_len x.ps nm
    have h12 : x.ps.length ≤ 12 := ((recB_iff x.ps).1 h.2.1).2.1
    omega
  · rw [rbThings_no h]; simp
set_option maxRecDepth 20000 in
set_option maxHeartbeats 8000000 in
theorem lawThings_any (x : Rb) (rv sv : Value) (nm : ByteArray) (w : World) (hE : Ends w) (h : RbSrc w x rv sv) (hnm : nm.size ≤ maxLen) :
    Calls Tryz.prog 5 #[.agg #[.string x.nm, rv, sv, .string x.ad, .int .i64 x.si, .int .i64 x.st], .string nm] w fun e' w' => e' = .returned (.bool true) ∧ Below w.heap.size w w' := by
  obtain ⟨a1, c1, hrv⟩ := h.r.shape
  obtain ⟨a2, c2, hsv⟩ := h.s.shape
  subst hrv hsv
  have hsl := rbThings_len x nm
  have hC : CB (w.alloc (.cells #[.string x.nm, .slice a1 x.ps.length c1, .slice a2 x.sl.length c2, .string x.ad, .int .i64 x.si, .int .i64 x.st] 44)) w.heap.size [.string x.nm, .slice a1 x.ps.length c1, .slice a2 x.sl.length c2, .string x.ad, .int .i64 x.si, .int .i64 x.st] := cb_alloc w _ _
  have hB0 := (Below.refl w.heap.size w).alloc (Nat.le_refl _) (.cells #[.string x.nm, .slice a1 x.ps.length c1, .slice a2 x.sl.length c2, .string x.ad, .int .i64 x.si, .int .i64 x.st] 44)
  go_enter Tryz.func5, Tryz.ntmps5
  go_upto_region 1 with fail
  generalize w.alloc (.cells #[.string x.nm, .slice a1 x.ps.length c1, .slice a2 x.sl.length c2, .string x.ad, .int .i64 x.si, .int .i64 x.st] 44) = W1 at *
  have hlt := hC.2.2
  have h1 := h.up hB0
  have hE1 := hE.up hB0
  clear h hE
  unfold maxLen at hnm
  by_cases hbig : 1048576 < nm.size
  · go_wp2_with fail
    go_ret
    exact ⟨rfl, hB0⟩
  obtain ⟨d0, d1, d2, d3, d4, d5⟩ := (hC.up (Below.refl _ _) hlt).c6
  go_wp2_with fail
  refine (szRb_any x _ _ _ h1 _ (by omega) (by omega)).mono ?_
  rintro e' w2 ⟨⟨y, rfl, hy, -⟩, hB2⟩
  clear d0 d1 d2 d3 d4 d5
  by_cases hx : y < 0
  · go_wp2_with fail
    go_ret
    exact ⟨rfl, up_trans hB0 hB2⟩
  obtain ⟨np, ns, -⟩ := hy (by omega)
  clear hy
  obtain ⟨d0, d1, d2, d3, d4, d5⟩ := (hC.up hB2 hlt).c6
  go_wp2_with fail
  refine (toRb_any x _ _ _ (h1.up hB2) np ns).mono ?_
  rintro e' w3 ⟨⟨p1, p2, rfl, hO3⟩, hB3⟩
  have hB13 := up_trans hB2 hB3
  clear d0 d1 d2 d3 d4 d5
  go_wp2_with fail
  refine (thingsS_any x _ _ nm _ (hO3.v h1 np ns)).mono ?_
  rintro e' w4 ⟨⟨u0, rfl, hU⟩, hB4⟩
  have hB14 := up_trans hB13 hB4
  have hU4 : Lst w4 u0 (rbThings x nm) := .inr hU
  have hUlt := hU4.lt
  clear hO3 hB3 hU hB13 hB4
  obtain ⟨d0, d1, d2, d3, d4, d5⟩ := (hC.up hB14 hlt).c6
  go_wp2_with fail
  refine (toRb_any x _ _ _ (h1.up hB14) np ns).mono ?_
  rintro e' w5 ⟨⟨b1, b2, rfl, hO5⟩, hB5⟩
  have hB15 := up_trans hB14 hB5
  have hU5 := hU4.up hB5
  clear d0 d1 d2 d3 d4 d5
  have hX : CB (w5.alloc (.cells #[.string x.nm, .slice (some ⟨b1, 0, none⟩) x.ps.length x.ps.length, .slice (some ⟨b2, 0, none⟩) x.sl.length x.sl.length, .string x.ad, .int .i64 x.si, .int .i64 x.st] 50)) w5.heap.size [.string x.nm, .slice (some ⟨b1, 0, none⟩) x.ps.length x.ps.length, .slice (some ⟨b2, 0, none⟩) x.sl.length x.sl.length, .string x.ad, .int .i64 x.si, .int .i64 x.st] := cb_alloc w5 _ _
  have hB6 := (Below.refl w5.heap.size w5).alloc (Nat.le_refl _) (.cells #[.string x.nm, .slice (some ⟨b1, 0, none⟩) x.ps.length x.ps.length, .slice (some ⟨b2, 0, none⟩) x.sl.length x.sl.length, .string x.ad, .int .i64 x.si, .int .i64 x.st] 50)
  have hb1lt := hO5.r.2.2
  have hb2lt := hO5.s.2.2
  go_upto_region 9 with fail
  generalize w5.alloc (.cells #[.string x.nm, .slice (some ⟨b1, 0, none⟩) x.ps.length x.ps.length, .slice (some ⟨b2, 0, none⟩) x.sl.length x.sl.length, .string x.ad, .int .i64 x.si, .int .i64 x.st] 50) = W6 at *
  have hB16 := up_trans hB15 hB6
  have hO6 := hO5.up hB6
  have hU6 := hU5.up hB6
  have hXlt := hX.2.2
  obtain ⟨f0, f1, f2, f3, f4, f5⟩ := hX.c6
  clear hO5 hU5 hU4
  go_wp2_with fail
  refine (thingsP_any x _ _ nm _ (hE1.up hB16) (hO6.v h1 np ns)).mono ?_
  rintro e' w7 ⟨⟨ug, rfl, hG7⟩, hB7⟩
  have hB17 := up_trans hB16 hB7
  have hU7 := hU6.up hB7
  have hO7 := hO6.up hB7
  have hX7 := hX.up hB7 hXlt
  clear f0 f1 f2 f3 f4 f5 hU6 hO6
  go_wp2_with fail
  refine (eqStr_any (rbThings x nm) ug u0 _ hG7.lst hU7 (by omega)).mono ?_
  rintro e' w8 ⟨rfl, hB8⟩
  have hB18 := up_trans hB17 hB8
  have hU8 := hU7.up hB8
  have hG8 := hG7.up hB8
  have hO8 := hO7.up hB8
  have hX8 := hX7.up hB8 (Nat.lt_of_lt_of_le hXlt hB7.size)
  clear hU7 hG7 hO7 hX7
  have hz6 := hB6.size
  have hz7 := hB7.size
  have hz8 := hB8.size
  obtain ⟨f0, f1, f2, f3, f4, f5⟩ := hX8.c6
  obtain ⟨d0, d1, d2, d3, d4, d5⟩ := (hC.up hB18 hlt).c6
  go_upto_region 12 with fail
  have hq8 : w.heap.size < w8.heap.size := Nat.lt_of_lt_of_le hlt hB18.size
  have hr8 : w5.heap.size < w8.heap.size := by omega
  have hS0 : Below w8.heap.size w8 w8 ∧ w8.cell? ⟨w.heap.size, 0, none⟩ = some (.string x.nm) ∧ w8.cell? ⟨w.heap.size, 1, none⟩ = some (.slice a1 x.ps.length c1) ∧ w8.cell? ⟨w.heap.size, 2, none⟩ = some (.slice a2 x.sl.length c2) ∧ w8.cell? ⟨w.heap.size, 3, none⟩ = some (.string x.ad) ∧ w8.cell? ⟨w.heap.size, 4, none⟩ = some (.int .i64 x.si) ∧ w8.cell? ⟨w.heap.size, 5, none⟩ = some (.int .i64 x.st) ∧ w8.cell? ⟨w5.heap.size, 0, none⟩ = some (.string x.nm) ∧ w8.cell? ⟨w5.heap.size, 1, none⟩ = some (.slice (some ⟨b1, 0, none⟩) x.ps.length x.ps.length) ∧ w8.cell? ⟨w5.heap.size, 2, none⟩ = some (.slice (some ⟨b2, 0, none⟩) x.sl.length x.sl.length) ∧ w8.cell? ⟨w5.heap.size, 3, none⟩ = some (.string x.ad) ∧ w8.cell? ⟨w5.heap.size, 4, none⟩ = some (.int .i64 x.si) ∧ w8.cell? ⟨w5.heap.size, 5, none⟩ = some (.int .i64 x.st) := ⟨Below.refl _ _, d0, d1, d2, d3, d4, d5, f0, f1, f2, f3, f4, f5⟩
  clear d0 d1 d2 d3 d4 d5 f0 f1 f2 f3 f4 f5
  go_wp2_with fail
  go_region_held (fun w' => Below w8.heap.size w8 w' ∧ w'.cell? ⟨w.heap.size, 0, none⟩ = some (.string x.nm) ∧ w'.cell? ⟨w.heap.size, 1, none⟩ = some (.slice a1 x.ps.length c1) ∧ w'.cell? ⟨w.heap.size, 2, none⟩ = some (.slice a2 x.sl.length c2) ∧ w'.cell? ⟨w.heap.size, 3, none⟩ = some (.string x.ad) ∧ w'.cell? ⟨w.heap.size, 4, none⟩ = some (.int .i64 x.si) ∧ w'.cell? ⟨w.heap.size, 5, none⟩ = some (.int .i64 x.st) ∧ w'.cell? ⟨w5.heap.size, 0, none⟩ = some (.string x.nm) ∧ w'.cell? ⟨w5.heap.size, 1, none⟩ = some (.slice (some ⟨b1, 0, none⟩) x.ps.length x.ps.length) ∧ w'.cell? ⟨w5.heap.size, 2, none⟩ = some (.slice (some ⟨b2, 0, none⟩) x.sl.length x.sl.length) ∧ w'.cell? ⟨w5.heap.size, 3, none⟩ = some (.string x.ad) ∧ w'.cell? ⟨w5.heap.size, 4, none⟩ = some (.int .i64 x.si) ∧ w'.cell? ⟨w5.heap.size, 5, none⟩ = some (.int .i64 x.st)) (first | exact k12_drew hS0 | exact k12_up hq8 hr8 (by assumption) (by assumption))
    (first
      | (go_at_call 21; refine (toRb_any x _ _ _ (h1.up hB18.drew) np ns).mono ?_; rintro e' w9 ⟨⟨q1, q2, rfl, hO9⟩, hb9⟩; have hO89 := (hO8.up (Below.refl _ _).drew).up hb9)
      | (go_at_call 23; refine (eqRb_any x b1 b2 q1 q2 _ _ _ hO89 hO9 np ns).mono ?_; rintro e' wA ⟨rfl, hbA⟩))
  rename_i hHeld
  have hB8A := hHeld.1
  have hB1A := up_trans hB18 hB8A
  have hUA := hU8.up hB8A
  have hGA := hG8.up hB8A
  have hOA := hO8.up hB8A
  obtain ⟨f0, f1, f2, f3, f4, f5⟩ := (hX8.up hB8A hr8).c6
  clear hHeld hS0 hO89 hO9 hb9 hbA hU8 hG8 hO8 hX8
  go_wp2_with fail
  refine (markRb_any x b1 b2 _ _ hOA np ns).mono ?_
  rintro e' wB ⟨⟨k9, rfl, hk9⟩, m1, m2, hm0, hm1, hm2⟩
  have hz14 := hB14.size
  have hl1 := hOA.l1
  have hl2 := hOA.l2
  have hB1B := below_gr (below_gr (up_trans hB1A hm0) hm1 (by omega)) hm2 (by omega)
  have hUB := ((hUA.up hm0).grown hm1 (fun g hg => by have := hUlt g hg; simp; omega)).grown hm2 (fun g hg => by have := hUlt g hg; simp; omega)
  have hGB : OwnT wB W6.heap.size ug (rbThings x nm) := own_grown (own_grown (hGA.up hm0) hm1 (by omega)) hm2 (by omega)
  clear hUA hGA hOA hm0 hm1 hm2 f0 f1 f2 f3 f4 f5
  have hk9' : ¬ k9 < 0 := by omega
  go_wp2_with fail
  refine (eqStr_any (rbThings x nm) ug u0 _ hGB.lst hUB (by omega)).mono ?_
  rintro e' wC ⟨rfl, hBC⟩
  have hB1C := up_trans hB1B hBC
  have hUC := hUB.up hBC
  have hGC := hGB.up hBC
  clear hUB hGB
  go_wp2_with fail
  refine (markS_any (rbThings x nm) W6.heap.size ug 1 _ hGC (by omega) (by omega) (by omega)).mono ?_
  rintro e' wD ⟨rfl, ⟨ys, hyl, hM, hGD⟩, hgD⟩
  have hz16 := hB16.size
  have hB1D := below_own hB1C hGC hgD (by omega)
  have hUD := hUC.grown hgD (fun g hg => own_ne hGC (by have := hUlt g hg; have := hB5.size; omega))
  rw [← hyl] at hM
  clear hUC hGC hgD
  go_wp2_with fail
  refine (heldS_any ys W6.heap.size ug 1 _ hGD hM (by omega) (by omega) (by omega)).mono ?_
  rintro e' wE ⟨rfl, hBE⟩
  have hB1E := up_trans hB1D hBE
  have hUE := hUD.up hBE
  have hGE := hGD.up hBE
  rw [hyl]
  clear hUD hGD
  obtain ⟨d0, d1, d2, d3, d4, d5⟩ := (hC.up hB1E hlt).c6
  go_wp2_with fail
  refine (toRb_any x _ _ _ (h1.up hB1E) np ns).mono ?_
  rintro e' wF ⟨⟨r1, r2, rfl, hOF⟩, hBF⟩
  have hB1F := up_trans hB1E hBF
  have hUF := hUE.up hBF
  have hGF := hGE.up hBF
  clear d0 d1 d2 d3 d4 d5
  clear hUE hGE
  go_wp2_with fail
  refine (thingsP_any x _ _ nm _ (hE1.up hB1F) (hOF.v h1 np ns)).mono ?_
  rintro e' wG ⟨⟨uh, rfl, hHG⟩, hBG⟩
  have hB1G := up_trans hB1F hBG
  have hUG := hUF.up hBG
  have hGG := hGF.up hBG
  clear hUF hGF hOF
  go_wp2_with fail
  refine (eqStr_any (rbThings x nm) uh u0 _ hHG.lst hUG (by omega)).mono ?_
  rintro e' wH ⟨rfl, hBH⟩
  have hB1H := up_trans hB1G hBH
  have hGH := hGG.up hBH
  clear hUG hGG hHG
  go_wp2_with fail
  refine (heldS_any ys W6.heap.size ug 1 _ hGH hM (by omega) (by omega) (by omega)).mono ?_
  rintro e' wI ⟨rfl, hBI⟩
  have hB1I := up_trans hB1H hBI
  rw [hyl]
  clear hGH
  go_wp2_with fail
  go_ret
  exact ⟨rfl, up_trans hB0 hB1I⟩
end Go.Proofs.YtialglmnfchfmaeGreatDoor

/-
  PROVED: for every batch and every text handed to it, the law returns true, and both arguments read afterwards as they read before: the program's RunThings answers as the specification's, text by text; it writes nothing into its argument; its answer owns its memory: marks written into the argument do not reach it, and marks written into it outlast another call.
  CONDITIONS: the program's table of the ends' names holds what its initialiser lays (tied to the program's text by the given tie); the form's own reach.
-/
namespace Go.Proofs.YtialglmnfchfmaeGreatDoor
open Go.ChangeShapes Go.WideShapes Go.ChangeAt Go.RowKit
open Go.ChangeMaps (open_string)

set_option maxRecDepth 100000 in
theorem fnExactRunThings_contract (H : Type) (enc : TypeId × Value → H) (W : World) (base : Nat) (args : Array Value) (ds gs : List (DataW H)) (before : List MemPlace)
    (hval : ∀ (j : Nat) t v, Tryz.f5.params[j]? = some t → args[j]? = some v → Value.okWide Tryz.prog W .any base t v)
    (hW : DataW.Whole enc Tryz.prog Tryz.f5.params.toList Rows.fnExactRunThingsSpec.vars false W args.toList ds gs before) (hL : laidMetH Tryz.prog Rows.fnExactRunThingsRow.laid W) :
    Calls Tryz.prog 5 args W fun e W' => ∃ v, e = .returned v ∧ Rows.fnExactRunThingsSpec.post enc Tryz.prog Tryz.f5 false true false false W args v W' := by
  have hW' := hW
  have hlt := hW.lt
  obtain ⟨p, q, hA0, hV, rfl, hfz, hnd⟩ := hW
  have hA : DataW.TrodAll enc Tryz.prog W 0 (fun _ => true) true Tryz.f5.params.toList args.toList ds p := hA0
  rw [Tryz.params5] at hA hval
  obtain ⟨v0, vs0, d0, ds0, p0, q0, hargs, rfl, rfl, h0, r0⟩ := trodAll_cons hA
  obtain ⟨v1, vs1, d1, ds1, p1, q1, rfl, rfl, rfl, h1, r1⟩ := trodAll_cons r0
  obtain ⟨rfl, rfl, rfl⟩ := trodAll_nil r1
  obtain rfl : args = #[v0, v1] := by cases args; simp_all
  have hk0 := hval 0 44 v0 (by simp) (by simp)
  obtain ⟨cs0, rfl, _⟩ := okWide_struct Tryz.underlying44 hk0
  have g0 := h0
  obtain ⟨fuel0, hf0⟩ := g0
  obtain ⟨x0, rv0, sv0, hcs0, hsrc0⟩ := rb_of_trod hf0
  obtain rfl : cs0 = #[.string x0.nm, rv0, sv0, .string x0.ad, .int .i64 x0.si, .int .i64 x0.st] := by cases cs0; simpa [Value.cells] using hcs0
  have hk1 := hval 1 9 v1 (by simp) (by simp)
  have g1 := h1
  obtain ⟨s1, hv1, _, _, hs1⟩ := open_string Tryz.underlying9 hk1 g1
  subst hv1
  have hE : Ends W := Ends.of_laid hL
  obtain ⟨g1, rfl⟩ := one_var (n := "loop.example/maltrun/impl.recEndNames") hV
  refine (lawThings_any x0 rv0 sv0 s1 W hE hsrc0 hs1).mono fun e' W' ⟨he, hb⟩ => ?_
  subst he
  refine ⟨_, rfl, _, _, _, [], p0 ++ (p1 ++ []), q, hW', ?_, ?_, ?_, hb.frame _, fun h => by cases h⟩
  · exact trodAll_cons_mk (shut_bool Tryz.underlying4 _) trodAll_mk0
  · exact (trodAll_cons_mk (Below.trod laidOut (by kernel_rfl) (of_decide_eq_true (by kernel_rfl)) h0 hb (fun x hx => hlt x (by simp [hx]))) (trodAll_cons_mk (Below.trod laidOut (by kernel_rfl) (of_decide_eq_true (by kernel_rfl)) h1 hb (fun x hx => hlt x (by simp [hx]))) trodAll_mk0))
  · exact hb.trodVars laidOut (by kernel_rfl) hV

theorem fnExactRunThings_reads (os : Os) {H : Type} (enc : TypeId × Value → H) : ∃ ds gs places, DataW.whole enc Tryz.prog ((laidWorld os).forCall (fun _ _ => 0) ⟨#[], #[.agg #[.string ⟨#[]⟩, .slice none 0 0, .slice none 0 0, .string ⟨#[]⟩, .int .i64 0, .int .i64 0], .string ⟨#[]⟩], []⟩).memory Tryz.f5.params.toList Rows.fnExactRunThingsSpec.vars false
    #[(.agg #[.string ⟨#[]⟩, .slice none 0 0, .slice none 0 0, .string ⟨#[]⟩, .int .i64 0, .int .i64 0] : Value), (.string ⟨#[]⟩ : Value)].toList 8 = some (ds, gs, places) :=
  ⟨[.agg [.lit (.string []), .nil, .nil, .lit (.string []), .lit (.int .i64 0), .lit (.int .i64 0)], .lit (.string [])], [Rows.laid_loop_example_maltrun_impl_recEndNames], [.cell 1 0, .cell 1 1, .cell 1 2], by kernel_rfl⟩

set_option maxRecDepth 100000 in
theorem fnExactRunThings_lifted (os : Os) (started : os.Started) (H : Type) (enc : TypeId × Value → H) (F : Stop.Interp) :
    ReturnsInHanded {} Tryz.checked os 5 .any ((OpenSpec.ofChange Rows.fnExactRunThingsSpec).preRow enc Tryz.prog Tryz.f5 Rows.fnExactRunThingsRow.domain false Rows.fnExactRunThingsRow.laid) (((OpenSpec.ofChange Rows.fnExactRunThingsSpec).at F).post enc Tryz.prog Tryz.f5 false true false false) := by
  obtain ⟨ds, gs, places, hx⟩ := fnExactRunThings_reads os enc
  refine returnsInHanded_of_row (C := Tryz.checked) (s := OpenSpec.ofChange Rows.fnExactRunThingsSpec) own started (by kernel_rfl) Tryz.func5
    (witness_row_at (enc := enc) (C := Tryz.checked) false (laidWorld os) #[.agg #[.string ⟨#[]⟩, .slice none 0 0, .slice none 0 0, .string ⟨#[]⟩, .int .i64 0, .int .i64 0], .string ⟨#[]⟩] rfl (by kernel_rfl) (by kernel_rfl) (by kernel_rfl)
      (OpenSpec.preRow_of_cond 8 hx (by kernel_rfl) (fun k hk => by cases hk) (by kernel_rfl) (laid_met os _))) ?_
  intro W base args ds gs before hval hW _ _ _ hL _ _
  exact fnExactRunThings_contract H enc W base args ds gs before hval hW hL

theorem fnExactRunThings_said : Rows.FnExactRunThingsSaid :=
  OpenClaim.holds_of_cond 5 Tryz.f5 rfl rfl rfl rfl rfl rfl rfl ⟨rfl, rfl, rfl, rfl, rfl⟩ rfl rfl rfl rfl rfl (by kernel_rfl) Tryz.func5 (by kernel_rfl)
    (of_decide_eq_true (by kernel_rfl)) (by unfold Func.isWrapper; first | (rw [if_pos (by decide +kernel)]; kernel_rfl) | (rw [if_neg (by decide +kernel)]; exact ⟨rfl, rfl⟩))
    (fun os started H enc _ F => by rw [OpenClaim.pre_eq_preRow]; exact fnExactRunThings_lifted os started H enc F)

theorem fnExactRunThings_plain (f : FuncId) (fn : Func) (hf : Tryz.pinned.checked.prog.funcNamed "loop.example/maltrun/laws.FnExactRunThings" = some f) (hfn : Tryz.pinned.checked.prog.funcs[f]? = some fn) :
    true = Tryz.pinned.checked.prog.looks [] ∧ ∀ (j : Nat) t, fn.params[j]? = some t → Tryz.pinned.checked.prog.wantsStandIn t = false := by
  obtain rfl : f = 5 := Option.some.inj ((show Tryz.prog.funcNamed "loop.example/maltrun/laws.FnExactRunThings" = some 5 by kernel_rfl).symm.trans hf) |>.symm
  obtain rfl : fn = Tryz.f5 := (Option.some.inj (Tryz.func5.symm.trans hfn)).symm
  refine ⟨by kernel_rfl, fun j t ht => ?_⟩
  rw [Tryz.params5] at ht
  have hm : t = 44 ∨ t = 9 := by simpa using Array.mem_of_getElem? ht
  rcases hm with rfl | rfl
  · exact (show Tryz.prog.wantsStandIn 44 = false by kernel_rfl)
  · exact (show Tryz.prog.wantsStandIn 9 = false by kernel_rfl)

theorem fnExactRunThings_card : Rows.FnExactRunThingsCardSaid :=
  Claim7.holds_tied_plain_at .later [] _ _ _ _ fnExactRunThings_said (fun _ h => by cases h) (by kernel_rfl) (fun _ h => by cases h) fnExactRunThings_row_tie rfl ⟨rfl, rfl⟩ (by kernel_rfl) rfl fnExactRunThings_plain (by kernel_rfl)
end Go.Proofs.YtialglmnfchfmaeGreatDoor
