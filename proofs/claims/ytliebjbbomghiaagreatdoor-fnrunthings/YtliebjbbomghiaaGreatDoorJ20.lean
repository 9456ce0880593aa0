/- RunOwn, by the specification and by the program (chapter 21). -/
import Derived.Test.YtliebjbbomghiaaGreatDoorJ19
import Derived.Test.YtliebjbbomghiaaGreatDoorJ5
import Derived.Test.YtliebjbbomghiaaGreatDoorJ1
import Derived.Test.YtliebjbbomghiaaGreatDoorKf
import Derived.Test.YtliebjbbomghiaaGreatDoorJ3
import Derived.Test.YtliebjbbomghiaaGreatDoorJ12
namespace Go.Proofs.YtliebjbbomghiaaGreatDoor
open Go.RowKit

theorem okB_kind {p : Ph} (h : p.okB = true) : 1 ≤ p.k ∧ p.k ≤ 5 := by
  unfold Ph.okB phaseB at h
  simp only [Bool.and_eq_true] at h
  have h1 := h.1.1.2
  unfold argsB at h1
  by_cases e1 : p.k = 1
  · omega
  by_cases e2 : p.k = 2
  · omega
  by_cases e3 : p.k = 3
  · omega
  by_cases e4 : p.k = 4 ∨ p.k = 5
  · omega
  rw [if_neg e1, if_neg e2, if_neg e3, if_neg e4] at h1
  cases h1
theorem ofL_len (p : Ph) : (ofL p).length ≤ 2 := by
  unfold ofL; split
  · have := insL_len [p.a] p.b; simpa using this
  · simp
set_option maxRecDepth 20000 in
set_option maxHeartbeats 4000000 in
theorem ownS_any (x : Rb) (rv sv : Value) (w : World) (h : RbV w x rv sv) :
    Calls Tryz.prog 13 #[.agg #[.string x.nm, rv, sv, .string x.ad, .int .i64 x.si, .int .i64 x.st]] w fun e w' => (∃ u, e = .returned u ∧ Txt w' u (rbOwn x)) ∧ Below w.heap.size w w' := by
  have hok := fun W (hB : Below w.heap.size w W) => batchOkS_any x rv sv W (h.up hB)
  obtain ⟨b, o, c, rfl, hr, hb, hcap, hc9⟩ := h.r
  obtain ⟨g, q, d, rfl, hl, hg⟩ := h.s
  have ns := h.ns
  have np := h.np
  clear h
  have hC : CB (w.alloc (.cells #[.string x.nm, .slice (some ⟨b, o, none⟩) x.ps.length c, .slice (some ⟨g, q, none⟩) x.sl.length d, .string x.ad, .int .i64 x.si, .int .i64 x.st] 26)) w.heap.size [.string x.nm, .slice (some ⟨b, o, none⟩) x.ps.length c, .slice (some ⟨g, q, none⟩) x.sl.length d, .string x.ad, .int .i64 x.si, .int .i64 x.st] := cb_alloc w _ _
  have hB0 := (Below.refl w.heap.size w).alloc (Nat.le_refl _) (.cells #[.string x.nm, .slice (some ⟨b, o, none⟩) x.ps.length c, .slice (some ⟨g, q, none⟩) x.sl.length d, .string x.ad, .int .i64 x.si, .int .i64 x.st] 26)
  have HO : Hid (∀ W, Below w.heap.size w W → Calls Tryz.prog 9 #[.agg #[.string x.nm, .slice (some ⟨b, o, none⟩) x.ps.length c, .slice (some ⟨g, q, none⟩) x.sl.length d, .string x.ad, .int .i64 x.si, .int .i64 x.st]] W fun e w' => e = .returned (.bool (pB (RbOk x))) ∧ Below W.heap.size W w') := hok
  clear hok
  go_enter Tryz.func13, Tryz.ntmps13
  go_upto_region 1 with fail
  generalize w.alloc (.cells #[.string x.nm, .slice (some ⟨b, o, none⟩) x.ps.length c, .slice (some ⟨g, q, none⟩) x.sl.length d, .string x.ad, .int .i64 x.si, .int .i64 x.st] 26) = W1 at *
  obtain ⟨d0, d1, d2, d3, d4, d5⟩ := hC.c6
  have hlt := hC.2.2
  by_cases hk : RbOk x
  case neg =>
    have HN : Hid (rbOwn x = []) := rbOwn_no hk
    have hp := pB_no hk
    go_wp2_with fail
    refine (HO.out _ hB0).mono ?_
    rw [hp]
    rintro e w1 ⟨rfl, hB1⟩
    go_wp2_with fail
    go_ret
    exact ⟨⟨_, rfl, by rw [HN.out]; exact txt_nil w1⟩, up_trans (up_trans hB0 hB1) ((Below.refl _ _).alloc (Nat.le_refl _) _)⟩
  obtain ⟨k, hkl, hka⟩ := hasB_at hk.2.2.2.2.1
  have HY : Hid (rbOwn x = thE x.sl (ofL x.ps[k])) := by show _ = _; rw [rbOwn_ok hk, phOf_at hkl hka]
  have hat := fun W (hW : RecAt W b o x.ps) => at_any x.ps b o c x.ad W hW np
  rw [hka] at hat
  have Hat : Hid (∀ W, RecAt W b o x.ps → Calls Tryz.prog 30 #[.slice (some ⟨b, o, none⟩) x.ps.length c, .string x.ad] W fun e w' => e = .returned (.int .i64 (k : Int)) ∧ w' = W) := hat
  have hp := pB_yes hk
  clear hk hat hka
  go_wp2_with fail
  refine (HO.out _ hB0).mono ?_
  rw [hp]
  rintro e w1 ⟨rfl, hB1⟩
  go_upto_region 3 with fail
  have hB01 := up_trans hB0 hB1
  obtain ⟨f0, f1, f2, f3, f4, f5⟩ := (hC.up hB1 hlt).c6
  obtain ⟨r0, r1, r2, r3, r4, r5, r6, r7⟩ := (hr.up hB01 hb).cells k hkl
  have hof := ofL_len x.ps[k]
  generalize x.ps[k] = p at *
  have hq4 : w.heap.size < w1.heap.size := Nat.lt_of_lt_of_le hlt hB1.size
  have hr4 : b < w1.heap.size := Nat.lt_of_lt_of_le hb hB01.size
  have hS0 : Below w1.heap.size w1 w1 ∧ w1.cell? ⟨w.heap.size, 0, none⟩ = some (.string x.nm) ∧ w1.cell? ⟨w.heap.size, 1, none⟩ = some (.slice (some ⟨b, o, none⟩) x.ps.length c) ∧ w1.cell? ⟨w.heap.size, 2, none⟩ = some (.slice (some ⟨g, q, none⟩) x.sl.length d) ∧ w1.cell? ⟨w.heap.size, 3, none⟩ = some (.string x.ad) ∧ w1.cell? ⟨w.heap.size, 4, none⟩ = some (.int .i64 x.si) ∧ w1.cell? ⟨w.heap.size, 5, none⟩ = some (.int .i64 x.st) ∧ w1.cell? ⟨b, o + k * 8, none⟩ = some (.string p.nm) ∧ w1.cell? ⟨b, o + k * 8 + 1, none⟩ = some (.int .i64 p.k) ∧ w1.cell? ⟨b, o + k * 8 + 2, none⟩ = some (.string p.a) ∧ w1.cell? ⟨b, o + k * 8 + 3, none⟩ = some (.string p.b) ∧ w1.cell? ⟨b, o + k * 8 + 4, none⟩ = some (.int .i64 p.n) ∧ w1.cell? ⟨b, o + k * 8 + 5, none⟩ = some (.int .i64 p.wi) ∧ w1.cell? ⟨b, o + k * 8 + 6, none⟩ = some (.string p.t) ∧ w1.cell? ⟨b, o + k * 8 + 7, none⟩ = some (.string p.e) := ⟨Below.refl _ _, f0, f1, f2, f3, f4, f5, r0, r1, r2, r3, r4, r5, r6, r7⟩
  clear d0 d1 d2 d3 d4 d5 f0 f1 f2 f3 f4 f5 r0 r1 r2 r3 r4 r5 r6 r7 hp
  have Hr : Hid (RecAt w1 b o x.ps) := hr.up hB01 hb
  clear hr
  go_wp2_with fail
  go_region_held (fun w' => Below w1.heap.size w1 w' ∧ w'.cell? ⟨w.heap.size, 0, none⟩ = some (.string x.nm) ∧ w'.cell? ⟨w.heap.size, 1, none⟩ = some (.slice (some ⟨b, o, none⟩) x.ps.length c) ∧ w'.cell? ⟨w.heap.size, 2, none⟩ = some (.slice (some ⟨g, q, none⟩) x.sl.length d) ∧ w'.cell? ⟨w.heap.size, 3, none⟩ = some (.string x.ad) ∧ w'.cell? ⟨w.heap.size, 4, none⟩ = some (.int .i64 x.si) ∧ w'.cell? ⟨w.heap.size, 5, none⟩ = some (.int .i64 x.st) ∧ w'.cell? ⟨b, o + k * 8, none⟩ = some (.string p.nm) ∧ w'.cell? ⟨b, o + k * 8 + 1, none⟩ = some (.int .i64 p.k) ∧ w'.cell? ⟨b, o + k * 8 + 2, none⟩ = some (.string p.a) ∧ w'.cell? ⟨b, o + k * 8 + 3, none⟩ = some (.string p.b) ∧ w'.cell? ⟨b, o + k * 8 + 4, none⟩ = some (.int .i64 p.n) ∧ w'.cell? ⟨b, o + k * 8 + 5, none⟩ = some (.int .i64 p.wi) ∧ w'.cell? ⟨b, o + k * 8 + 6, none⟩ = some (.string p.t) ∧ w'.cell? ⟨b, o + k * 8 + 7, none⟩ = some (.string p.e)) (first | exact k14_drew hS0 | exact k14_up hq4 hr4 (by assumption) (by assumption))
    (first
      | (go_at_call 30; refine (Hat.out _ (Hr.out.up (And.left (by assumption)) hr4)).mono ?_; rintro e w2 ⟨rfl, hw⟩; obtain rfl := hw.symm; clear hw)
      | (go_at_call 35; refine (of_any2 p _).mono ?_; rintro e w3 ⟨⟨u3, rfl, hT3⟩, hb3⟩; have hB3 := up_trans hB01.drew hb3)
      | (go_at_call 20; refine (things_any x b o c g q d _ _ _ (hl.up hB3 hg) (Nat.lt_of_lt_of_le hg hB3.size) ns hT3 (by omega)).mono ?_; rintro e w4 ⟨⟨u4, rfl, hT4⟩, hb4⟩))
  rename_i hHeld
  have hB5 := up_trans hB01 hHeld.1
  clear hHeld hS0 hT3 hb3 hb4 hB3
  go_wp2_with fail
  go_ret
  exact ⟨⟨_, rfl, by rw [HY.out]; exact hT4⟩, hB5⟩

theorem sizePhU : (Tryz.prog.info? 34).map (·.size) = some 8 := by kernel_rfl
theorem end_cb8 {P : Program} {fn : Func} {q : Tmp} {T : TypeId} (h : fn.results = #[.cell q T]) {d : TypeDesc} (hu : P.underlying T = some d) (hd : d.isRow = true) (hi : (P.info? T).map (·.size) = some 8) {R : Ending → World → Prop} {tmps : Array Value} {w : World} {rk : Nat} {y0 y1 y2 y3 y4 y5 y6 y7 x0 x1 x2 x3 x4 x5 x6 x7 : Value}
    (k : CB w rk [y0, y1, y2, y3, y4, y5, y6, y7]) (ht : tmps.getD q undef = .pointer (some ⟨rk, 0, none⟩)) (hR : R (.returned (.agg #[x0, x1, x2, x3, x4, x5, x6, x7])) ((((((((w.setCell ⟨rk, 0, none⟩ x0).setCell ⟨rk, 1, none⟩ x1).setCell ⟨rk, 2, none⟩ x2).setCell ⟨rk, 3, none⟩ x3).setCell ⟨rk, 4, none⟩ x4).setCell ⟨rk, 5, none⟩ x5).setCell ⟨rk, 6, none⟩ x6).setCell ⟨rk, 7, none⟩ x7)) :
    bodyPost P fn R .ret { tmps := tmps, defers := [] } ((((((((w.setCell ⟨rk, 0, none⟩ x0).setCell ⟨rk, 1, none⟩ x1).setCell ⟨rk, 2, none⟩ x2).setCell ⟨rk, 3, none⟩ x3).setCell ⟨rk, 4, none⟩ x4).setCell ⟨rk, 5, none⟩ x5).setCell ⟨rk, 6, none⟩ x6).setCell ⟨rk, 7, none⟩ x7) :=
  bodyPost_ret (ret_cb (cs := [x0, x1, x2, x3, x4, x5, x6, x7]) h hu hd hi ht (k.copy8 x0 x1 x2 x3 x4 x5 x6 x7)) rfl hR
set_option maxRecDepth 20000 in
set_option maxHeartbeats 2000000 in
theorem runPhase_any (x : Rb) (b o c g q d : Nat) (w : World) (hr : RecAt w b o x.ps) (hb : b < w.heap.size) (np : x.ps.length ≤ 1048576) :
    Calls Tryz.prog 34 #[.agg #[.string x.nm, .slice (some ⟨b, o, none⟩) x.ps.length c, .slice (some ⟨g, q, none⟩) x.sl.length d, .string x.ad, .int .i64 x.si, .int .i64 x.st]] w fun e w' => (∃ p : Ph, e = .returned (.agg #[.string (p).nm, .int .i64 (p).k, .string (p).a, .string (p).b, .int .i64 (p).n, .int .i64 (p).wi, .string (p).t, .string (p).e]) ∧ ∀ (k : Nat) (hk : k < x.ps.length), atI x.ps x.ad = (k : Int) → p = x.ps[k]) ∧ Below w.heap.size w w' := by
  go_enter Tryz.func34, Tryz.ntmps34
  go_upto_region 1 with fail
  obtain ⟨W1, hW1, kA, kR, hB1, hs1⟩ : ∃ W1, (w.alloc (.cells #[.string x.nm, .slice (some ⟨b, o, none⟩) x.ps.length c, .slice (some ⟨g, q, none⟩) x.sl.length d, .string x.ad, .int .i64 x.si, .int .i64 x.st] 26)).alloc (.cells #[.string ⟨#[]⟩, .int .i64 0, .string ⟨#[]⟩, .string ⟨#[]⟩, .int .i64 0, .int .i64 0, .string ⟨#[]⟩, .string ⟨#[]⟩] 34) = W1 ∧ CB W1 w.heap.size [.string x.nm, .slice (some ⟨b, o, none⟩) x.ps.length c, .slice (some ⟨g, q, none⟩) x.sl.length d, .string x.ad, .int .i64 x.si, .int .i64 x.st] ∧ CB W1 (w.heap.size + 1) [.string ⟨#[]⟩, .int .i64 0, .string ⟨#[]⟩, .string ⟨#[]⟩, .int .i64 0, .int .i64 0, .string ⟨#[]⟩, .string ⟨#[]⟩] ∧ Below w.heap.size w W1 ∧ W1.heap.size = w.heap.size + 2 := ⟨_, rfl, cb2 w [.string x.nm, .slice (some ⟨b, o, none⟩) x.ps.length c, .slice (some ⟨g, q, none⟩) x.sl.length d, .string x.ad, .int .i64 x.si, .int .i64 x.st] [.string ⟨#[]⟩, .int .i64 0, .string ⟨#[]⟩, .string ⟨#[]⟩, .int .i64 0, .int .i64 0, .string ⟨#[]⟩, .string ⟨#[]⟩] _ _⟩
  try rw [hW1]
  clear hW1
  obtain ⟨d0, d1, d2, d3, d4, d5⟩ := kA.c6
  go_wp2_with fail
  refine (phaseOf_any x.ps b o c x.ad _ (hr.up hB1 hb) (by omega) np).mono ?_
  rintro e w3 ⟨⟨p, rfl, hpk⟩, hb3⟩
  have hz3 := hb3.size
  have kR := kR.up hb3 (by omega)
  have hB3 := up_trans hB1 hb3
  clear d0 d1 d2 d3 d4 d5 kA hB1 hb3
  go_upto_region 2 with fail
  obtain ⟨W4, hW4, kP, hb4, hs4⟩ : ∃ W4, w3.alloc (.cells #[.string (p).nm, .int .i64 (p).k, .string (p).a, .string (p).b, .int .i64 (p).n, .int .i64 (p).wi, .string (p).t, .string (p).e] 34) = W4 ∧ CB W4 w3.heap.size [.string (p).nm, .int .i64 (p).k, .string (p).a, .string (p).b, .int .i64 (p).n, .int .i64 (p).wi, .string (p).t, .string (p).e] ∧ Below w3.heap.size w3 W4 ∧ W4.heap.size = w3.heap.size + 1 := ⟨_, rfl, cb1 w3 [.string (p).nm, .int .i64 (p).k, .string (p).a, .string (p).b, .int .i64 (p).n, .int .i64 (p).wi, .string (p).t, .string (p).e] _⟩
  try rw [hW4]
  clear hW4
  have kR := kR.up hb4 (by omega)
  have hB4 := up_trans hB3 hb4
  obtain ⟨⟨f0, f1, f2, f3, f4, f5, f6, f7⟩, -⟩ := kP.c8
  obtain ⟨⟨r0, r1, r2, r3, r4, r5, r6, r7⟩, g0, g1, g2, g3, g4, g5, g6, g7⟩ := kR.c8
  go_wp2_with fail
  refine end_cb8 Tryz.results34 Tryz.underlying34 rfl sizePhU kR rfl ?_
  refine ⟨⟨p, rfl, hpk⟩, ?_⟩
  exact (((((((hB4.setCell (p := ⟨w.heap.size + 1, 0, none⟩) (Nat.le_succ _) _).setCell (p := ⟨w.heap.size + 1, 1, none⟩) (Nat.le_succ _) _).setCell (p := ⟨w.heap.size + 1, 2, none⟩) (Nat.le_succ _) _).setCell (p := ⟨w.heap.size + 1, 3, none⟩) (Nat.le_succ _) _).setCell (p := ⟨w.heap.size + 1, 4, none⟩) (Nat.le_succ _) _).setCell (p := ⟨w.heap.size + 1, 5, none⟩) (Nat.le_succ _) _).setCell (p := ⟨w.heap.size + 1, 6, none⟩) (Nat.le_succ _) _).setCell (p := ⟨w.heap.size + 1, 7, none⟩) (Nat.le_succ _) _

set_option maxRecDepth 20000 in
set_option maxHeartbeats 4000000 in
theorem ownP_any (x : Rb) (rv sv : Value) (w : World) (hE : Ends w) (h : RbV w x rv sv) :
    Calls Tryz.prog 12 #[.agg #[.string x.nm, rv, sv, .string x.ad, .int .i64 x.si, .int .i64 x.st]] w fun e w' => (∃ u, e = .returned u ∧ OwnT w' w.heap.size u (rbOwn x)) ∧ Below w.heap.size w w' := by
  have hok := fun W (hB : Below w.heap.size w W) => batchOkP_any x rv sv W (hE.up hB) (h.up hB)
  obtain ⟨b, o, c, rfl, hr, hb, hcap, hc9⟩ := h.r
  obtain ⟨g, q, d, rfl, hl, hg⟩ := h.s
  have ns := h.ns
  have np := h.np
  have zs := h.zs
  have zp := h.zp
  clear h
  have hC : CB (w.alloc (.cells #[.string x.nm, .slice (some ⟨b, o, none⟩) x.ps.length c, .slice (some ⟨g, q, none⟩) x.sl.length d, .string x.ad, .int .i64 x.si, .int .i64 x.st] 26)) w.heap.size [.string x.nm, .slice (some ⟨b, o, none⟩) x.ps.length c, .slice (some ⟨g, q, none⟩) x.sl.length d, .string x.ad, .int .i64 x.si, .int .i64 x.st] := cb_alloc w _ _
  have hB0 := (Below.refl w.heap.size w).alloc (Nat.le_refl _) (.cells #[.string x.nm, .slice (some ⟨b, o, none⟩) x.ps.length c, .slice (some ⟨g, q, none⟩) x.sl.length d, .string x.ad, .int .i64 x.si, .int .i64 x.st] 26)
  have HO : Hid (∀ W, Below w.heap.size w W → Calls Tryz.prog 8 #[.agg #[.string x.nm, .slice (some ⟨b, o, none⟩) x.ps.length c, .slice (some ⟨g, q, none⟩) x.sl.length d, .string x.ad, .int .i64 x.si, .int .i64 x.st]] W fun e w' => e = .returned (.bool (pB (RbOk x))) ∧ Below W.heap.size W w') := hok
  clear hok hE
  go_enter Tryz.func12, Tryz.ntmps12
  go_upto_region 1 with fail
  generalize w.alloc (.cells #[.string x.nm, .slice (some ⟨b, o, none⟩) x.ps.length c, .slice (some ⟨g, q, none⟩) x.sl.length d, .string x.ad, .int .i64 x.si, .int .i64 x.st] 26) = W1 at *
  obtain ⟨d0, d1, d2, d3, d4, d5⟩ := hC.c6
  have hlt := hC.2.2
  by_cases hk : RbOk x
  case neg =>
    have HN : Hid (rbOwn x = []) := rbOwn_no hk
    have hp := pB_no hk
    go_wp2_with fail
    refine (HO.out _ hB0).mono ?_
    rw [hp]
    rintro e w1 ⟨rfl, hB1⟩
    go_wp2_with fail
    go_ret
    exact ⟨⟨_, rfl, by rw [HN.out]; exact World.ownsRow_nil _ _ _ _⟩, up_trans hB0 hB1⟩
  have hhas := hk.2.2.2.2.1
  have HY : Hid (∀ p, p = phOf x.ps x.ad → namesOf (thI x.sl (ownB p)) = rbOwn x ∧ (1 ≤ p.k ∧ p.k ≤ 5) ∧ ∀ s ∈ ownB p, s.size ≤ maxLen) := by
    show _
    rintro p rfl
    have hm := phOf_mem hhas
    refine ⟨?_, okB_kind (recB_ok hk.2.1 hm), fun s hs => ?_⟩
    · rw [rbOwn_ok hk]
      exact names_th (own_same x.sl _ hk.2.2.1.nodup (own_keys _))
    · obtain ⟨_, z1, z2, _⟩ := zp _ hm
      unfold ownB at hs
      split at hs
      · simp only [List.mem_cons, List.not_mem_nil, or_false] at hs
        rcases hs with rfl | rfl
        · exact z1
        · exact z2
      · simp only [List.mem_cons, List.not_mem_nil, or_false] at hs
        rw [hs]; exact z1
  have hp := pB_yes hk
  clear hk
  go_wp2_with fail
  refine (HO.out _ hB0).mono ?_
  rw [hp]
  rintro e w1 ⟨rfl, hB1⟩
  go_upto_region 3 with fail
  have hB01 := up_trans hB0 hB1
  obtain ⟨f0, f1, f2, f3, f4, f5⟩ := (hC.up hB1 hlt).c6
  have hq4 : w.heap.size < w1.heap.size := Nat.lt_of_lt_of_le hlt hB1.size
  have hS0 : Below w1.heap.size w1 w1 ∧ w1.cell? ⟨w.heap.size, 0, none⟩ = some (.string x.nm) ∧ w1.cell? ⟨w.heap.size, 1, none⟩ = some (.slice (some ⟨b, o, none⟩) x.ps.length c) ∧ w1.cell? ⟨w.heap.size, 2, none⟩ = some (.slice (some ⟨g, q, none⟩) x.sl.length d) ∧ w1.cell? ⟨w.heap.size, 3, none⟩ = some (.string x.ad) ∧ w1.cell? ⟨w.heap.size, 4, none⟩ = some (.int .i64 x.si) ∧ w1.cell? ⟨w.heap.size, 5, none⟩ = some (.int .i64 x.st) := ⟨Below.refl _ _, f0, f1, f2, f3, f4, f5⟩
  clear d0 d1 d2 d3 d4 d5 f0 f1 f2 f3 f4 f5 hp hC
  go_wp2_with fail
  go_region_held (fun w' => Below w1.heap.size w1 w' ∧ w'.cell? ⟨w.heap.size, 0, none⟩ = some (.string x.nm) ∧ w'.cell? ⟨w.heap.size, 1, none⟩ = some (.slice (some ⟨b, o, none⟩) x.ps.length c) ∧ w'.cell? ⟨w.heap.size, 2, none⟩ = some (.slice (some ⟨g, q, none⟩) x.sl.length d) ∧ w'.cell? ⟨w.heap.size, 3, none⟩ = some (.string x.ad) ∧ w'.cell? ⟨w.heap.size, 4, none⟩ = some (.int .i64 x.si) ∧ w'.cell? ⟨w.heap.size, 5, none⟩ = some (.int .i64 x.st)) (first | exact k6_drew hS0 | exact k6_up hq4 (by assumption) (by assumption))
    (first
      | (go_at_call 17; refine (slotMap_any x.sl g q d _ (hl.up hB01.drew hg) (Nat.lt_of_lt_of_le hg hB01.drew.size) ns (fun y hy => (zs y hy).1)).mono ?_; rintro e w5 ⟨⟨M, D, rfl, hM, hD, -⟩, hb5⟩; have hB5 := up_trans hB01.drew hb5)
      | (go_at_call 34; refine (runPhase_any x b o c g q d _ (hr.up hB5 hb) (Nat.lt_of_lt_of_le hb hB5.size) np).mono ?_; rintro e w3 ⟨⟨p, rfl, hpk⟩, hb3⟩; have hM3 := hM.up hb3; have hB3 := up_trans hB5 hb3; obtain ⟨HT, hpk5, hps⟩ := HY.out p (by obtain ⟨k, hkl, hka⟩ := hasB_at hhas; rw [hpk k hkl hka, phOf_at hkl hka]); have HT' : Hid (namesOf (thI x.sl (ownB p)) = rbOwn x) := HT; have hob : (ownB p).length ≤ 2 := (by unfold ownB; split <;> simp); clear HT hpk)
      | (go_at_call 33; refine (phSlots_any p _ hpk5).mono ?_; rintro e w6 ⟨⟨u6, rfl, hT6⟩, hb6⟩; have hM6 := hM3.up hb6; have hB6 := up_trans hB3 hb6)
      | (go_at_call 18; refine (thingsM_any x.sl (ownB p) M _ D _ _ hM6 hD (.inr hT6) hps (by omega)).mono ?_; rintro e w7 ⟨⟨u7, rfl, hO7⟩, hb7⟩))
  rename_i hHeld
  have hB8 := up_trans hB01 hHeld.1
  have hO8 := own_low hO7 hB6.size
  clear hHeld hS0 hT6 hO7 hb5 hb6 hb7 hM hD hM6 hB5 hB6 hM3 hB3 hb3
  go_wp2_with fail
  go_ret
  exact ⟨⟨_, rfl, by rw [← HT'.out]; exact hO8⟩, hB8⟩
end Go.Proofs.YtliebjbbomghiaaGreatDoor

/- Houses in memory. -/
namespace Go.Proofs.YtliebjbbomghiaaGreatDoor
open Go.RowKit

def RbAt (w : World) (b o : Nat) (x : Rb) : Prop := ∃ rv sv, w.rangeAt b o [.string x.nm, rv, sv, .string x.ad, .int .i64 x.si, .int .i64 x.st] ∧ RbV w x rv sv
def RbsAt (w : World) (b o : Nat) (bs : List Rb) : Prop := ∀ (i : Nat) (x : Rb), bs[i]? = some x → RbAt w b (o + i * 6) x
/-- Batches handed about as a slice. -/
def Rbs (w : World) (v : Value) (bs : List Rb) : Prop := ∃ a c, v = .slice a bs.length c ∧ bs.length ≤ maxLen ∧ (0 < bs.length → ∃ b o, a = some ⟨b, o, none⟩ ∧ RbsAt w b o bs ∧ b < w.heap.size)
def DnsAt (w : World) (b o : Nat) (ds : List Done) : Prop := ∀ (i : Nat) (d : Done), ds[i]? = some d → w.rangeAt b (o + i * 3) [.string d.nm, .int .i64 d.e, .int .i64 d.t] ∧ d.nm.size ≤ maxLen
def Dns (w : World) (v : Value) (ds : List Done) : Prop := ∃ a c, v = .slice a ds.length c ∧ ds.length ≤ maxLen ∧ (0 < ds.length → ∃ b o, a = some ⟨b, o, none⟩ ∧ DnsAt w b o ds ∧ b < w.heap.size)
theorem range_up {w w' : World} {b o B : Nat} {vs : List Value} (h : w.rangeAt b o vs) (hb : Below B w w') (hB : b < B) : w'.rangeAt b o vs := fun j v hv => by
  rw [hb.cell (p := ⟨b, o + j, none⟩) hB]; exact h j v hv
theorem RbAt.up {w w' : World} {b o : Nat} {x : Rb} (h : RbAt w b o x) (hb : Below w.heap.size w w') (hB : b < w.heap.size) : RbAt w' b o x := by
  obtain ⟨rv, sv, h1, h2⟩ := h
  exact ⟨rv, sv, range_up h1 hb hB, h2.up hb⟩
theorem RbsAt.up {w w' : World} {b o : Nat} {bs : List Rb} (h : RbsAt w b o bs) (hb : Below w.heap.size w w') (hB : b < w.heap.size) : RbsAt w' b o bs := fun i x hx => (h i x hx).up hb hB
theorem RbsAt.at {w : World} {b o : Nat} {bs : List Rb} (h : RbsAt w b o bs) {k : Nat} (hk : k < bs.length) : RbAt w b (o + k * 6) bs[k] := h k _ (List.getElem?_eq_getElem hk)
theorem Rbs.up {w w' : World} {v : Value} {bs : List Rb} (h : Rbs w v bs) (hb : Below w.heap.size w w') : Rbs w' v bs := by
  obtain ⟨a, c, rfl, h1, h2⟩ := h
  exact ⟨a, c, rfl, h1, fun hp => by obtain ⟨b, o, e, hr, hlt⟩ := h2 hp; exact ⟨b, o, e, hr.up hb hlt, Nat.lt_of_lt_of_le hlt hb.size⟩⟩
theorem DnsAt.up {w w' : World} {b o : Nat} {ds : List Done} (h : DnsAt w b o ds) (hb : Below w.heap.size w w') (hB : b < w.heap.size) : DnsAt w' b o ds := fun i d hd => ⟨range_up (h i d hd).1 hb hB, (h i d hd).2⟩
theorem Dns.up {w w' : World} {v : Value} {ds : List Done} (h : Dns w v ds) (hb : Below w.heap.size w w') : Dns w' v ds := by
  obtain ⟨a, c, rfl, h1, h2⟩ := h
  exact ⟨a, c, rfl, h1, fun hp => by obtain ⟨b, o, e, hr, hlt⟩ := h2 hp; exact ⟨b, o, e, hr.up hb hlt, Nat.lt_of_lt_of_le hlt hb.size⟩⟩
/-- A house in memory: its book's lists, its batches, those that ended. -/
structure HV (w : World) (h : House) (tv bv xv dv : Value) : Prop where
  t : Ls w tv h.sh.things
  b : Bs w bv h.sh.bs
  x : Rbs w xv h.bs
  d : Dns w dv h.ds
theorem HV.up {w w' : World} {h : House} {tv bv xv dv : Value} (H : HV w h tv bv xv dv) (hb : Below w.heap.size w w') : HV w' h tv bv xv dv := ⟨H.t.up hb, H.b.up hb, H.x.up hb, H.d.up hb⟩
theorem HV.shapes {w : World} {h : House} {tv bv xv dv : Value} (H : HV w h tv bv xv dv) : ∃ a1 c1 a2 c2 a3 c3 a4 c4, tv = .slice a1 h.sh.things.length c1 ∧ bv = .slice a2 h.sh.bs.length c2 ∧ xv = .slice a3 h.bs.length c3 ∧ dv = .slice a4 h.ds.length c4 := by
  obtain ⟨a1, c1, e1, -⟩ := H.t
  obtain ⟨a2, c2, e2, -⟩ := H.b
  obtain ⟨a3, c3, e3, -⟩ := H.x
  obtain ⟨a4, c4, e4, -⟩ := H.d
  exact ⟨a1, c1, a2, c2, a3, c3, a4, c4, e1, e2, e3, e4⟩
theorem HV.book {w : World} {h : House} {tv bv xv dv : Value} (H : HV w h tv bv xv dv) : BkV w (.agg #[tv, bv]) h.sh := ⟨tv, bv, rfl, H.t, H.b⟩
theorem rnms_snoc (bs : List Rb) (k : Nat) (hk : k < bs.length) : rnms (bs.take (k + 1)) = rnms (bs.take k) ++ [(bs[k]).nm] := by
  unfold rnms; rw [List.take_succ_eq_append_getElem hk, List.map_append]; rfl
theorem Rbs.inv {w : World} {v : Value} {bs : List Rb} (h : Rbs w v bs) {a : Option Addr} {n c : Nat} (e : v = .slice a n c) : bs.length ≤ maxLen ∧ (0 < bs.length → ∃ b o, a = some ⟨b, o, none⟩ ∧ RbsAt w b o bs ∧ b < w.heap.size) := by
  obtain ⟨a', c', e', h1, h2⟩ := h
  rw [e'] at e
  simp only [Value.slice.injEq] at e
  obtain ⟨rfl, -, -⟩ := e
  exact ⟨h1, h2⟩
theorem RbAt.open {w : World} {b o : Nat} {x : Rb} (h : RbAt w b o x) : ∃ p q c g r d, (w.cell? ⟨b, o, none⟩ = some (.string x.nm) ∧ w.cell? ⟨b, o + 1, none⟩ = some (.slice (some ⟨p, q, none⟩) x.ps.length c) ∧ w.cell? ⟨b, o + 2, none⟩ = some (.slice (some ⟨g, r, none⟩) x.sl.length d) ∧ w.cell? ⟨b, o + 3, none⟩ = some (.string x.ad) ∧ w.cell? ⟨b, o + 4, none⟩ = some (.int .i64 x.si) ∧ w.cell? ⟨b, o + 5, none⟩ = some (.int .i64 x.st)) ∧ RbV w x (.slice (some ⟨p, q, none⟩) x.ps.length c) (.slice (some ⟨g, r, none⟩) x.sl.length d) := by
  obtain ⟨rv, sv, hr, hv⟩ := h
  obtain ⟨p, q, c, rfl, -⟩ := hv.r
  obtain ⟨g, r, d, rfl, -⟩ := hv.s
  exact ⟨p, q, c, g, r, d, ⟨hr 0 _ rfl, hr 1 _ rfl, hr 2 _ rfl, hr 3 _ rfl, hr 4 _ rfl, hr 5 _ rfl⟩, hv⟩
theorem m12_drew {W w0 : World} {q r : Nat} {x0 x1 x2 x3 x4 x5 x6 x7 x8 x9 x10 x11 : Value} (h : Below W.heap.size W w0 ∧ w0.cell? ⟨q, 0, none⟩ = some x0 ∧ w0.cell? ⟨q, 1, none⟩ = some x1 ∧ w0.cell? ⟨q, 2, none⟩ = some x2 ∧ w0.cell? ⟨q, 3, none⟩ = some x3 ∧ w0.cell? ⟨q, 4, none⟩ = some x4 ∧ w0.cell? ⟨q, 5, none⟩ = some x5 ∧ w0.cell? ⟨r, 0, none⟩ = some x6 ∧ w0.cell? ⟨r, 1, none⟩ = some x7 ∧ w0.cell? ⟨r, 2, none⟩ = some x8 ∧ w0.cell? ⟨r, 3, none⟩ = some x9 ∧ w0.cell? ⟨r, 4, none⟩ = some x10 ∧ w0.cell? ⟨r, 5, none⟩ = some x11) : Below W.heap.size W w0.drew ∧ w0.drew.cell? ⟨q, 0, none⟩ = some x0 ∧ w0.drew.cell? ⟨q, 1, none⟩ = some x1 ∧ w0.drew.cell? ⟨q, 2, none⟩ = some x2 ∧ w0.drew.cell? ⟨q, 3, none⟩ = some x3 ∧ w0.drew.cell? ⟨q, 4, none⟩ = some x4 ∧ w0.drew.cell? ⟨q, 5, none⟩ = some x5 ∧ w0.drew.cell? ⟨r, 0, none⟩ = some x6 ∧ w0.drew.cell? ⟨r, 1, none⟩ = some x7 ∧ w0.drew.cell? ⟨r, 2, none⟩ = some x8 ∧ w0.drew.cell? ⟨r, 3, none⟩ = some x9 ∧ w0.drew.cell? ⟨r, 4, none⟩ = some x10 ∧ w0.drew.cell? ⟨r, 5, none⟩ = some x11 :=
  ⟨h.1.drew, h.2⟩
theorem m12_up {W w0 w1 : World} {q r : Nat} {x0 x1 x2 x3 x4 x5 x6 x7 x8 x9 x10 x11 : Value} (hq : q < W.heap.size) (hr : r < W.heap.size) (h : Below W.heap.size W w0 ∧ w0.cell? ⟨q, 0, none⟩ = some x0 ∧ w0.cell? ⟨q, 1, none⟩ = some x1 ∧ w0.cell? ⟨q, 2, none⟩ = some x2 ∧ w0.cell? ⟨q, 3, none⟩ = some x3 ∧ w0.cell? ⟨q, 4, none⟩ = some x4 ∧ w0.cell? ⟨q, 5, none⟩ = some x5 ∧ w0.cell? ⟨r, 0, none⟩ = some x6 ∧ w0.cell? ⟨r, 1, none⟩ = some x7 ∧ w0.cell? ⟨r, 2, none⟩ = some x8 ∧ w0.cell? ⟨r, 3, none⟩ = some x9 ∧ w0.cell? ⟨r, 4, none⟩ = some x10 ∧ w0.cell? ⟨r, 5, none⟩ = some x11) (hB : Below w0.heap.size w0 w1) : Below W.heap.size W w1 ∧ w1.cell? ⟨q, 0, none⟩ = some x0 ∧ w1.cell? ⟨q, 1, none⟩ = some x1 ∧ w1.cell? ⟨q, 2, none⟩ = some x2 ∧ w1.cell? ⟨q, 3, none⟩ = some x3 ∧ w1.cell? ⟨q, 4, none⟩ = some x4 ∧ w1.cell? ⟨q, 5, none⟩ = some x5 ∧ w1.cell? ⟨r, 0, none⟩ = some x6 ∧ w1.cell? ⟨r, 1, none⟩ = some x7 ∧ w1.cell? ⟨r, 2, none⟩ = some x8 ∧ w1.cell? ⟨r, 3, none⟩ = some x9 ∧ w1.cell? ⟨r, 4, none⟩ = some x10 ∧ w1.cell? ⟨r, 5, none⟩ = some x11 := by
  obtain ⟨h0, a0, a1, a2, a3, a4, a5, a6, a7, a8, a9, a10, a11⟩ := h
  have lq : q < w0.heap.size := Nat.lt_of_lt_of_le hq h0.size
  have lr : r < w0.heap.size := Nat.lt_of_lt_of_le hr h0.size
  exact ⟨up_trans h0 hB, (hB.cell (p := ⟨q, 0, none⟩) lq).trans a0, (hB.cell (p := ⟨q, 1, none⟩) lq).trans a1, (hB.cell (p := ⟨q, 2, none⟩) lq).trans a2, (hB.cell (p := ⟨q, 3, none⟩) lq).trans a3, (hB.cell (p := ⟨q, 4, none⟩) lq).trans a4, (hB.cell (p := ⟨q, 5, none⟩) lq).trans a5, (hB.cell (p := ⟨r, 0, none⟩) lr).trans a6, (hB.cell (p := ⟨r, 1, none⟩) lr).trans a7, (hB.cell (p := ⟨r, 2, none⟩) lr).trans a8, (hB.cell (p := ⟨r, 3, none⟩) lr).trans a9, (hB.cell (p := ⟨r, 4, none⟩) lr).trans a10, (hB.cell (p := ⟨r, 5, none⟩) lr).trans a11⟩
theorem rbThings_sized {x : Rb} {w : World} {rv sv : Value} (h : RbV w x rv sv) (nm : ByteArray) : ∀ s ∈ rbThings x nm, s.size ≤ maxLen := by
  by_cases hk : RbOk x
  · rw [rbThings_ok hk]
    intro s hs
    have h1 := ((thE_keys _ _).2 s.toList).1 (mem_keys.2 hs)
    simp only [keys, List.mem_map] at h1
    obtain ⟨_, ⟨t, _, rfl⟩, e⟩ := h1
    rw [← key_inj e]
    unfold firstT
    split
    · rename_i y hy
      exact (h.zs y (List.mem_of_find?_eq_some hy)).2
    · exact Nat.zero_le _
  · rw [rbThings_no hk]; intro s hs; simp at hs
theorem rbOwn_sized {x : Rb} {w : World} {rv sv : Value} (h : RbV w x rv sv) : ∀ s ∈ rbOwn x, s.size ≤ maxLen := by
  by_cases hk : RbOk x
  · rw [rbOwn_ok hk]
    intro s hs
    have h1 := ((thE_keys _ _).2 s.toList).1 (mem_keys.2 hs)
    simp only [keys, List.mem_map] at h1
    obtain ⟨_, ⟨t, _, rfl⟩, e⟩ := h1
    rw [← key_inj e]
    unfold firstT
    split
    · rename_i y hy
      exact (h.zs y (List.mem_of_find?_eq_some hy)).2
    · exact Nat.zero_le _
  · rw [rbOwn_no hk]; intro s hs; simp at hs
end Go.Proofs.YtliebjbbomghiaaGreatDoor

/- Books that change, in plain: coming, asking, needing less, going. -/
namespace Go.Proofs.YtliebjbbomghiaaGreatDoor

/-- All names of a book are texts that can be. -/
def Szb (b : Bk) : Prop := (∀ s ∈ b.things, s.size ≤ maxLen) ∧ ∀ x ∈ b.bs, (∀ s ∈ x.has, s.size ≤ maxLen) ∧ (∀ s ∈ x.needs, s.size ≤ maxLen)
def nobody : Bk := ⟨[], []⟩
theorem szb_none : Szb nobody := ⟨fun s hs => by simp [nobody] at hs, fun x hx => by simp [nobody] at hx⟩
/-- The place of a batch. -/
def plN (b : Bk) (nm : ByteArray) : Nat := (idxI (nms b.bs) nm).toNat
theorem plN_lt {b : Bk} {nm : ByteArray} (h : memS (nms b.bs) nm = true) : idxI (nms b.bs) nm = (plN b nm : Int) ∧ plN b nm < b.bs.length := by
  have h0 := idxI_mem (nms b.bs) nm
  rw [h, decide_eq_true_eq] at h0
  refine ⟨by unfold plN; omega, ?_⟩
  rw [plN, idxI, if_pos h]
  have : (nms b.bs).findIdx (fun x => x.toList == nm.toList) < (nms b.bs).length := List.findIdx_lt_length.2 (by
    rw [memS, List.any_eq_true] at h; exact h)
  rw [nms_length] at this
  simpa using this
/-- Going. -/
noncomputable def leaveC (b : Bk) (nm : ByteArray) : Int := if bookB b = false then 1 else if memS (nms b.bs) nm = false then 3 else 0
noncomputable def leaveB (b : Bk) (nm : ByteArray) : Bk := if bookB b = false then nobody else if memS (nms b.bs) nm = false then b else ⟨b.things, b.bs.take (plN b nm) ++ b.bs.drop (plN b nm + 1)⟩
theorem leave_no {b : Bk} {nm : ByteArray} (h : bookB b = false) : leaveC b nm = 1 ∧ leaveB b nm = nobody := by simp [leaveC, leaveB, h]
theorem leave_none {b : Bk} {nm : ByteArray} (h : bookB b = true) (hm : memS (nms b.bs) nm = false) : leaveC b nm = 3 ∧ leaveB b nm = b := by simp [leaveC, leaveB, h, hm]
theorem leave_yes {b : Bk} {nm : ByteArray} (h : bookB b = true) (hm : memS (nms b.bs) nm = true) : leaveC b nm = 0 ∧ leaveB b nm = ⟨b.things, b.bs.take (plN b nm) ++ b.bs.drop (plN b nm + 1)⟩ := by simp [leaveC, leaveB, h, hm]
/-- Coming: behind all whose names are less. -/
def inN (b : Bk) (nm : ByteArray) : Nat := (b.bs.takeWhile fun x => ltS x.nm nm).length
noncomputable def enterC (b : Bk) (nm : ByteArray) (needs : List ByteArray) : Int :=
  if bookB b = false then 1 else if (nameB nm && pB (PartOk needs b.things)) = false then 2 else if memS (nms b.bs) nm = true then 3 else if 5 ≤ b.bs.length then 4 else 0
noncomputable def enterB (b : Bk) (nm : ByteArray) (needs : List ByteArray) : Bk :=
  if bookB b = false then nobody else if enterC b nm needs = 0 then ⟨b.things, b.bs.take (inN b nm) ++ ⟨nm, [], needs⟩ :: b.bs.drop (inN b nm)⟩ else b
/-- Up to place k all names are less. -/
def lowB (b : Bk) (nm : ByteArray) (k : Nat) : Prop := ∀ (j : Nat) (x : Ba), j < k → b.bs[j]? = some x → ltS x.nm nm = true
theorem tw_len {α : Type} (p : α → Bool) : ∀ (l : List α) (k : Nat), k ≤ l.length → (∀ j x, j < k → l[j]? = some x → p x = true) → (∀ x, l[k]? = some x → p x = false) → (l.takeWhile p).length = k
  | [], k, hk, _, _ => by simp at hk; subst hk; rfl
  | x :: r, 0, _, _, h2 => by
    rw [List.takeWhile_cons, h2 x (by simp)]; rfl
  | x :: r, k + 1, hk, h1, h2 => by
    rw [List.takeWhile_cons, h1 0 x (by omega) (by simp)]
    simp only [if_true, List.length_cons]
    rw [tw_len p r k (by simpa using hk) (fun j y hj hy => h1 (j + 1) y (by omega) (by simpa using hy)) (fun y hy => h2 y (by simpa using hy))]
theorem inN_at {b : Bk} {nm : ByteArray} {k : Nat} (hk : k ≤ b.bs.length) (hl : lowB b nm k) (hn : ∀ x, b.bs[k]? = some x → ltS x.nm nm = false) : inN b nm = k := tw_len _ _ _ hk hl hn
theorem enter_no {b : Bk} {nm : ByteArray} {needs : List ByteArray} (h : bookB b = false) : enterC b nm needs = 1 ∧ enterB b nm needs = nobody := by simp [enterC, enterB, h]
theorem enter_two {b : Bk} {nm : ByteArray} {needs : List ByteArray} (h : bookB b = true) (h2 : (nameB nm && pB (PartOk needs b.things)) = false) : enterC b nm needs = 2 ∧ enterB b nm needs = b := by simp [enterC, enterB, h, h2]
theorem enter_three {b : Bk} {nm : ByteArray} {needs : List ByteArray} (h : bookB b = true) (h2 : (nameB nm && pB (PartOk needs b.things)) = true) (h3 : memS (nms b.bs) nm = true) : enterC b nm needs = 3 ∧ enterB b nm needs = b := by simp [enterC, enterB, h, h2, h3]
theorem enter_four {b : Bk} {nm : ByteArray} {needs : List ByteArray} (h : bookB b = true) (h2 : (nameB nm && pB (PartOk needs b.things)) = true) (h3 : memS (nms b.bs) nm = false) (h4 : 5 ≤ b.bs.length) : enterC b nm needs = 4 ∧ enterB b nm needs = b := by simp [enterC, enterB, h, h2, h3, h4]
theorem enter_yes {b : Bk} {nm : ByteArray} {needs : List ByteArray} (h : bookB b = true) (h2 : (nameB nm && pB (PartOk needs b.things)) = true) (h3 : memS (nms b.bs) nm = false) (h4 : ¬ 5 ≤ b.bs.length) :
    enterC b nm needs = 0 ∧ enterB b nm needs = ⟨b.things, b.bs.take (inN b nm) ++ ⟨nm, [], needs⟩ :: b.bs.drop (inN b nm)⟩ := by
  have hc : enterC b nm needs = 0 := by simp [enterC, h, h2, h3, h4]
  exact ⟨hc, by rw [enterB, h, if_neg (by simp), if_pos hc]⟩
/-- What an ok book's lists hold is short. -/
theorem ok_small {b : Bk} (h : BookOk b) : b.things.length ≤ 8 ∧ b.bs.length ≤ 5 ∧ ∀ x ∈ b.bs, x.has.length ≤ 8 ∧ x.needs.length ≤ 8 := by
  refine ⟨h.1.1, h.2.1, fun x hx => ?_⟩
  obtain ⟨i, hi, rfl⟩ := List.getElem_of_mem hx
  have ho := h.2.2.2.2.1.at (k := i) hi hi
  have h1 := part_short ho.1
  have h2 := part_short ho.2
  have h0 := h.1.1
  omega
theorem book_ok {b : Bk} (h : bookB b = true) : BookOk b := pB_iff.1 h
end Go.Proofs.YtliebjbbomghiaaGreatDoor

/- Books of one's own. -/
namespace Go.Proofs.YtliebjbbomghiaaGreatDoor
open Go.RowKit

theorem rowsB_append (a b : List Bv) : rowsB (a ++ b) = rowsB a ++ rowsB b := by
  induction a with
  | nil => rfl
  | cons p r ih => simp [rowsB, ih]
theorem rowsB_at : ∀ (ps : List Bv) (i : Nat) (p : Bv), ps[i]? = some p → ∀ (j : Nat) (u : Value), (rowB p)[j]? = some u → (rowsB ps)[i * 3 + j]? = some u
  | q :: r, 0, p, hp, j, u, hu => by
    simp at hp; subst hp
    have hj : j < (rowB q).length := (List.getElem?_eq_some_iff.1 hu).1
    rw [rowsB, Nat.zero_mul, Nat.zero_add, List.getElem?_append_left hj]; exact hu
  | q :: r, i + 1, p, hp, j, u, hu => by
    have := rowsB_at r i p (by simpa using hp) j u hu
    have hl : (rowB q).length = 3 := rfl
    rw [rowsB, List.getElem?_append_right (by rw [hl]; omega), hl, show (i + 1) * 3 + j - 3 = i * 3 + j by omega]; exact this
theorem rowsB_take (ps : List Bv) (k : Nat) (hk : k ≤ ps.length) : (rowsB ps).take (k * 3) = rowsB (ps.take k) := by
  have h : rowsB ps = rowsB (ps.take k) ++ rowsB (ps.drop k) := by rw [← rowsB_append, List.take_append_drop]
  rw [h, List.take_left' (by rw [rowsB_length, List.length_take]; omega)]
theorem rowsB_drop (ps : List Bv) (k : Nat) (hk : k ≤ ps.length) : (rowsB ps).drop (k * 3) = rowsB (ps.drop k) := by
  have h : rowsB ps = rowsB (ps.take k) ++ rowsB (ps.drop k) := by rw [← rowsB_append, List.take_append_drop]
  rw [h, List.drop_left' (by rw [rowsB_length, List.length_take]; omega)]
/-- A book of one's own. -/
def BkW (w : World) (base : Nat) (v : Value) (b : Bk) : Prop := ∃ tu bu ps, v = .agg #[tu, bu] ∧ OwnT w base tu b.things ∧ BsW w base bu ps ∧ ps.map (·.1) = b.bs
theorem BkV.szb {w : World} {v : Value} {b : Bk} (h : BkV w v b) : Szb b := by
  obtain ⟨tv, bv, rfl, ⟨_, _, _, _, h1, _⟩, ⟨a, c, _, _, h2⟩⟩ := h
  refine ⟨h1, fun x hx => ?_⟩
  obtain ⟨i, hi, rfl⟩ := List.getElem_of_mem hx
  obtain ⟨g, o, _, hS, _⟩ := h2 (by omega)
  obtain ⟨hv, nv, _, ⟨_, _, _, _, h3, _⟩, ⟨_, _, _, _, h4, _⟩, _⟩ := hS.at hi
  exact ⟨h3, h4⟩
theorem own_cap2 {w : World} {base e size n g cap : Nat} {xs : List Value} (h : w.ownsRow base e size (.slice (some ⟨g, 0, none⟩) n cap) n xs) : n ≤ cap ∧ cap ≤ maxLen := by
  rcases h.2 with ⟨h0, _⟩ | ⟨g', cap', cur, h', _, _, hc, hm, _⟩
  · simp at h0
  · simp only [Value.slice.injEq] at h'; omega
theorem own_len {w : World} {base e size n : Nat} {v : Value} {xs : List Value} (h : w.ownsRow base e size v n xs) : n ≤ maxLen := by
  rcases h.2 with ⟨_, rfl⟩ | ⟨g, cap, _, _, _, _, h1, h2, _⟩
  · omega
  · omega
theorem BsW.bs {w : World} {base : Nat} {v : Value} {ps : List Bv} {bs : List Ba} (h : BsW w base v ps) (hm : ps.map (·.1) = bs) (hz : ∀ x ∈ bs, (∀ s ∈ x.has, s.size ≤ maxLen) ∧ (∀ s ∈ x.needs, s.size ≤ maxLen)) : Bs w v bs := by
  subst hm
  have hl : (ps.map (·.1)).length = ps.length := List.length_map _
  obtain ⟨a, c, rfl⟩ := own_shape h.1
  refine ⟨a, c, by rw [hl], by rw [hl]; exact own_len h.1, fun hp => ?_⟩
  rw [hl] at hp
  obtain ⟨g, cap, hv⟩ := own_ptr2 h.1 hp
  obtain ⟨rfl, -, rfl⟩ := Value.slice.inj hv
  refine ⟨g, 0, rfl, fun i x hx => ?_, (h.1.lt g rfl).2⟩
  rw [List.getElem?_map, Option.map_eq_some_iff] at hx
  obtain ⟨p, hp', rfl⟩ := hx
  have hpm : p ∈ ps := List.mem_of_getElem? hp'
  obtain ⟨q1, q2, q3⟩ := h.2 p hpm
  have hzz := hz p.1 (List.mem_map_of_mem hpm)
  have hi : i < ps.length := (List.getElem?_eq_some_iff.1 hp').1
  refine ⟨p.2.1, p.2.2, fun j u hu => ?_, q1.lst.ls hzz.1, q2.lst.ls hzz.2, q3⟩
  have hr := rowsB_at ps i p hp' j u hu
  have hj : j < 3 := (List.getElem?_eq_some_iff.1 hu).1
  rw [Nat.zero_add, h.1.cellAt (i * 3 + j) (by omega)]; exact hr
theorem BkW.bk {w : World} {base : Nat} {v : Value} {b : Bk} (h : BkW w base v b) (hz : Szb b) : BkV w v b := by
  obtain ⟨tu, bu, ps, rfl, h1, h2, h3⟩ := h
  exact ⟨tu, bu, rfl, h1.lst.ls hz.1, h2.bs h3 hz.2⟩
theorem BkW.low {w : World} {base base' : Nat} {v : Value} {b : Bk} (h : BkW w base v b) (hb : base' ≤ base) : BkW w base' v b := by
  obtain ⟨tu, bu, ps, rfl, h1, h2, h3⟩ := h
  exact ⟨tu, bu, ps, rfl, own_low h1 hb, h2.low hb, h3⟩
theorem BkW.up {w w' : World} {base : Nat} {v : Value} {b : Bk} (h : BkW w base v b) (hb : Below w.heap.size w w') : BkW w' base v b := by
  obtain ⟨tu, bu, ps, rfl, h1, h2, h3⟩ := h
  exact ⟨tu, bu, ps, rfl, h1.up hb, h2.up hb, h3⟩
theorem BkW.set {w : World} {base r j : Nat} {v u : Value} {b : Bk} (h : BkW w base v b) (hr : r < base) : BkW (w.setCell ⟨r, j, none⟩ u) base v b := by
  obtain ⟨tu, bu, ps, rfl, h1, h2, h3⟩ := h
  exact ⟨tu, bu, ps, rfl, own_grown h1 (grown_setCell (grown_refl _ _) _) hr, h2.set hr, h3⟩
theorem BkW.gr {w w' : World} {base r : Nat} {v : Value} {b : Bk} (h : BkW w base v b) (hg : w.grownBy w' (some r)) (hr : r < base) : BkW w' base v b := by
  obtain ⟨tu, bu, ps, rfl, h1, h2, h3⟩ := h
  exact ⟨tu, bu, ps, rfl, own_grown h1 hg hr, ⟨own_grown h2.1 hg hr, fun p hp => ⟨own_grown (h2.2 p hp).1 hg hr, own_grown (h2.2 p hp).2.1 hg hr, (h2.2 p hp).2.2⟩⟩, h3⟩
theorem BkW.parts {w : World} {base : Nat} {v : Value} {b : Bk} (h : BkW w base v b) : ∃ a1 c1 a2 c2 ps, v = .agg #[.slice a1 b.things.length c1, .slice a2 b.bs.length c2] ∧ OwnT w base (.slice a1 b.things.length c1) b.things ∧ BsW w base (.slice a2 b.bs.length c2) ps ∧ ps.map (·.1) = b.bs := by
  obtain ⟨tu, bu, ps, rfl, h1, h2, h3⟩ := h
  obtain ⟨a1, c1, rfl⟩ := h1.lst.shape
  obtain ⟨a2, c2, rfl⟩ := own_shape h2.1
  have hl : ps.length = b.bs.length := by rw [← h3, List.length_map]
  rw [hl] at h2
  exact ⟨a1, c1, a2, c2, ps, by rw [hl], h1, h2, h3⟩
theorem bkW_none (w : World) (base : Nat) : BkW w base (.agg #[.slice none 0 0, .slice none 0 0]) nobody :=
  ⟨_, _, [], rfl, World.ownsRow_nil _ _ _ _, ⟨World.ownsRow_nil _ _ _ _, fun p hp => by simp at hp⟩, rfl⟩
theorem BkV.bsOf {w : World} {x y : Value} {b : Bk} (h : BkV w (.agg #[x, y]) b) : Bs w y b.bs := by
  obtain ⟨tv, bv, e, -, h2⟩ := h
  simp at e
  obtain ⟨rfl, rfl⟩ := e
  exact h2
theorem ret_pair {v : Value} {x y : Int} (h : x = y) : Ending.returned (.tuple #[v, .int .i64 x]) = .returned (.tuple #[v, .int .i64 y]) := by rw [h]
theorem end_cb2b {P : Program} {fn : Func} {q q2 : Tmp} {T : TypeId} (h : fn.results = #[.cell q T, .tmp q2]) {d : TypeDesc} (hu : P.underlying T = some d) (hd : d.isRow = true) (hi : (P.info? T).map (·.size) = some 2) {R : Ending → World → Prop} {tmps : Array Value} {w : World} {rk : Nat} {y0 y1 x0 x1 v : Value}
    (k : CB w rk [y0, y1]) (ht : tmps.getD q undef = .pointer (some ⟨rk, 0, none⟩)) (hv : tmps.getD q2 undef = v) (hR : R (.returned (.tuple #[.agg #[x0, x1], v])) ((w.setCell ⟨rk, 0, none⟩ x0).setCell ⟨rk, 1, none⟩ x1)) :
    bodyPost P fn R .ret { tmps := tmps, defers := [] } ((w.setCell ⟨rk, 0, none⟩ x0).setCell ⟨rk, 1, none⟩ x1) :=
  bodyPost_ret (ret_cb2 (cs := [x0, x1]) h hu hd hi ht hv (k.copy2 x0 x1)) rfl hR
/-- A list stays while a row of batches grows. -/
theorem own_step {W W' : World} {base b2 n : Nat} {u v : Value} {ss : List ByteArray} {xs : List Value} (h : OwnT W base u ss) (hrow : W.ownsRow b2 172 3 v n xs) (hg : W.grownBy W' v.ownBlock) : OwnT W' base u ss :=
  own_keep2 h hg (own_apart2 h hrow (by decide))
/-- The cells of a row of batches, from place k on. -/
theorem rows_cells {w : World} {base g cap n : Nat} {ps : List Bv} (h : w.ownsRow base 172 3 (.slice (some ⟨g, 0, none⟩) n cap) n (rowsB ps)) (k : Nat) (qs : List Bv) (hq : ∀ i p, qs[i]? = some p → ps[k + i]? = some p) :
    ∀ (j : Nat) (u : Value), (rowsB qs)[j]? = some u → w.cell? ((⟨g, k * 3, none⟩ : Addr).add j) = some u := fun j u hu => by
  have hj : j < qs.length * 3 := by rw [← rowsB_length]; exact (List.getElem?_eq_some_iff.1 hu).1
  have hi : j / 3 < qs.length := by omega
  have hp := List.getElem?_eq_getElem hi
  have h3 : (rowB (qs[j / 3]))[j % 3]? = some u := by
    have hl : j % 3 < (rowB (qs[j / 3])).length := by show _ < 3; omega
    have := rowsB_at qs (j / 3) _ hp (j % 3) _ (List.getElem?_eq_getElem hl)
    rw [show j / 3 * 3 + j % 3 = j by omega, hu] at this
    rw [List.getElem?_eq_getElem hl]; exact this.symm
  have h4 := rowsB_at ps (k + j / 3) _ (hq _ _ hp) (j % 3) u h3
  have h5 := (List.getElem?_eq_some_iff.1 h4).1
  rw [h.1] at h5
  rw [Addr.add_mid, show k * 3 + j = (k + j / 3) * 3 + j % 3 by omega, h.cellAt _ h5]; exact h4
theorem slice_ne {g n c : Nat} {r : Option Nat} (h : some g ≠ r) : ∀ g', (Value.slice (some ⟨g, 0, none⟩) n c).ownBlock = some g' → some g' ≠ r := fun g' hg' => by
  simp only [Value.ownBlock, Option.some.injEq] at hg'
  subst hg'; exact h
theorem take_at (ps : List Bv) (k : Nat) : ∀ (i : Nat) (q : Bv), (ps.take k)[i]? = some q → ps[0 + i]? = some q := fun i q hq => by
  rw [List.getElem?_take] at hq
  split at hq
  · rw [Nat.zero_add]; exact hq
  · cases hq
theorem drop_at (ps : List Bv) (k : Nat) : ∀ (i : Nat) (q : Bv), (ps.drop k)[i]? = some q → ps[k + i]? = some q := fun i q hq => by rwa [List.getElem?_drop] at hq
theorem bsW_mk {w : World} {base n : Nat} {v : Value} {qs : List Bv} {xs : List Value} (h : w.ownsRow base 172 3 v n xs) (hx : xs = rowsB qs) (hn : n = qs.length) (hl : ∀ p ∈ qs, OwnT w base p.2.1 p.1.has ∧ OwnT w base p.2.2 p.1.needs ∧ p.1.nm.size ≤ maxLen) : BsW w base v qs := by
  subst hx hn; exact ⟨h, hl⟩
theorem oneB (ps : List Bv) (h : ∀ p ∈ ps, (∃ a n c, p.2.1 = .slice a n c) ∧ ∃ a n c, p.2.2 = .slice a n c) : ∀ u ∈ rowsB ps, u.oneCell' = true := by
  induction ps with
  | nil => intro u hu; simp [rowsB] at hu
  | cons p r ih =>
    intro u hu
    rw [rowsB, List.mem_append] at hu
    rcases hu with hu | hu
    · obtain ⟨⟨a, n, c, h1⟩, a2, n2, c2, h2⟩ := h p (by simp)
      simp only [rowB, h1, h2, List.mem_cons, List.not_mem_nil, or_false] at hu
      rcases hu with rfl | rfl | rfl <;> rfl
    · exact ih (fun q hq => h q (by simp [hq])) u hu
theorem BsW.one {w : World} {base : Nat} {v : Value} {ps : List Bv} (h : BsW w base v ps) (qs : List Bv) (hq : ∀ p ∈ qs, p ∈ ps) : ∀ u ∈ rowsB qs, u.oneCell' = true :=
  oneB qs fun p hp => by
    obtain ⟨q1, q2, -⟩ := h.2 p (hq p hp)
    obtain ⟨a, c, e1⟩ := q1.lst.shape
    obtain ⟨a2, c2, e2⟩ := q2.lst.shape
    exact ⟨⟨_, _, _, e1⟩, ⟨_, _, _, e2⟩⟩
end Go.Proofs.YtliebjbbomghiaaGreatDoor

/- Rows of any elements; batches, those that ended, and houses of one's own. -/
namespace Go.Proofs.YtliebjbbomghiaaGreatDoor
open Go.RowKit

/-- The cells of elements, one behind the other. -/
def rowsF {α : Type} (f : α → List Value) : List α → List Value
  | [] => []
  | a :: r => f a ++ rowsF f r
theorem rowsF_append {α : Type} (f : α → List Value) (a b : List α) : rowsF f (a ++ b) = rowsF f a ++ rowsF f b := by
  induction a with
  | nil => rfl
  | cons p r ih => simp [rowsF, ih]
theorem rowsF_length {α : Type} {f : α → List Value} {k : Nat} (hf : ∀ a, (f a).length = k) : ∀ l : List α, (rowsF f l).length = l.length * k
  | [] => by simp [rowsF]
  | a :: r => by rw [rowsF, List.length_append, hf, rowsF_length hf r, List.length_cons, Nat.succ_mul, Nat.add_comm]
theorem rowsF_at {α : Type} {f : α → List Value} {k : Nat} (hf : ∀ a, (f a).length = k) : ∀ (l : List α) (i : Nat) (a : α), l[i]? = some a → ∀ (j : Nat) (u : Value), (f a)[j]? = some u → (rowsF f l)[i * k + j]? = some u
  | q :: r, 0, a, h, j, u, hu => by
    obtain rfl : q = a := by simpa using h
    have hj : j < (f q).length := (List.getElem?_eq_some_iff.1 hu).1
    rw [rowsF, Nat.zero_mul, Nat.zero_add, List.getElem?_append_left hj]; exact hu
  | q :: r, i + 1, a, h, j, u, hu => by
    have := rowsF_at hf r i a (by simpa using h) j u hu
    rw [rowsF, Nat.succ_mul, List.getElem?_append_right (by rw [hf]; omega), hf, show i * k + k + j - k = i * k + j by omega]; exact this
theorem rowsF_set {α : Type} {f : α → List Value} {k : Nat} (hf : ∀ a, (f a).length = k) : ∀ (l : List α) (i : Nat) (a a' : α) (j : Nat) (u : Value), l[i]? = some a → j < k → f a' = (f a).set j u → (rowsF f l).set (i * k + j) u = rowsF f (l.set i a')
  | q :: r, 0, a, a', j, u, h, hj, e => by
    obtain rfl : q = a := by simpa using h
    rw [rowsF, Nat.zero_mul, Nat.zero_add, List.set_append_left _ _ (by rw [hf]; exact hj), ← e]; rfl
  | q :: r, i + 1, a, a', j, u, h, hj, e => by
    have := rowsF_set hf r i a a' j u (by simpa using h) hj e
    rw [rowsF, Nat.succ_mul, List.set_append_right _ _ (by rw [hf]; omega), hf, show i * k + k + j - k = i * k + j by omega, this]; rfl
theorem rowsF_take {α : Type} {f : α → List Value} {k : Nat} (hf : ∀ a, (f a).length = k) (l : List α) (i : Nat) (hi : i ≤ l.length) : (rowsF f l).take (i * k) = rowsF f (l.take i) := by
  have h : rowsF f l = rowsF f (l.take i) ++ rowsF f (l.drop i) := by rw [← rowsF_append, List.take_append_drop]
  rw [h, List.take_left' (by rw [rowsF_length hf, List.length_take, Nat.min_eq_left hi])]
theorem rowsF_drop {α : Type} {f : α → List Value} {k : Nat} (hf : ∀ a, (f a).length = k) (l : List α) (i : Nat) (hi : i ≤ l.length) : (rowsF f l).drop (i * k) = rowsF f (l.drop i) := by
  have h : rowsF f l = rowsF f (l.take i) ++ rowsF f (l.drop i) := by rw [← rowsF_append, List.take_append_drop]
  rw [h, List.drop_left' (by rw [rowsF_length hf, List.length_take, Nat.min_eq_left hi])]
theorem rowsF_one {α : Type} {f : α → List Value} (l : List α) (h : ∀ a ∈ l, ∀ u ∈ f a, u.oneCell' = true) : ∀ u ∈ rowsF f l, u.oneCell' = true := by
  induction l with
  | nil => intro u hu; simp [rowsF] at hu
  | cons a r ih =>
    intro u hu
    rw [rowsF, List.mem_append] at hu
    rcases hu with hu | hu
    · exact h a (by simp) u hu
    · exact ih (fun b hb => h b (by simp [hb])) u hu
/-- An element's cells in a row of one's own. -/
theorem own_rows {α : Type} {f : α → List Value} {k : Nat} (hf : ∀ a, (f a).length = k) {w : World} {base e n g cap : Nat} {l : List α} (h : w.ownsRow base e k (.slice (some ⟨g, 0, none⟩) n cap) n (rowsF f l)) {i : Nat} {a : α} (hi : l[i]? = some a) : w.rangeAt g (i * k) (f a) := fun j u hu => by
  have h1 := rowsF_at hf l i a hi j u hu
  have hj : i * k + j < n * k := by rw [← h.1]; exact (List.getElem?_eq_some_iff.1 h1).1
  rw [h.cellAt (i * k + j) hj]; exact h1
/-- The cells of a run of elements that lie from cell o on, as a list of news. -/
theorem news_rows {α : Type} {f : α → List Value} {k : Nat} (hk : 0 < k) (hf : ∀ a, (f a).length = k) {w : World} {b o : Nat} {l : List α} (h : ∀ (i : Nat) (a : α), l[i]? = some a → w.rangeAt b (o + i * k) (f a)) : ∀ (j : Nat) (u : Value), (rowsF f l)[j]? = some u → w.cell? ((⟨b, o, none⟩ : Addr).add j) = some u := fun j u hu => by
  have hj : j < l.length * k := by rw [← rowsF_length hf]; exact (List.getElem?_eq_some_iff.1 hu).1
  have hi : j / k < l.length := Nat.div_lt_of_lt_mul (by rw [Nat.mul_comm]; exact hj)
  have hm : j % k < k := Nat.mod_lt _ hk
  have hp := List.getElem?_eq_getElem hi
  have hl : j % k < (f (l[j / k])).length := by rw [hf]; exact hm
  have h3 := rowsF_at hf l (j / k) _ hp (j % k) _ (List.getElem?_eq_getElem hl)
  have ej : j / k * k + j % k = j := by rw [Nat.mul_comm]; exact Nat.div_add_mod j k
  rw [ej, hu] at h3
  have h4 := h (j / k) _ hp (j % k) _ (List.getElem?_eq_getElem hl)
  rw [Addr.add_mid, show o + j = o + j / k * k + j % k by omega, h4]; exact h3.symm

abbrev Rv := Rb × Value × Value
def rowR (p : Rv) : List Value := [.string p.1.nm, p.2.1, p.2.2, .string p.1.ad, .int .i64 p.1.si, .int .i64 p.1.st]
theorem rowR_len (p : Rv) : (rowR p).length = 6 := rfl
theorem cellsP_len (p : Ph) : p.cells.length = 8 := rfl
theorem cellsS_len (p : Sl) : p.cells.length = 2 := rfl
def Done.cells (d : Done) : List Value := [.string d.nm, .int .i64 d.e, .int .i64 d.t]
theorem cellsD_len (d : Done) : d.cells.length = 3 := rfl
/-- A batch whose recipe and slots are lists of one's own. -/
structure RcW (w : World) (base : Nat) (p : Rv) : Prop where
  r : w.ownsRow base 34 8 p.2.1 p.1.ps.length (rowsF Ph.cells p.1.ps)
  s : w.ownsRow base 69 2 p.2.2 p.1.sl.length (rowsF Sl.cells p.1.sl)
  nr : NN p.2.1
  ns : NN p.2.2
  zp : Sized p.1.ps
  zs : ∀ y ∈ p.1.sl, y.s.size ≤ maxLen ∧ y.t.size ≤ maxLen
  zn : p.1.nm.size ≤ maxLen
  np : p.1.ps.length ≤ 1048576
  nl : p.1.sl.length ≤ 1048576
theorem RcW.v {w : World} {base : Nat} {p : Rv} (h : RcW w base p) : RbV w p.1 p.2.1 p.2.2 := by
  have hr := h.r
  have hs := h.s
  obtain ⟨g, n, c, e⟩ := h.nr
  obtain ⟨g2, n2, c2, e2⟩ := h.ns
  obtain ⟨_, _, e3⟩ := own_shape hr
  obtain ⟨_, _, e4⟩ := own_shape hs
  rw [e] at e3
  rw [e2] at e4
  simp only [Value.slice.injEq] at e3 e4
  obtain ⟨-, rfl, -⟩ := e3
  obtain ⟨-, rfl, -⟩ := e4
  rw [e] at hr
  rw [e2] at hs
  have hc := own_cap2 hr
  refine ⟨⟨g, 0, c, e, fun i q hq => ?_, (hr.lt g rfl).2, hc.1, ?_⟩, ⟨g2, 0, c2, e2, fun i q hq => ?_, (hs.lt g2 rfl).2⟩, h.zp, h.zs, h.zn, h.np, h.nl⟩
  · rw [Nat.zero_add]; exact own_rows cellsP_len hr hq
  · have := hc.2; unfold maxLen at this; omega
  · rw [Nat.zero_add]; exact own_rows cellsS_len hs hq
theorem RcW.low {w : World} {base base' : Nat} {p : Rv} (h : RcW w base p) (hb : base' ≤ base) : RcW w base' p := ⟨own_low h.r hb, own_low h.s hb, h.nr, h.ns, h.zp, h.zs, h.zn, h.np, h.nl⟩
theorem RcW.up {w w' : World} {base : Nat} {p : Rv} (h : RcW w base p) (hb : Below w.heap.size w w') : RcW w' base p := ⟨own_up h.r hb, own_up h.s hb, h.nr, h.ns, h.zp, h.zs, h.zn, h.np, h.nl⟩
theorem RcW.gr {w w' : World} {base rb : Nat} {p : Rv} (h : RcW w base p) (hg : w.grownBy w' (some rb)) (hr : rb < base) : RcW w' base p := ⟨own_grown h.r hg hr, own_grown h.s hg hr, h.nr, h.ns, h.zp, h.zs, h.zn, h.np, h.nl⟩
/-- It stays while a row of other elements is written. -/
theorem RcW.step {w w' : World} {base b2 e k n : Nat} {v : Value} {xs : List Value} {p : Rv} (h : RcW w base p) (hrow : w.ownsRow b2 e k v n xs) (h1 : 34 ≠ e) (h2 : 69 ≠ e) (hg : w.grownBy w' v.ownBlock) : RcW w' base p :=
  ⟨own_keep2 h.r hg (own_apart2 h.r hrow h1), own_keep2 h.s hg (own_apart2 h.s hrow h2), h.nr, h.ns, h.zp, h.zs, h.zn, h.np, h.nl⟩
/-- Another batch with the same recipe and slots. -/
theorem RcW.as {w : World} {base : Nat} {p : Rv} {y : Rb} (h : RcW w base p) (h1 : y.ps = p.1.ps) (h2 : y.sl = p.1.sl) (h3 : y.nm = p.1.nm) : RcW w base (y, p.2.1, p.2.2) :=
  ⟨by rw [h1]; exact h.r, by rw [h2]; exact h.s, h.nr, h.ns, by rw [h1]; exact h.zp, by rw [h2]; exact h.zs, by rw [h3]; exact h.zn, by rw [h1]; exact h.np, by rw [h2]; exact h.nl⟩
/-- Batches of one's own. -/
def RbsW (w : World) (base : Nat) (v : Value) (ps : List Rv) : Prop := w.ownsRow base 26 6 v ps.length (rowsF rowR ps) ∧ ∀ p ∈ ps, RcW w base p
theorem RbsW.low {w : World} {base base' : Nat} {v : Value} {ps : List Rv} (h : RbsW w base v ps) (hb : base' ≤ base) : RbsW w base' v ps := ⟨own_low h.1 hb, fun p hp => (h.2 p hp).low hb⟩
theorem RbsW.up {w w' : World} {base : Nat} {v : Value} {ps : List Rv} (h : RbsW w base v ps) (hb : Below w.heap.size w w') : RbsW w' base v ps := ⟨own_up h.1 hb, fun p hp => (h.2 p hp).up hb⟩
theorem RbsW.gr {w w' : World} {base rb : Nat} {v : Value} {ps : List Rv} (h : RbsW w base v ps) (hg : w.grownBy w' (some rb)) (hr : rb < base) : RbsW w' base v ps := ⟨own_grown h.1 hg hr, fun p hp => (h.2 p hp).gr hg hr⟩
theorem RbsW.set {w : World} {base r j : Nat} {v u : Value} {ps : List Rv} (h : RbsW w base v ps) (hr : r < base) : RbsW (w.setCell ⟨r, j, none⟩ u) base v ps := h.gr (grown_setCell (grown_refl _ _) _) hr
theorem RbsW.rbs {w : World} {base : Nat} {v : Value} {ps : List Rv} {bs : List Rb} (h : RbsW w base v ps) (hm : ps.map (·.1) = bs) : Rbs w v bs := by
  subst hm
  have hl : (ps.map (·.1)).length = ps.length := List.length_map _
  obtain ⟨a, c, rfl⟩ := own_shape h.1
  refine ⟨a, c, by rw [hl], by rw [hl]; exact own_len h.1, fun hp => ?_⟩
  rw [hl] at hp
  obtain ⟨g, cap, hv⟩ := own_ptr2 h.1 hp
  obtain ⟨rfl, -, rfl⟩ := Value.slice.inj hv
  refine ⟨g, 0, rfl, fun i x hx => ?_, (h.1.lt g rfl).2⟩
  rw [List.getElem?_map, Option.map_eq_some_iff] at hx
  obtain ⟨p, hp', rfl⟩ := hx
  refine ⟨p.2.1, p.2.2, ?_, (h.2 p (List.mem_of_getElem? hp')).v⟩
  rw [Nat.zero_add]
  exact own_rows rowR_len h.1 hp'
theorem rowR_one {w : World} {base : Nat} {p : Rv} (h : RcW w base p) : ∀ u ∈ rowR p, u.oneCell' = true := fun u hu => by
  obtain ⟨g, n, c, e⟩ := h.nr
  obtain ⟨g2, n2, c2, e2⟩ := h.ns
  simp only [rowR, e, e2, List.mem_cons, List.not_mem_nil, or_false] at hu
  rcases hu with rfl | rfl | rfl | rfl | rfl | rfl <;> rfl
/-- One batch more. -/
theorem RbsW.app {w w' : World} {base : Nat} {v v' : Value} {ps : List Rv} {p : Rv} (h : RbsW w base v ps) (hp : RcW w base p) (hg : w.grownBy w' v.ownBlock) (ho : w'.ownsRow base 26 6 v' (ps.length + 1) (rowsF rowR ps ++ rowR p)) : RbsW w' base v' (ps ++ [p]) := by
  refine ⟨?_, fun q hq => ?_⟩
  · rw [List.length_append, rowsF_append]
    simpa [rowsF] using ho
  · rcases List.mem_append.1 hq with h1 | h1
    · exact (h.2 q h1).step h.1 (by decide) (by decide) hg
    · obtain rfl : q = p := by simpa using h1
      exact hp.step h.1 (by decide) (by decide) hg
theorem hnew6 (w : World) (x0 x1 x2 x3 x4 x5 : Value) (ty : TypeId) {j : Nat} {v : Value} (h : [x0, x1, x2, x3, x4, x5][j]? = some v) : (w.alloc (.cells #[x0, x1, x2, x3, x4, x5] ty)).cell? ((⟨w.heap.size, 0, none⟩ : Addr).add j) = some v := by
  have hj : j < [x0, x1, x2, x3, x4, x5].length := (List.getElem?_eq_some_iff.1 h).1
  have := (cb_alloc w [x0, x1, x2, x3, x4, x5] ty).1 j v h
  rw [Addr.add_mid]; exact this
/-- One cell of a batch written. -/
theorem RbsW.put {w : World} {base g n cap i j : Nat} {u : Value} {ps : List Rv} {p : Rv} {y : Rb} (h : RbsW w base (.slice (some ⟨g, 0, none⟩) n cap) ps) (hp : ps[i]? = some p) (hj : j < 6) (hy : rowR (y, p.2.1, p.2.2) = (rowR p).set j u) (h1 : y.ps = p.1.ps) (h2 : y.sl = p.1.sl) (h3 : y.nm = p.1.nm) :
    RbsW (w.setCell ⟨g, i * 6 + j, none⟩ u) base (.slice (some ⟨g, 0, none⟩) n cap) (ps.set i (y, p.2.1, p.2.2)) := by
  obtain ⟨_, _, e⟩ := own_shape h.1
  simp only [Value.slice.injEq] at e
  obtain ⟨-, rfl, -⟩ := e
  have hi : i < ps.length := (List.getElem?_eq_some_iff.1 hp).1
  have hs := (World.ownsRow.stored h.1 (i * 6 + j) u).1
  rw [rowsF_set rowR_len ps i p (y, p.2.1, p.2.2) j u hp hj hy] at hs
  have hg : w.grownBy (w.setCell ⟨g, i * 6 + j, none⟩ u) (Value.slice (some ⟨g, 0, none⟩) ps.length cap).ownBlock := grown_setCell (grown_refl _ _) _
  refine ⟨by rw [List.length_set]; exact hs, fun q hq => ?_⟩
  have hk : ∀ q, RcW w base q → RcW (w.setCell ⟨g, i * 6 + j, none⟩ u) base q := fun q hq => hq.step h.1 (by decide) (by decide) hg
  rcases List.mem_or_eq_of_mem_set hq with hq | rfl
  · exact hk q (h.2 q hq)
  · exact hk _ ((h.2 p (List.mem_of_getElem? hp)).as h1 h2 h3)
/-- A book stays while a row of other elements is written. -/
theorem BkW.step {w w' : World} {base b2 e k n : Nat} {v u : Value} {b : Bk} {xs : List Value} (h : BkW w base v b) (hrow : w.ownsRow b2 e k u n xs) (h1 : 9 ≠ e) (h2 : 172 ≠ e) (hg : w.grownBy w' u.ownBlock) : BkW w' base v b := by
  obtain ⟨tu, bu, ps, rfl, a1, a2, a3⟩ := h
  exact ⟨tu, bu, ps, rfl, own_keep2 a1 hg (own_apart2 a1 hrow h1), ⟨own_keep2 a2.1 hg (own_apart2 a2.1 hrow h2), fun p hp => ⟨own_keep2 (a2.2 p hp).1 hg (own_apart2 (a2.2 p hp).1 hrow h1), own_keep2 (a2.2 p hp).2.1 hg (own_apart2 (a2.2 p hp).2.1 hrow h1), (a2.2 p hp).2.2⟩⟩, a3⟩
/-- Those that ended, as the end of a row of one's own. -/
def DnsW (w : World) (base : Nat) (v : Value) (ds : List Done) : Prop := ∃ (g cap : Nat) (pre : List Done), v = .slice (some ⟨g, pre.length * 3, none⟩) ds.length cap ∧ w.ownsRow base 186 3 (.slice (some ⟨g, 0, none⟩) (pre.length + ds.length) (pre.length + cap)) (pre.length + ds.length) (rowsF Done.cells (pre ++ ds)) ∧ ∀ d ∈ ds, d.nm.size ≤ maxLen
theorem DnsW.low {w : World} {base base' : Nat} {v : Value} {ds : List Done} (h : DnsW w base v ds) (hb : base' ≤ base) : DnsW w base' v ds := by
  obtain ⟨g, cap, pre, e, h1, h2⟩ := h
  exact ⟨g, cap, pre, e, own_low h1 hb, h2⟩
theorem DnsW.up {w w' : World} {base : Nat} {v : Value} {ds : List Done} (h : DnsW w base v ds) (hb : Below w.heap.size w w') : DnsW w' base v ds := by
  obtain ⟨g, cap, pre, e, h1, h2⟩ := h
  exact ⟨g, cap, pre, e, own_up h1 hb, h2⟩
theorem DnsW.gr {w w' : World} {base rb : Nat} {v : Value} {ds : List Done} (h : DnsW w base v ds) (hg : w.grownBy w' (some rb)) (hr : rb < base) : DnsW w' base v ds := by
  obtain ⟨g, cap, pre, e, h1, h2⟩ := h
  exact ⟨g, cap, pre, e, own_grown h1 hg hr, h2⟩
theorem DnsW.step {w w' : World} {base b2 e k n : Nat} {v u : Value} {ds : List Done} {xs : List Value} (h : DnsW w base v ds) (hrow : w.ownsRow b2 e k u n xs) (h1 : 186 ≠ e) (hg : w.grownBy w' u.ownBlock) : DnsW w' base v ds := by
  obtain ⟨g, cap, pre, e, a1, a2⟩ := h
  exact ⟨g, cap, pre, e, own_keep2 a1 hg (own_apart2 a1 hrow h1), a2⟩
theorem DnsW.dns {w : World} {base : Nat} {v : Value} {ds : List Done} (h : DnsW w base v ds) : Dns w v ds := by
  obtain ⟨g, cap, pre, rfl, h1, h2⟩ := h
  refine ⟨_, cap, rfl, by have := own_len h1; omega, fun _ => ⟨g, pre.length * 3, rfl, fun i d hd => ⟨?_, h2 d (List.mem_of_getElem? hd)⟩, (h1.lt g rfl).2⟩⟩
  have hi : (pre ++ ds)[pre.length + i]? = some d := by rw [List.getElem?_append_right (by omega), Nat.add_sub_cancel_left]; exact hd
  have := own_rows cellsD_len h1 hi
  rw [Nat.add_mul] at this
  exact this
theorem dnsW_of {w : World} {base : Nat} {v : Value} {ds : List Done} (h : w.ownsRow base 186 3 v ds.length (rowsF Done.cells ds)) (hn : NN v) (hz : ∀ d ∈ ds, d.nm.size ≤ maxLen) : DnsW w base v ds := by
  obtain ⟨g, n, c, rfl⟩ := hn
  obtain ⟨_, _, e⟩ := own_shape h
  simp only [Value.slice.injEq] at e
  obtain ⟨-, rfl, -⟩ := e
  exact ⟨g, c, [], by simp, by simpa using h, hz⟩
theorem Dns.sized {w : World} {v : Value} {ds : List Done} (h : Dns w v ds) : ∀ d ∈ ds, d.nm.size ≤ maxLen := fun d hd => by
  obtain ⟨a, c, -, -, h2⟩ := h
  obtain ⟨i, hi, rfl⟩ := List.getElem_of_mem hd
  obtain ⟨b, o, -, hD, -⟩ := h2 (by omega)
  exact (hD i _ (List.getElem?_eq_getElem hi)).2
/-- A house of one's own. -/
structure HW (w : World) (base : Nat) (h : House) (tv bv xv dv : Value) : Prop where
  k : BkW w base (.agg #[tv, bv]) h.sh
  z : Szb h.sh
  x : ∃ ps, RbsW w base xv ps ∧ ps.map (·.1) = h.bs
  d : DnsW w base dv h.ds
theorem HW.v {w : World} {base : Nat} {h : House} {tv bv xv dv : Value} (H : HW w base h tv bv xv dv) : HV w h tv bv xv dv := by
  obtain ⟨ps, h1, h2⟩ := H.x
  obtain ⟨t, b, e, k1, k2⟩ := H.k.bk H.z
  simp at e
  obtain ⟨rfl, rfl⟩ := e
  exact ⟨k1, k2, h1.rbs h2, H.d.dns⟩
theorem HW.low {w : World} {base base' : Nat} {h : House} {tv bv xv dv : Value} (H : HW w base h tv bv xv dv) (hb : base' ≤ base) : HW w base' h tv bv xv dv := by
  obtain ⟨ps, h1, h2⟩ := H.x
  exact ⟨H.k.low hb, H.z, ⟨ps, h1.low hb, h2⟩, H.d.low hb⟩
theorem HW.up {w w' : World} {base : Nat} {h : House} {tv bv xv dv : Value} (H : HW w base h tv bv xv dv) (hb : Below w.heap.size w w') : HW w' base h tv bv xv dv := by
  obtain ⟨ps, h1, h2⟩ := H.x
  exact ⟨H.k.up hb, H.z, ⟨ps, h1.up hb, h2⟩, H.d.up hb⟩
theorem HW.gr {w w' : World} {base rb : Nat} {h : House} {tv bv xv dv : Value} (H : HW w base h tv bv xv dv) (hg : w.grownBy w' (some rb)) (hr : rb < base) : HW w' base h tv bv xv dv := by
  obtain ⟨ps, h1, h2⟩ := H.x
  exact ⟨H.k.gr hg hr, H.z, ⟨ps, h1.gr hg hr, h2⟩, H.d.gr hg hr⟩
theorem HW.set {w : World} {base r j : Nat} {u : Value} {h : House} {tv bv xv dv : Value} (H : HW w base h tv bv xv dv) (hr : r < base) : HW (w.setCell ⟨r, j, none⟩ u) base h tv bv xv dv := H.gr (grown_setCell (grown_refl _ _) _) hr
end Go.Proofs.YtliebjbbomghiaaGreatDoor

/- The specification's copy of a batch (chapter 21). -/
namespace Go.Proofs.YtliebjbbomghiaaGreatDoor
open Go.RowKit

theorem infoPhR : (Tryz.prog.info? 34).map (fun i => (i.zero, i.size, i.bytes)) = some (some (.agg #[.string ⟨#[]⟩, .int .i64 0, .string ⟨#[]⟩, .string ⟨#[]⟩, .int .i64 0, .int .i64 0, .string ⟨#[]⟩, .string ⟨#[]⟩]), 8, 104) := by kernel_rfl
theorem infoSlR : (Tryz.prog.info? 69).map (fun i => (i.zero, i.size, i.bytes)) = some (some (.agg #[.string ⟨#[]⟩, .string ⟨#[]⟩]), 2, 32) := by kernel_rfl
theorem infoRbR : (Tryz.prog.info? 26).map (fun i => (i.zero, i.size, i.bytes)) = some (some (.agg #[.string ⟨#[]⟩, .slice none 0 0, .slice none 0 0, .string ⟨#[]⟩, .int .i64 0, .int .i64 0]), 6, 96) := by kernel_rfl
theorem infoDnR : (Tryz.prog.info? 186).map (fun i => (i.zero, i.size, i.bytes)) = some (some (.agg #[.string ⟨#[]⟩, .int .i64 0, .int .i64 0]), 3, 32) := by kernel_rfl
theorem sizeRbR : (Tryz.prog.info? 26).map (·.size) = some 6 := by kernel_rfl
theorem oneP (ps : List Ph) : ∀ u ∈ rowsF Ph.cells ps, u.oneCell' = true := rowsF_one ps fun a _ u hu => by
  simp only [Ph.cells, List.mem_cons, List.not_mem_nil, or_false] at hu
  rcases hu with rfl | rfl | rfl | rfl | rfl | rfl | rfl | rfl <;> rfl
theorem oneSl (ps : List Sl) : ∀ u ∈ rowsF Sl.cells ps, u.oneCell' = true := rowsF_one ps fun a _ u hu => by
  simp only [Sl.cells, List.mem_cons, List.not_mem_nil, or_false] at hu
  rcases hu with rfl | rfl <;> rfl
theorem oneDn (ps : List Done) : ∀ u ∈ rowsF Done.cells ps, u.oneCell' = true := rowsF_one ps fun a _ u hu => by
  simp only [Done.cells, List.mem_cons, List.not_mem_nil, or_false] at hu
  rcases hu with rfl | rfl | rfl <;> rfl
theorem ownT_lit (w : World) (e k : Nat) : (w.alloc (.cells #[] e)).ownsRow w.heap.size e k (.slice (some ⟨w.heap.size, 0, none⟩) 0 0) 0 [] := World.ownsRow_lit w #[] 0 (Nat.le_refl _) (by unfold maxLen; omega) (by simp)

theorem grown_set6 (w : World) (b : Nat) (x0 x1 x2 x3 x4 x5 : Value) : w.grownBy ((((((w.setCell ⟨b, 0, none⟩ x0).setCell ⟨b, 1, none⟩ x1).setCell ⟨b, 2, none⟩ x2).setCell ⟨b, 3, none⟩ x3).setCell ⟨b, 4, none⟩ x4).setCell ⟨b, 5, none⟩ x5) (some b) :=
  grown_setCell (rb := b) (grown_setCell (rb := b) (grown_setCell (rb := b) (grown_setCell (rb := b) (grown_setCell (rb := b) (grown_setCell (rb := b) (grown_refl w _) _) _) _) _) _) _

set_option maxRecDepth 20000 in
set_option maxHeartbeats 4000000 in
theorem copy21_any (x : Rb) (rv sv : Value) (w : World) (H : RbV w x rv sv) :
    Calls Tryz.prog 59 #[.agg #[.string x.nm, rv, sv, .string x.ad, .int .i64 x.si, .int .i64 x.st]] w fun e w' => (∃ ru su, e = .returned (.agg #[.string x.nm, ru, su, .string x.ad, .int .i64 x.si, .int .i64 x.st]) ∧ RcW w' w.heap.size (x, ru, su)) ∧ Below w.heap.size w w' := by
  obtain ⟨b, o, c, rfl, hr, hb, -, -⟩ := H.r
  obtain ⟨g, q, d, rfl, hs, hg⟩ := H.s
  have hnp := H.np
  have hns := H.ns
  obtain ⟨ip, hip, p0, p1, p2⟩ := info_parts infoPhR
  obtain ⟨is, his, s0, s1, s2⟩ := info_parts infoSlR
  obtain ⟨W1, hW1, kA, kR, hB1, hs1⟩ : ∃ W1, (w.alloc (.cells #[.string x.nm, .slice (some ⟨b, o, none⟩) x.ps.length c, .slice (some ⟨g, q, none⟩) x.sl.length d, .string x.ad, .int .i64 x.si, .int .i64 x.st] 26)).alloc (.cells #[.string ⟨#[]⟩, .slice none 0 0, .slice none 0 0, .string ⟨#[]⟩, .int .i64 0, .int .i64 0] 26) = W1 ∧ CB W1 w.heap.size [.string x.nm, .slice (some ⟨b, o, none⟩) x.ps.length c, .slice (some ⟨g, q, none⟩) x.sl.length d, .string x.ad, .int .i64 x.si, .int .i64 x.st] ∧ CB W1 (w.heap.size + 1) [.string ⟨#[]⟩, .slice none 0 0, .slice none 0 0, .string ⟨#[]⟩, .int .i64 0, .int .i64 0] ∧ Below w.heap.size w W1 ∧ W1.heap.size = w.heap.size + 2 := ⟨_, rfl, cb2 w _ _ _ _⟩
  go_enter Tryz.func59, Tryz.ntmps59
  go_upto_region 1 with fail
  try rw [hW1]
  clear hW1
  have hr1 := hr.up hB1 hb
  have hs9 := hs.up hB1 hg
  have hA0 : w.heap.size < W1.heap.size := by omega
  have hR0 : w.heap.size + 1 < W1.heap.size := by omega
  have hb0 : b < W1.heap.size := by omega
  have hg0 : g < W1.heap.size := by omega
  have Hs1 : Hid (W1.heap.size = w.heap.size + 2) := hs1
  clear hs1
  obtain ⟨W2, hW2, ho2, hb2⟩ : ∃ W2, W1.alloc (.cells #[] 34) = W2 ∧ W2.ownsRow W1.heap.size 34 8 (.slice (some ⟨W1.heap.size, 0, none⟩) 0 0) 0 [] ∧ Below W1.heap.size W1 W2 := ⟨_, rfl, ownT_lit _ _ _, (Below.refl _ _).alloc (Nat.le_refl _) _⟩
  have kA2 := kA.up hb2 hA0
  obtain ⟨e0, e1, e2, e3, e4, e5⟩ := kA2.c6
  have hn2 := news_rows (f := Ph.cells) (by decide) cellsP_len (hr1.up hb2 hb0)
  go_wp2_with (at_builtin; (try rw [hW2]); refine wpList_append_both _ rfl _ _ 23 rfl W1.heap.size 34 ip _ 8 104 Tryz.underlying23 hip p0 p1 p2 rfl (by decide) _ 0 [] rfl ho2 (some ⟨b, o, none⟩) x.ps.length c (rowsF Ph.cells x.ps) rfl (rowsF_length cellsP_len _) (fun _ => ⟨_, rfl, hn2⟩) (oneP _) (by unfold maxLen; omega) (by omega) hb2.size ?_)
  intro v1 w1 hown1 hgr1 hnn1
  have ho3 : w1.ownsRow W1.heap.size 34 8 v1 x.ps.length (rowsF Ph.cells x.ps) := by simpa using hown1
  have hnn := hnn1 ⟨_, _, _, rfl⟩
  have hB2 : Below W1.heap.size W1 w1 := below_ownB hb2 hb2.size ho2 hgr1 (Nat.le_refl _)
  have kA3 := kA.up hB2 hA0
  have kR3 := kR.up hB2 hR0
  clear hown1 hgr1 hnn1 ho2 hn2 e0 e1 e2 e3 e4 e5 kA2 kA kR hW2 hb2
  obtain ⟨e0, e1, e2, e3, e4, e5⟩ := kA3.c6
  obtain ⟨f0, f1, f2, f3, f4, f5⟩ := kA3.f6
  obtain ⟨g1, n1, m1, rfl⟩ := hnn
  go_upto_region 2 with fail
  obtain ⟨W3, hW3, kA4, kR4, ho4, hB3⟩ : ∃ W3, w1.setCell ⟨w.heap.size, 1, none⟩ (.slice (some ⟨g1, 0, none⟩) n1 m1) = W3 ∧ CB W3 w.heap.size [.string x.nm, .slice (some ⟨g1, 0, none⟩) n1 m1, .slice (some ⟨g, q, none⟩) x.sl.length d, .string x.ad, .int .i64 x.si, .int .i64 x.st] ∧ CB W3 (w.heap.size + 1) [.string ⟨#[]⟩, .slice none 0 0, .slice none 0 0, .string ⟨#[]⟩, .int .i64 0, .int .i64 0] ∧ W3.ownsRow W1.heap.size 34 8 (.slice (some ⟨g1, 0, none⟩) n1 m1) x.ps.length (rowsF Ph.cells x.ps) ∧ Below w.heap.size w W3 :=
    ⟨_, rfl, kA3.set (j := 1) (by simp), kR3.other (by omega), own_grown ho3 (grown_setCell (grown_refl _ _) _) hA0, (hB1.trans (hB2.mono (by omega))).setCell (p := ⟨w.heap.size, 1, none⟩) (Nat.le_refl _) _⟩
  try rw [hW3]
  have hz3 : W1.heap.size ≤ W3.heap.size := by rw [← hW3]; have := hB2.size; simpa using this
  clear hW3 e0 e1 e2 e3 e4 e5 f0 f1 f2 f3 f4 f5 kA3 kR3 ho3 hB2
  obtain ⟨W4, hW4, ho5, hb4⟩ : ∃ W4, W3.alloc (.cells #[] 69) = W4 ∧ W4.ownsRow W3.heap.size 69 2 (.slice (some ⟨W3.heap.size, 0, none⟩) 0 0) 0 [] ∧ Below W3.heap.size W3 W4 := ⟨_, rfl, ownT_lit _ _ _, (Below.refl _ _).alloc (Nat.le_refl _) _⟩
  have hn5 := news_rows (f := Sl.cells) (by decide) cellsS_len ((hs.up hB3 hg).up hb4 (by omega))
  have kA5 := kA4.up hb4 (by omega)
  obtain ⟨e0, e1, e2, e3, e4, e5⟩ := kA5.c6
  go_wp2_with (at_builtin; (try rw [hW4]); refine wpList_append_both _ rfl _ _ 24 rfl W3.heap.size 69 is _ 2 32 Tryz.underlying24 his s0 s1 s2 rfl (by decide) _ 0 [] rfl ho5 (some ⟨g, q, none⟩) x.sl.length d (rowsF Sl.cells x.sl) rfl (rowsF_length cellsS_len _) (fun _ => ⟨_, rfl, hn5⟩) (oneSl _) (by unfold maxLen; omega) (by omega) hb4.size ?_)
  intro v2 w2 hown2 hgr2 hnn2
  have ho6 : w2.ownsRow W3.heap.size 69 2 v2 x.sl.length (rowsF Sl.cells x.sl) := by simpa using hown2
  have hnn := hnn2 ⟨_, _, _, rfl⟩
  have hB4 : Below W3.heap.size W3 w2 := below_ownB hb4 hb4.size ho5 hgr2 (Nat.le_refl _)
  have kA6 := kA4.up hB4 (by omega)
  have kR6 := kR4.up hB4 (by omega)
  have ho7 := own_up ho4 hB4
  clear hown2 hgr2 hnn2 ho5 hn5 e0 e1 e2 e3 e4 e5 kA5 kA4 kR4 hW4 hb4 ho4
  obtain ⟨e0, e1, e2, e3, e4, e5⟩ := kA6.c6
  obtain ⟨f0, f1, f2, f3, f4, f5⟩ := kA6.f6
  obtain ⟨g2, n2, m2, rfl⟩ := hnn
  go_upto_region 3 with fail
  obtain ⟨W5, hW5, kA8, kR8, ho8, ho9, hB5⟩ : ∃ W5, w2.setCell ⟨w.heap.size, 2, none⟩ (.slice (some ⟨g2, 0, none⟩) n2 m2) = W5 ∧ CB W5 w.heap.size [.string x.nm, .slice (some ⟨g1, 0, none⟩) n1 m1, .slice (some ⟨g2, 0, none⟩) n2 m2, .string x.ad, .int .i64 x.si, .int .i64 x.st] ∧ CB W5 (w.heap.size + 1) [.string ⟨#[]⟩, .slice none 0 0, .slice none 0 0, .string ⟨#[]⟩, .int .i64 0, .int .i64 0] ∧ W5.ownsRow W1.heap.size 34 8 (.slice (some ⟨g1, 0, none⟩) n1 m1) x.ps.length (rowsF Ph.cells x.ps) ∧ W5.ownsRow W3.heap.size 69 2 (.slice (some ⟨g2, 0, none⟩) n2 m2) x.sl.length (rowsF Sl.cells x.sl) ∧ Below w.heap.size w W5 :=
    ⟨_, rfl, kA6.set (j := 2) (by simp), kR6.other (by omega), own_grown ho7 (grown_setCell (grown_refl _ _) _) hA0, own_grown ho6 (grown_setCell (grown_refl _ _) _) (by omega), (hB3.trans (hB4.mono (by omega))).setCell (p := ⟨w.heap.size, 2, none⟩) (Nat.le_refl _) _⟩
  try rw [hW5]
  clear hW5 e0 e1 e2 e3 e4 e5 f0 f1 f2 f3 f4 f5 kA6 kR6 ho6 ho7 hB4
  obtain ⟨e0, e1, e2, e3, e4, e5⟩ := kA8.c6
  obtain ⟨y0, y1, y2, y3, y4, y5⟩ := kR8.c6
  obtain ⟨f0, f1, f2, f3, f4, f5⟩ := kR8.f6
  go_wp2_with fail
  refine end_cb6 Tryz.results59 Tryz.underlying26 rfl sizeRbR kR8 rfl ?_
  refine ⟨⟨_, _, rfl, ?_, ?_, ⟨_, _, _, rfl⟩, ⟨_, _, _, rfl⟩, H.zp, H.zs, H.zn, H.np, H.ns⟩, below_set6 hB5 (by omega) _ _ _ _ _ _⟩
  · exact own_low (own_grown ho8 (grown_set6 _ _ _ _ _ _ _ _) hR0) (by omega)
  · exact own_low (own_grown ho9 (grown_set6 _ _ _ _ _ _ _ _) (by omega)) (by omega)
end Go.Proofs.YtliebjbbomghiaaGreatDoor
