/- RunOwn, by the specification and by the program (chapter 21). -/
import Derived.Test.YtkapodkidlgkjafGreatDoorU7
namespace Go.Proofs.YtkapodkidlgkjafGreatDoor
open Go.RowKit

theorem okB_kind {p : Ph} (h : p.okB = true) : 1 ≤ p.k ∧ p.k ≤ 5 := by
  unfold Ph.okB phaseB at h
  simp only [Bool.and_eq_true] at h
  have h1 := h.1.1.2
  unfold argsB at h1
  by_cases e1 : p.k = 1
  · omega
  by_cases e2 : p.k = 2
  · omega
  by_cases e3 : p.k = 3
  · omega
  by_cases e4 : p.k = 4 ∨ p.k = 5
  · omega
  rw [if_neg e1, if_neg e2, if_neg e3, if_neg e4] at h1
  cases h1
theorem ofL_len (p : Ph) : (ofL p).length ≤ 2 := by
  unfold ofL; split
  · have := insL_len [p.a] p.b; simpa using this
  · simp
set_option maxRecDepth 20000 in
set_option maxHeartbeats 4000000 in
theorem ownS_any (x : Rb) (rv sv : Value) (w : World) (h : RbV w x rv sv) :
    Calls Tryz.prog 8 #[.agg #[.string x.nm, rv, sv, .string x.ad, .int .i64 x.si, .int .i64 x.st]] w fun e w' => (∃ u, e = .returned u ∧ Txt w' u (rbOwn x)) ∧ Below w.heap.size w w' := by
  have hok := fun W (hB : Below w.heap.size w W) => batchOkS_any x rv sv W (h.up hB)
  obtain ⟨b, o, c, rfl, hr, hb, hcap, hc9⟩ := h.r
  obtain ⟨g, q, d, rfl, hl, hg⟩ := h.s
  have ns := h.ns
  have np := h.np
  clear h
  have hC : CB (w.alloc (.cells #[.string x.nm, .slice (some ⟨b, o, none⟩) x.ps.length c, .slice (some ⟨g, q, none⟩) x.sl.length d, .string x.ad, .int .i64 x.si, .int .i64 x.st] 32)) w.heap.size [.string x.nm, .slice (some ⟨b, o, none⟩) x.ps.length c, .slice (some ⟨g, q, none⟩) x.sl.length d, .string x.ad, .int .i64 x.si, .int .i64 x.st] := cb_alloc w _ _
  have hB0 := (Below.refl w.heap.size w).alloc (Nat.le_refl _) (.cells #[.string x.nm, .slice (some ⟨b, o, none⟩) x.ps.length c, .slice (some ⟨g, q, none⟩) x.sl.length d, .string x.ad, .int .i64 x.si, .int .i64 x.st] 32)
  have HO : Hid (∀ W, Below w.heap.size w W → Calls Tryz.prog 35 #[.agg #[.string x.nm, .slice (some ⟨b, o, none⟩) x.ps.length c, .slice (some ⟨g, q, none⟩) x.sl.length d, .string x.ad, .int .i64 x.si, .int .i64 x.st]] W fun e w' => e = .returned (.bool (pB (RbOk x))) ∧ Below W.heap.size W w') := hok
  clear hok
  go_enter Tryz.func8, Tryz.ntmps8
  go_upto_region 1 with fail
  generalize w.alloc (.cells #[.string x.nm, .slice (some ⟨b, o, none⟩) x.ps.length c, .slice (some ⟨g, q, none⟩) x.sl.length d, .string x.ad, .int .i64 x.si, .int .i64 x.st] 32) = W1 at *
  obtain ⟨d0, d1, d2, d3, d4, d5⟩ := hC.c6
  have hlt := hC.2.2
  by_cases hk : RbOk x
  case neg =>
    have HN : Hid (rbOwn x = []) := rbOwn_no hk
    have hp := pB_no hk
    go_wp2_with fail
    refine (HO.out _ hB0).mono ?_
    rw [hp]
    rintro e w1 ⟨rfl, hB1⟩
    go_wp2_with fail
    go_ret
    exact ⟨⟨_, rfl, by rw [HN.out]; exact txt_nil w1⟩, up_trans (up_trans hB0 hB1) ((Below.refl _ _).alloc (Nat.le_refl _) _)⟩
  obtain ⟨k, hkl, hka⟩ := hasB_at hk.2.2.2.2.1
  have HY : Hid (rbOwn x = thE x.sl (ofL x.ps[k])) := by show _ = _; rw [rbOwn_ok hk, phOf_at hkl hka]
  have hat := fun W (hW : RecAt W b o x.ps) => at_any x.ps b o c x.ad W hW np
  rw [hka] at hat
  have Hat : Hid (∀ W, RecAt W b o x.ps → Calls Tryz.prog 38 #[.slice (some ⟨b, o, none⟩) x.ps.length c, .string x.ad] W fun e w' => e = .returned (.int .i64 (k : Int)) ∧ w' = W) := hat
  have hp := pB_yes hk
  clear hk hat hka
  go_wp2_with fail
  refine (HO.out _ hB0).mono ?_
  rw [hp]
  rintro e w1 ⟨rfl, hB1⟩
  go_upto_region 3 with fail
  have hB01 := up_trans hB0 hB1
  obtain ⟨f0, f1, f2, f3, f4, f5⟩ := (hC.up hB1 hlt).c6
  obtain ⟨r0, r1, r2, r3, r4, r5, r6, r7⟩ := (hr.up hB01 hb).cells k hkl
  have hof := ofL_len x.ps[k]
  generalize x.ps[k] = p at *
  have hq4 : w.heap.size < w1.heap.size := Nat.lt_of_lt_of_le hlt hB1.size
  have hr4 : b < w1.heap.size := Nat.lt_of_lt_of_le hb hB01.size
  have hS0 : Below w1.heap.size w1 w1 ∧ w1.cell? ⟨w.heap.size, 0, none⟩ = some (.string x.nm) ∧ w1.cell? ⟨w.heap.size, 1, none⟩ = some (.slice (some ⟨b, o, none⟩) x.ps.length c) ∧ w1.cell? ⟨w.heap.size, 2, none⟩ = some (.slice (some ⟨g, q, none⟩) x.sl.length d) ∧ w1.cell? ⟨w.heap.size, 3, none⟩ = some (.string x.ad) ∧ w1.cell? ⟨w.heap.size, 4, none⟩ = some (.int .i64 x.si) ∧ w1.cell? ⟨w.heap.size, 5, none⟩ = some (.int .i64 x.st) ∧ w1.cell? ⟨b, o + k * 8, none⟩ = some (.string p.nm) ∧ w1.cell? ⟨b, o + k * 8 + 1, none⟩ = some (.int .i64 p.k) ∧ w1.cell? ⟨b, o + k * 8 + 2, none⟩ = some (.string p.a) ∧ w1.cell? ⟨b, o + k * 8 + 3, none⟩ = some (.string p.b) ∧ w1.cell? ⟨b, o + k * 8 + 4, none⟩ = some (.int .i64 p.n) ∧ w1.cell? ⟨b, o + k * 8 + 5, none⟩ = some (.int .i64 p.wi) ∧ w1.cell? ⟨b, o + k * 8 + 6, none⟩ = some (.string p.t) ∧ w1.cell? ⟨b, o + k * 8 + 7, none⟩ = some (.string p.e) := ⟨Below.refl _ _, f0, f1, f2, f3, f4, f5, r0, r1, r2, r3, r4, r5, r6, r7⟩
  clear d0 d1 d2 d3 d4 d5 f0 f1 f2 f3 f4 f5 r0 r1 r2 r3 r4 r5 r6 r7 hp
  have Hr : Hid (RecAt w1 b o x.ps) := hr.up hB01 hb
  clear hr
  go_wp2_with fail
  go_region_held (fun w' => Below w1.heap.size w1 w' ∧ w'.cell? ⟨w.heap.size, 0, none⟩ = some (.string x.nm) ∧ w'.cell? ⟨w.heap.size, 1, none⟩ = some (.slice (some ⟨b, o, none⟩) x.ps.length c) ∧ w'.cell? ⟨w.heap.size, 2, none⟩ = some (.slice (some ⟨g, q, none⟩) x.sl.length d) ∧ w'.cell? ⟨w.heap.size, 3, none⟩ = some (.string x.ad) ∧ w'.cell? ⟨w.heap.size, 4, none⟩ = some (.int .i64 x.si) ∧ w'.cell? ⟨w.heap.size, 5, none⟩ = some (.int .i64 x.st) ∧ w'.cell? ⟨b, o + k * 8, none⟩ = some (.string p.nm) ∧ w'.cell? ⟨b, o + k * 8 + 1, none⟩ = some (.int .i64 p.k) ∧ w'.cell? ⟨b, o + k * 8 + 2, none⟩ = some (.string p.a) ∧ w'.cell? ⟨b, o + k * 8 + 3, none⟩ = some (.string p.b) ∧ w'.cell? ⟨b, o + k * 8 + 4, none⟩ = some (.int .i64 p.n) ∧ w'.cell? ⟨b, o + k * 8 + 5, none⟩ = some (.int .i64 p.wi) ∧ w'.cell? ⟨b, o + k * 8 + 6, none⟩ = some (.string p.t) ∧ w'.cell? ⟨b, o + k * 8 + 7, none⟩ = some (.string p.e)) (first | exact k14_drew hS0 | exact k14_up hq4 hr4 (by assumption) (by assumption))
    (first
      | (go_at_call 38; refine (Hat.out _ (Hr.out.up (And.left (by assumption)) hr4)).mono ?_; rintro e w2 ⟨rfl, hw⟩; obtain rfl := hw.symm; clear hw)
      | (go_at_call 37; refine (of_any2 p _).mono ?_; rintro e w3 ⟨⟨u3, rfl, hT3⟩, hb3⟩; have hB3 := up_trans hB01.drew hb3)
      | (go_at_call 36; refine (things_any x b o c g q d _ _ _ (hl.up hB3 hg) (Nat.lt_of_lt_of_le hg hB3.size) ns hT3 (by omega)).mono ?_; rintro e w4 ⟨⟨u4, rfl, hT4⟩, hb4⟩))
  rename_i hHeld
  have hB5 := up_trans hB01 hHeld.1
  clear hHeld hS0 hT3 hb3 hb4 hB3
  go_wp2_with fail
  go_ret
  exact ⟨⟨_, rfl, by rw [HY.out]; exact hT4⟩, hB5⟩

theorem sizePhU : (Tryz.prog.info? 75).map (·.size) = some 8 := by kernel_rfl
theorem end_cb8 {P : Program} {fn : Func} {q : Tmp} {T : TypeId} (h : fn.results = #[.cell q T]) {d : TypeDesc} (hu : P.underlying T = some d) (hd : d.isRow = true) (hi : (P.info? T).map (·.size) = some 8) {R : Ending → World → Prop} {tmps : Array Value} {w : World} {rk : Nat} {y0 y1 y2 y3 y4 y5 y6 y7 x0 x1 x2 x3 x4 x5 x6 x7 : Value}
    (k : CB w rk [y0, y1, y2, y3, y4, y5, y6, y7]) (ht : tmps.getD q undef = .pointer (some ⟨rk, 0, none⟩)) (hR : R (.returned (.agg #[x0, x1, x2, x3, x4, x5, x6, x7])) ((((((((w.setCell ⟨rk, 0, none⟩ x0).setCell ⟨rk, 1, none⟩ x1).setCell ⟨rk, 2, none⟩ x2).setCell ⟨rk, 3, none⟩ x3).setCell ⟨rk, 4, none⟩ x4).setCell ⟨rk, 5, none⟩ x5).setCell ⟨rk, 6, none⟩ x6).setCell ⟨rk, 7, none⟩ x7)) :
    bodyPost P fn R .ret { tmps := tmps, defers := [] } ((((((((w.setCell ⟨rk, 0, none⟩ x0).setCell ⟨rk, 1, none⟩ x1).setCell ⟨rk, 2, none⟩ x2).setCell ⟨rk, 3, none⟩ x3).setCell ⟨rk, 4, none⟩ x4).setCell ⟨rk, 5, none⟩ x5).setCell ⟨rk, 6, none⟩ x6).setCell ⟨rk, 7, none⟩ x7) :=
  bodyPost_ret (ret_cb (cs := [x0, x1, x2, x3, x4, x5, x6, x7]) h hu hd hi ht (k.copy8 x0 x1 x2 x3 x4 x5 x6 x7)) rfl hR
set_option maxRecDepth 20000 in
set_option maxHeartbeats 2000000 in
theorem runPhase_any (x : Rb) (b o c g q d : Nat) (w : World) (hr : RecAt w b o x.ps) (hb : b < w.heap.size) (np : x.ps.length ≤ 1048576) :
    Calls Tryz.prog 43 #[.agg #[.string x.nm, .slice (some ⟨b, o, none⟩) x.ps.length c, .slice (some ⟨g, q, none⟩) x.sl.length d, .string x.ad, .int .i64 x.si, .int .i64 x.st]] w fun e w' => (∃ p : Ph, e = .returned (.agg #[.string (p).nm, .int .i64 (p).k, .string (p).a, .string (p).b, .int .i64 (p).n, .int .i64 (p).wi, .string (p).t, .string (p).e]) ∧ ∀ (k : Nat) (hk : k < x.ps.length), atI x.ps x.ad = (k : Int) → p = x.ps[k]) ∧ Below w.heap.size w w' := by
  go_enter Tryz.func43, Tryz.ntmps43
  go_upto_region 1 with fail
  obtain ⟨W1, hW1, kA, kR, hB1, hs1⟩ : ∃ W1, (w.alloc (.cells #[.string x.nm, .slice (some ⟨b, o, none⟩) x.ps.length c, .slice (some ⟨g, q, none⟩) x.sl.length d, .string x.ad, .int .i64 x.si, .int .i64 x.st] 32)).alloc (.cells #[.string ⟨#[]⟩, .int .i64 0, .string ⟨#[]⟩, .string ⟨#[]⟩, .int .i64 0, .int .i64 0, .string ⟨#[]⟩, .string ⟨#[]⟩] 75) = W1 ∧ CB W1 w.heap.size [.string x.nm, .slice (some ⟨b, o, none⟩) x.ps.length c, .slice (some ⟨g, q, none⟩) x.sl.length d, .string x.ad, .int .i64 x.si, .int .i64 x.st] ∧ CB W1 (w.heap.size + 1) [.string ⟨#[]⟩, .int .i64 0, .string ⟨#[]⟩, .string ⟨#[]⟩, .int .i64 0, .int .i64 0, .string ⟨#[]⟩, .string ⟨#[]⟩] ∧ Below w.heap.size w W1 ∧ W1.heap.size = w.heap.size + 2 := ⟨_, rfl, cb2 w [.string x.nm, .slice (some ⟨b, o, none⟩) x.ps.length c, .slice (some ⟨g, q, none⟩) x.sl.length d, .string x.ad, .int .i64 x.si, .int .i64 x.st] [.string ⟨#[]⟩, .int .i64 0, .string ⟨#[]⟩, .string ⟨#[]⟩, .int .i64 0, .int .i64 0, .string ⟨#[]⟩, .string ⟨#[]⟩] _ _⟩
  try rw [hW1]
  clear hW1
  obtain ⟨d0, d1, d2, d3, d4, d5⟩ := kA.c6
  go_wp2_with fail
  refine (phaseOf_any x.ps b o c x.ad _ (hr.up hB1 hb) (by omega) np).mono ?_
  rintro e w3 ⟨⟨p, rfl, hpk⟩, hb3⟩
  have hz3 := hb3.size
  have kR := kR.up hb3 (by omega)
  have hB3 := up_trans hB1 hb3
  clear d0 d1 d2 d3 d4 d5 kA hB1 hb3
  go_upto_region 2 with fail
  obtain ⟨W4, hW4, kP, hb4, hs4⟩ : ∃ W4, w3.alloc (.cells #[.string (p).nm, .int .i64 (p).k, .string (p).a, .string (p).b, .int .i64 (p).n, .int .i64 (p).wi, .string (p).t, .string (p).e] 75) = W4 ∧ CB W4 w3.heap.size [.string (p).nm, .int .i64 (p).k, .string (p).a, .string (p).b, .int .i64 (p).n, .int .i64 (p).wi, .string (p).t, .string (p).e] ∧ Below w3.heap.size w3 W4 ∧ W4.heap.size = w3.heap.size + 1 := ⟨_, rfl, cb1 w3 [.string (p).nm, .int .i64 (p).k, .string (p).a, .string (p).b, .int .i64 (p).n, .int .i64 (p).wi, .string (p).t, .string (p).e] _⟩
  try rw [hW4]
  clear hW4
  have kR := kR.up hb4 (by omega)
  have hB4 := up_trans hB3 hb4
  obtain ⟨⟨f0, f1, f2, f3, f4, f5, f6, f7⟩, -⟩ := kP.c8
  obtain ⟨⟨r0, r1, r2, r3, r4, r5, r6, r7⟩, g0, g1, g2, g3, g4, g5, g6, g7⟩ := kR.c8
  go_wp2_with fail
  refine end_cb8 Tryz.results43 Tryz.underlying75 rfl sizePhU kR rfl ?_
  refine ⟨⟨p, rfl, hpk⟩, ?_⟩
  exact (((((((hB4.setCell (p := ⟨w.heap.size + 1, 0, none⟩) (Nat.le_succ _) _).setCell (p := ⟨w.heap.size + 1, 1, none⟩) (Nat.le_succ _) _).setCell (p := ⟨w.heap.size + 1, 2, none⟩) (Nat.le_succ _) _).setCell (p := ⟨w.heap.size + 1, 3, none⟩) (Nat.le_succ _) _).setCell (p := ⟨w.heap.size + 1, 4, none⟩) (Nat.le_succ _) _).setCell (p := ⟨w.heap.size + 1, 5, none⟩) (Nat.le_succ _) _).setCell (p := ⟨w.heap.size + 1, 6, none⟩) (Nat.le_succ _) _).setCell (p := ⟨w.heap.size + 1, 7, none⟩) (Nat.le_succ _) _

set_option maxRecDepth 20000 in
set_option maxHeartbeats 4000000 in
theorem ownP_any (x : Rb) (rv sv : Value) (w : World) (hE : Ends w) (h : RbV w x rv sv) :
    Calls Tryz.prog 10 #[.agg #[.string x.nm, rv, sv, .string x.ad, .int .i64 x.si, .int .i64 x.st]] w fun e w' => (∃ u, e = .returned u ∧ OwnT w' w.heap.size u (rbOwn x)) ∧ Below w.heap.size w w' := by
  have hok := fun W (hB : Below w.heap.size w W) => batchOkP_any x rv sv W (hE.up hB) (h.up hB)
  obtain ⟨b, o, c, rfl, hr, hb, hcap, hc9⟩ := h.r
  obtain ⟨g, q, d, rfl, hl, hg⟩ := h.s
  have ns := h.ns
  have np := h.np
  have zs := h.zs
  have zp := h.zp
  clear h
  have hC : CB (w.alloc (.cells #[.string x.nm, .slice (some ⟨b, o, none⟩) x.ps.length c, .slice (some ⟨g, q, none⟩) x.sl.length d, .string x.ad, .int .i64 x.si, .int .i64 x.st] 32)) w.heap.size [.string x.nm, .slice (some ⟨b, o, none⟩) x.ps.length c, .slice (some ⟨g, q, none⟩) x.sl.length d, .string x.ad, .int .i64 x.si, .int .i64 x.st] := cb_alloc w _ _
  have hB0 := (Below.refl w.heap.size w).alloc (Nat.le_refl _) (.cells #[.string x.nm, .slice (some ⟨b, o, none⟩) x.ps.length c, .slice (some ⟨g, q, none⟩) x.sl.length d, .string x.ad, .int .i64 x.si, .int .i64 x.st] 32)
  have HO : Hid (∀ W, Below w.heap.size w W → Calls Tryz.prog 39 #[.agg #[.string x.nm, .slice (some ⟨b, o, none⟩) x.ps.length c, .slice (some ⟨g, q, none⟩) x.sl.length d, .string x.ad, .int .i64 x.si, .int .i64 x.st]] W fun e w' => e = .returned (.bool (pB (RbOk x))) ∧ Below W.heap.size W w') := hok
  clear hok hE
  go_enter Tryz.func10, Tryz.ntmps10
  go_upto_region 1 with fail
  generalize w.alloc (.cells #[.string x.nm, .slice (some ⟨b, o, none⟩) x.ps.length c, .slice (some ⟨g, q, none⟩) x.sl.length d, .string x.ad, .int .i64 x.si, .int .i64 x.st] 32) = W1 at *
  obtain ⟨d0, d1, d2, d3, d4, d5⟩ := hC.c6
  have hlt := hC.2.2
  by_cases hk : RbOk x
  case neg =>
    have HN : Hid (rbOwn x = []) := rbOwn_no hk
    have hp := pB_no hk
    go_wp2_with fail
    refine (HO.out _ hB0).mono ?_
    rw [hp]
    rintro e w1 ⟨rfl, hB1⟩
    go_wp2_with fail
    go_ret
    exact ⟨⟨_, rfl, by rw [HN.out]; exact World.ownsRow_nil _ _ _ _⟩, up_trans hB0 hB1⟩
  have hhas := hk.2.2.2.2.1
  have HY : Hid (∀ p, p = phOf x.ps x.ad → namesOf (thI x.sl (ownB p)) = rbOwn x ∧ (1 ≤ p.k ∧ p.k ≤ 5) ∧ ∀ s ∈ ownB p, s.size ≤ maxLen) := by
    show _
    rintro p rfl
    have hm := phOf_mem hhas
    refine ⟨?_, okB_kind (recB_ok hk.2.1 hm), fun s hs => ?_⟩
    · rw [rbOwn_ok hk]
      exact names_th (own_same x.sl _ hk.2.2.1.nodup (own_keys _))
    · obtain ⟨_, z1, z2, _⟩ := zp _ hm
      unfold ownB at hs
      split at hs
      · simp only [List.mem_cons, List.not_mem_nil, or_false] at hs
        rcases hs with rfl | rfl
        · exact z1
        · exact z2
      · simp only [List.mem_cons, List.not_mem_nil, or_false] at hs
        rw [hs]; exact z1
  have hp := pB_yes hk
  clear hk
  go_wp2_with fail
  refine (HO.out _ hB0).mono ?_
  rw [hp]
  rintro e w1 ⟨rfl, hB1⟩
  go_upto_region 3 with fail
  have hB01 := up_trans hB0 hB1
  obtain ⟨f0, f1, f2, f3, f4, f5⟩ := (hC.up hB1 hlt).c6
  have hq4 : w.heap.size < w1.heap.size := Nat.lt_of_lt_of_le hlt hB1.size
  have hS0 : Below w1.heap.size w1 w1 ∧ w1.cell? ⟨w.heap.size, 0, none⟩ = some (.string x.nm) ∧ w1.cell? ⟨w.heap.size, 1, none⟩ = some (.slice (some ⟨b, o, none⟩) x.ps.length c) ∧ w1.cell? ⟨w.heap.size, 2, none⟩ = some (.slice (some ⟨g, q, none⟩) x.sl.length d) ∧ w1.cell? ⟨w.heap.size, 3, none⟩ = some (.string x.ad) ∧ w1.cell? ⟨w.heap.size, 4, none⟩ = some (.int .i64 x.si) ∧ w1.cell? ⟨w.heap.size, 5, none⟩ = some (.int .i64 x.st) := ⟨Below.refl _ _, f0, f1, f2, f3, f4, f5⟩
  clear d0 d1 d2 d3 d4 d5 f0 f1 f2 f3 f4 f5 hp hC
  go_wp2_with fail
  go_region_held (fun w' => Below w1.heap.size w1 w' ∧ w'.cell? ⟨w.heap.size, 0, none⟩ = some (.string x.nm) ∧ w'.cell? ⟨w.heap.size, 1, none⟩ = some (.slice (some ⟨b, o, none⟩) x.ps.length c) ∧ w'.cell? ⟨w.heap.size, 2, none⟩ = some (.slice (some ⟨g, q, none⟩) x.sl.length d) ∧ w'.cell? ⟨w.heap.size, 3, none⟩ = some (.string x.ad) ∧ w'.cell? ⟨w.heap.size, 4, none⟩ = some (.int .i64 x.si) ∧ w'.cell? ⟨w.heap.size, 5, none⟩ = some (.int .i64 x.st)) (first | exact k6_drew hS0 | exact k6_up hq4 (by assumption) (by assumption))
    (first
      | (go_at_call 40; refine (slotMap_any x.sl g q d _ (hl.up hB01.drew hg) (Nat.lt_of_lt_of_le hg hB01.drew.size) ns (fun y hy => (zs y hy).1)).mono ?_; rintro e w5 ⟨⟨M, D, rfl, hM, hD, -⟩, hb5⟩; have hB5 := up_trans hB01.drew hb5)
      | (go_at_call 43; refine (runPhase_any x b o c g q d _ (hr.up hB5 hb) (Nat.lt_of_lt_of_le hb hB5.size) np).mono ?_; rintro e w3 ⟨⟨p, rfl, hpk⟩, hb3⟩; have hM3 := hM.up hb3; have hB3 := up_trans hB5 hb3; obtain ⟨HT, hpk5, hps⟩ := HY.out p (by obtain ⟨k, hkl, hka⟩ := hasB_at hhas; rw [hpk k hkl hka, phOf_at hkl hka]); have HT' : Hid (namesOf (thI x.sl (ownB p)) = rbOwn x) := HT; have hob : (ownB p).length ≤ 2 := (by unfold ownB; split <;> simp); clear HT hpk)
      | (go_at_call 42; refine (phSlots_any p _ hpk5).mono ?_; rintro e w6 ⟨⟨u6, rfl, hT6⟩, hb6⟩; have hM6 := hM3.up hb6; have hB6 := up_trans hB3 hb6)
      | (go_at_call 41; refine (thingsM_any x.sl (ownB p) M _ D _ _ hM6 hD (.inr hT6) hps (by omega)).mono ?_; rintro e w7 ⟨⟨u7, rfl, hO7⟩, hb7⟩))
  rename_i hHeld
  have hB8 := up_trans hB01 hHeld.1
  have hO8 := own_low hO7 hB6.size
  clear hHeld hS0 hT6 hO7 hb5 hb6 hb7 hM hD hM6 hB5 hB6 hM3 hB3 hb3
  go_wp2_with fail
  go_ret
  exact ⟨⟨_, rfl, by rw [← HT'.out]; exact hO8⟩, hB8⟩
end Go.Proofs.YtkapodkidlgkjafGreatDoor
