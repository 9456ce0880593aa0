/- RunThings and RunOwn, by the specification and by the program (chapter 21). -/
import Derived.Test.YtialglmnfchfmafGreatDoorU6
import Derived.Test.YtialglmnfchfmafGreatDoorU4
namespace Go.Proofs.YtialglmnfchfmafGreatDoor
open Go.RowKit

theorem k6_drew {W w0 : World} {q : Nat} {x0 x1 x2 x3 x4 x5 : Value} (h : Below W.heap.size W w0 ∧ w0.cell? ⟨q, 0, none⟩ = some x0 ∧ w0.cell? ⟨q, 1, none⟩ = some x1 ∧ w0.cell? ⟨q, 2, none⟩ = some x2 ∧ w0.cell? ⟨q, 3, none⟩ = some x3 ∧ w0.cell? ⟨q, 4, none⟩ = some x4 ∧ w0.cell? ⟨q, 5, none⟩ = some x5) : Below W.heap.size W w0.drew ∧ w0.drew.cell? ⟨q, 0, none⟩ = some x0 ∧ w0.drew.cell? ⟨q, 1, none⟩ = some x1 ∧ w0.drew.cell? ⟨q, 2, none⟩ = some x2 ∧ w0.drew.cell? ⟨q, 3, none⟩ = some x3 ∧ w0.drew.cell? ⟨q, 4, none⟩ = some x4 ∧ w0.drew.cell? ⟨q, 5, none⟩ = some x5 :=
  ⟨h.1.drew, h.2⟩
theorem k6_up {W w0 w1 : World} {q : Nat} {x0 x1 x2 x3 x4 x5 : Value} (hq : q < W.heap.size) (h : Below W.heap.size W w0 ∧ w0.cell? ⟨q, 0, none⟩ = some x0 ∧ w0.cell? ⟨q, 1, none⟩ = some x1 ∧ w0.cell? ⟨q, 2, none⟩ = some x2 ∧ w0.cell? ⟨q, 3, none⟩ = some x3 ∧ w0.cell? ⟨q, 4, none⟩ = some x4 ∧ w0.cell? ⟨q, 5, none⟩ = some x5) (hB : Below w0.heap.size w0 w1) : Below W.heap.size W w1 ∧ w1.cell? ⟨q, 0, none⟩ = some x0 ∧ w1.cell? ⟨q, 1, none⟩ = some x1 ∧ w1.cell? ⟨q, 2, none⟩ = some x2 ∧ w1.cell? ⟨q, 3, none⟩ = some x3 ∧ w1.cell? ⟨q, 4, none⟩ = some x4 ∧ w1.cell? ⟨q, 5, none⟩ = some x5 := by
  obtain ⟨h0, a0, a1, a2, a3, a4, a5⟩ := h
  have lq : q < w0.heap.size := Nat.lt_of_lt_of_le hq h0.size
  exact ⟨up_trans h0 hB, (hB.cell (p := ⟨q, 0, none⟩) lq).trans a0, (hB.cell (p := ⟨q, 1, none⟩) lq).trans a1, (hB.cell (p := ⟨q, 2, none⟩) lq).trans a2, (hB.cell (p := ⟨q, 3, none⟩) lq).trans a3, (hB.cell (p := ⟨q, 4, none⟩) lq).trans a4, (hB.cell (p := ⟨q, 5, none⟩) lq).trans a5⟩
theorem k9_drew {W w0 : World} {q r : Nat} {x0 x1 x2 x3 x4 x5 x6 x7 x8 : Value} (h : Below W.heap.size W w0 ∧ w0.cell? ⟨q, 2, none⟩ = some x0 ∧ w0.cell? ⟨r, 0, none⟩ = some x1 ∧ w0.cell? ⟨r, 1, none⟩ = some x2 ∧ w0.cell? ⟨r, 2, none⟩ = some x3 ∧ w0.cell? ⟨r, 3, none⟩ = some x4 ∧ w0.cell? ⟨r, 4, none⟩ = some x5 ∧ w0.cell? ⟨r, 5, none⟩ = some x6 ∧ w0.cell? ⟨r, 6, none⟩ = some x7 ∧ w0.cell? ⟨r, 7, none⟩ = some x8) : Below W.heap.size W w0.drew ∧ w0.drew.cell? ⟨q, 2, none⟩ = some x0 ∧ w0.drew.cell? ⟨r, 0, none⟩ = some x1 ∧ w0.drew.cell? ⟨r, 1, none⟩ = some x2 ∧ w0.drew.cell? ⟨r, 2, none⟩ = some x3 ∧ w0.drew.cell? ⟨r, 3, none⟩ = some x4 ∧ w0.drew.cell? ⟨r, 4, none⟩ = some x5 ∧ w0.drew.cell? ⟨r, 5, none⟩ = some x6 ∧ w0.drew.cell? ⟨r, 6, none⟩ = some x7 ∧ w0.drew.cell? ⟨r, 7, none⟩ = some x8 :=
  ⟨h.1.drew, h.2⟩
theorem k9_up {W w0 w1 : World} {q r : Nat} {x0 x1 x2 x3 x4 x5 x6 x7 x8 : Value} (hq : q < W.heap.size) (hr : r < W.heap.size) (h : Below W.heap.size W w0 ∧ w0.cell? ⟨q, 2, none⟩ = some x0 ∧ w0.cell? ⟨r, 0, none⟩ = some x1 ∧ w0.cell? ⟨r, 1, none⟩ = some x2 ∧ w0.cell? ⟨r, 2, none⟩ = some x3 ∧ w0.cell? ⟨r, 3, none⟩ = some x4 ∧ w0.cell? ⟨r, 4, none⟩ = some x5 ∧ w0.cell? ⟨r, 5, none⟩ = some x6 ∧ w0.cell? ⟨r, 6, none⟩ = some x7 ∧ w0.cell? ⟨r, 7, none⟩ = some x8) (hB : Below w0.heap.size w0 w1) : Below W.heap.size W w1 ∧ w1.cell? ⟨q, 2, none⟩ = some x0 ∧ w1.cell? ⟨r, 0, none⟩ = some x1 ∧ w1.cell? ⟨r, 1, none⟩ = some x2 ∧ w1.cell? ⟨r, 2, none⟩ = some x3 ∧ w1.cell? ⟨r, 3, none⟩ = some x4 ∧ w1.cell? ⟨r, 4, none⟩ = some x5 ∧ w1.cell? ⟨r, 5, none⟩ = some x6 ∧ w1.cell? ⟨r, 6, none⟩ = some x7 ∧ w1.cell? ⟨r, 7, none⟩ = some x8 := by
  obtain ⟨h0, a0, a1, a2, a3, a4, a5, a6, a7, a8⟩ := h
  have lq : q < w0.heap.size := Nat.lt_of_lt_of_le hq h0.size
  have lr : r < w0.heap.size := Nat.lt_of_lt_of_le hr h0.size
  exact ⟨up_trans h0 hB, (hB.cell (p := ⟨q, 2, none⟩) lq).trans a0, (hB.cell (p := ⟨r, 0, none⟩) lr).trans a1, (hB.cell (p := ⟨r, 1, none⟩) lr).trans a2, (hB.cell (p := ⟨r, 2, none⟩) lr).trans a3, (hB.cell (p := ⟨r, 3, none⟩) lr).trans a4, (hB.cell (p := ⟨r, 4, none⟩) lr).trans a5, (hB.cell (p := ⟨r, 5, none⟩) lr).trans a6, (hB.cell (p := ⟨r, 6, none⟩) lr).trans a7, (hB.cell (p := ⟨r, 7, none⟩) lr).trans a8⟩
theorem k14_drew {W w0 : World} {q r o : Nat} {x0 x1 x2 x3 x4 x5 x6 x7 x8 x9 x10 x11 x12 x13 : Value} (h : Below W.heap.size W w0 ∧ w0.cell? ⟨q, 0, none⟩ = some x0 ∧ w0.cell? ⟨q, 1, none⟩ = some x1 ∧ w0.cell? ⟨q, 2, none⟩ = some x2 ∧ w0.cell? ⟨q, 3, none⟩ = some x3 ∧ w0.cell? ⟨q, 4, none⟩ = some x4 ∧ w0.cell? ⟨q, 5, none⟩ = some x5 ∧ w0.cell? ⟨r, o, none⟩ = some x6 ∧ w0.cell? ⟨r, o + 1, none⟩ = some x7 ∧ w0.cell? ⟨r, o + 2, none⟩ = some x8 ∧ w0.cell? ⟨r, o + 3, none⟩ = some x9 ∧ w0.cell? ⟨r, o + 4, none⟩ = some x10 ∧ w0.cell? ⟨r, o + 5, none⟩ = some x11 ∧ w0.cell? ⟨r, o + 6, none⟩ = some x12 ∧ w0.cell? ⟨r, o + 7, none⟩ = some x13) : Below W.heap.size W w0.drew ∧ w0.drew.cell? ⟨q, 0, none⟩ = some x0 ∧ w0.drew.cell? ⟨q, 1, none⟩ = some x1 ∧ w0.drew.cell? ⟨q, 2, none⟩ = some x2 ∧ w0.drew.cell? ⟨q, 3, none⟩ = some x3 ∧ w0.drew.cell? ⟨q, 4, none⟩ = some x4 ∧ w0.drew.cell? ⟨q, 5, none⟩ = some x5 ∧ w0.drew.cell? ⟨r, o, none⟩ = some x6 ∧ w0.drew.cell? ⟨r, o + 1, none⟩ = some x7 ∧ w0.drew.cell? ⟨r, o + 2, none⟩ = some x8 ∧ w0.drew.cell? ⟨r, o + 3, none⟩ = some x9 ∧ w0.drew.cell? ⟨r, o + 4, none⟩ = some x10 ∧ w0.drew.cell? ⟨r, o + 5, none⟩ = some x11 ∧ w0.drew.cell? ⟨r, o + 6, none⟩ = some x12 ∧ w0.drew.cell? ⟨r, o + 7, none⟩ = some x13 :=
  ⟨h.1.drew, h.2⟩
theorem k14_up {W w0 w1 : World} {q r o : Nat} {x0 x1 x2 x3 x4 x5 x6 x7 x8 x9 x10 x11 x12 x13 : Value} (hq : q < W.heap.size) (hr : r < W.heap.size) (h : Below W.heap.size W w0 ∧ w0.cell? ⟨q, 0, none⟩ = some x0 ∧ w0.cell? ⟨q, 1, none⟩ = some x1 ∧ w0.cell? ⟨q, 2, none⟩ = some x2 ∧ w0.cell? ⟨q, 3, none⟩ = some x3 ∧ w0.cell? ⟨q, 4, none⟩ = some x4 ∧ w0.cell? ⟨q, 5, none⟩ = some x5 ∧ w0.cell? ⟨r, o, none⟩ = some x6 ∧ w0.cell? ⟨r, o + 1, none⟩ = some x7 ∧ w0.cell? ⟨r, o + 2, none⟩ = some x8 ∧ w0.cell? ⟨r, o + 3, none⟩ = some x9 ∧ w0.cell? ⟨r, o + 4, none⟩ = some x10 ∧ w0.cell? ⟨r, o + 5, none⟩ = some x11 ∧ w0.cell? ⟨r, o + 6, none⟩ = some x12 ∧ w0.cell? ⟨r, o + 7, none⟩ = some x13) (hB : Below w0.heap.size w0 w1) : Below W.heap.size W w1 ∧ w1.cell? ⟨q, 0, none⟩ = some x0 ∧ w1.cell? ⟨q, 1, none⟩ = some x1 ∧ w1.cell? ⟨q, 2, none⟩ = some x2 ∧ w1.cell? ⟨q, 3, none⟩ = some x3 ∧ w1.cell? ⟨q, 4, none⟩ = some x4 ∧ w1.cell? ⟨q, 5, none⟩ = some x5 ∧ w1.cell? ⟨r, o, none⟩ = some x6 ∧ w1.cell? ⟨r, o + 1, none⟩ = some x7 ∧ w1.cell? ⟨r, o + 2, none⟩ = some x8 ∧ w1.cell? ⟨r, o + 3, none⟩ = some x9 ∧ w1.cell? ⟨r, o + 4, none⟩ = some x10 ∧ w1.cell? ⟨r, o + 5, none⟩ = some x11 ∧ w1.cell? ⟨r, o + 6, none⟩ = some x12 ∧ w1.cell? ⟨r, o + 7, none⟩ = some x13 := by
  obtain ⟨h0, a0, a1, a2, a3, a4, a5, a6, a7, a8, a9, a10, a11, a12, a13⟩ := h
  have lq : q < w0.heap.size := Nat.lt_of_lt_of_le hq h0.size
  have lr : r < w0.heap.size := Nat.lt_of_lt_of_le hr h0.size
  exact ⟨up_trans h0 hB, (hB.cell (p := ⟨q, 0, none⟩) lq).trans a0, (hB.cell (p := ⟨q, 1, none⟩) lq).trans a1, (hB.cell (p := ⟨q, 2, none⟩) lq).trans a2, (hB.cell (p := ⟨q, 3, none⟩) lq).trans a3, (hB.cell (p := ⟨q, 4, none⟩) lq).trans a4, (hB.cell (p := ⟨q, 5, none⟩) lq).trans a5, (hB.cell (p := ⟨r, o, none⟩) lr).trans a6, (hB.cell (p := ⟨r, o + 1, none⟩) lr).trans a7, (hB.cell (p := ⟨r, o + 2, none⟩) lr).trans a8, (hB.cell (p := ⟨r, o + 3, none⟩) lr).trans a9, (hB.cell (p := ⟨r, o + 4, none⟩) lr).trans a10, (hB.cell (p := ⟨r, o + 5, none⟩) lr).trans a11, (hB.cell (p := ⟨r, o + 6, none⟩) lr).trans a12, (hB.cell (p := ⟨r, o + 7, none⟩) lr).trans a13⟩
theorem MapS.up {w w' : World} {M n : Nat} {D : DataW Unit} (h : MapS w M n D) (hB : Below w.heap.size w w') : MapS w' M n D :=
  World.ownsMap.kept (row := none) h ⟨hB.os, hB.tape, hB.output, hB.size, fun i hi _ => hB.block i hi⟩ (by simp)
theorem rbThings_ok {x : Rb} (h : RbOk x) (nm : ByteArray) : rbThings x nm = thE x.sl (slE x.ps nm) := by unfold rbThings; rw [if_pos (pB_yes h)]
theorem rbThings_no {x : Rb} (h : ¬ RbOk x) (nm : ByteArray) : rbThings x nm = [] := by unfold rbThings; rw [pB_no h]; rfl
theorem rbOwn_ok {x : Rb} (h : RbOk x) : rbOwn x = thE x.sl (ofL (phOf x.ps x.ad)) := by unfold rbOwn; rw [if_pos (pB_yes h)]
theorem rbOwn_no {x : Rb} (h : ¬ RbOk x) : rbOwn x = [] := by unfold rbOwn; rw [pB_no h]; rfl
theorem names_th {l : List Sl} {ss tt : List ByteArray} (h : keys (thE l ss) = thI l tt) : namesOf (thI l tt) = thE l ss := by rw [← h, names_keys]

set_option maxRecDepth 20000 in
set_option maxHeartbeats 4000000 in
theorem thingsS_any (x : Rb) (rv sv : Value) (nm : ByteArray) (w : World) (h : RbV w x rv sv) :
    Calls Tryz.prog 89 #[.agg #[.string x.nm, rv, sv, .string x.ad, .int .i64 x.si, .int .i64 x.st], .string nm] w fun e w' => (∃ u, e = .returned u ∧ Txt w' u (rbThings x nm)) ∧ Below w.heap.size w w' := by
  have hok := fun W (hB : Below w.heap.size w W) => batchOkS_any x rv sv W (h.up hB)
  obtain ⟨b, o, c, rfl, hr, hb, hcap, hc9⟩ := h.r
  obtain ⟨g, q, d, rfl, hl, hg⟩ := h.s
  have ns := h.ns
  clear h
  have hC : CB (w.alloc (.cells #[.string x.nm, .slice (some ⟨b, o, none⟩) x.ps.length c, .slice (some ⟨g, q, none⟩) x.sl.length d, .string x.ad, .int .i64 x.si, .int .i64 x.st] 32)) w.heap.size [.string x.nm, .slice (some ⟨b, o, none⟩) x.ps.length c, .slice (some ⟨g, q, none⟩) x.sl.length d, .string x.ad, .int .i64 x.si, .int .i64 x.st] := cb_alloc w _ _
  have hB0 := (Below.refl w.heap.size w).alloc (Nat.le_refl _) (.cells #[.string x.nm, .slice (some ⟨b, o, none⟩) x.ps.length c, .slice (some ⟨g, q, none⟩) x.sl.length d, .string x.ad, .int .i64 x.si, .int .i64 x.st] 32)
  have HO : Hid (∀ W, Below w.heap.size w W → Calls Tryz.prog 24 #[.agg #[.string x.nm, .slice (some ⟨b, o, none⟩) x.ps.length c, .slice (some ⟨g, q, none⟩) x.sl.length d, .string x.ad, .int .i64 x.si, .int .i64 x.st]] W fun e w' => e = .returned (.bool (pB (RbOk x))) ∧ Below W.heap.size W w') := hok
  clear hok
  go_enter Tryz.func89, Tryz.ntmps89
  go_upto_region 1 with fail
  generalize w.alloc (.cells #[.string x.nm, .slice (some ⟨b, o, none⟩) x.ps.length c, .slice (some ⟨g, q, none⟩) x.sl.length d, .string x.ad, .int .i64 x.si, .int .i64 x.st] 32) = W1 at *
  obtain ⟨d0, d1, d2, d3, d4, d5⟩ := hC.c6
  have hlt := hC.2.2
  by_cases hk : RbOk x
  case neg =>
    have HN : Hid (rbThings x nm = []) := rbThings_no hk nm
    have hp := pB_no hk
    go_wp2_with fail
    refine (HO.out _ hB0).mono ?_
    rw [hp]
    rintro e w1 ⟨rfl, hB1⟩
    go_wp2_with fail
    go_ret
    exact ⟨⟨_, rfl, by rw [HN.out]; exact txt_nil w1⟩, up_trans (up_trans hB0 hB1) ((Below.refl _ _).alloc (Nat.le_refl _) _)⟩
  have HY : Hid (rbThings x nm = thE x.sl (slE x.ps nm)) := rbThings_ok hk nm
  have hrb := hk.2.1
  have h12 : x.ps.length ≤ 12 := ((recB_iff x.ps).1 hrb).2.1
  have hp := pB_yes hk
  have hsl := slE_len x.ps nm
  clear hk
  go_wp2_with fail
  refine (HO.out _ hB0).mono ?_
  rw [hp]
  rintro e w1 ⟨rfl, hB1⟩
  go_upto_region 3 with fail
  have hB01 := up_trans hB0 hB1
  obtain ⟨f0, f1, f2, f3, f4, f5⟩ := (hC.up hB1 hlt).c6
  have hq4 : w.heap.size < w1.heap.size := Nat.lt_of_lt_of_le hlt hB1.size
  have hS0 : Below w1.heap.size w1 w1 ∧ w1.cell? ⟨w.heap.size, 0, none⟩ = some (.string x.nm) ∧ w1.cell? ⟨w.heap.size, 1, none⟩ = some (.slice (some ⟨b, o, none⟩) x.ps.length c) ∧ w1.cell? ⟨w.heap.size, 2, none⟩ = some (.slice (some ⟨g, q, none⟩) x.sl.length d) ∧ w1.cell? ⟨w.heap.size, 3, none⟩ = some (.string x.ad) ∧ w1.cell? ⟨w.heap.size, 4, none⟩ = some (.int .i64 x.si) ∧ w1.cell? ⟨w.heap.size, 5, none⟩ = some (.int .i64 x.st) := ⟨Below.refl _ _, f0, f1, f2, f3, f4, f5⟩
  clear d0 d1 d2 d3 d4 d5 f0 f1 f2 f3 f4 f5 hp
  go_wp2_with fail
  go_region_held (fun w' => Below w1.heap.size w1 w' ∧ w'.cell? ⟨w.heap.size, 0, none⟩ = some (.string x.nm) ∧ w'.cell? ⟨w.heap.size, 1, none⟩ = some (.slice (some ⟨b, o, none⟩) x.ps.length c) ∧ w'.cell? ⟨w.heap.size, 2, none⟩ = some (.slice (some ⟨g, q, none⟩) x.sl.length d) ∧ w'.cell? ⟨w.heap.size, 3, none⟩ = some (.string x.ad) ∧ w'.cell? ⟨w.heap.size, 4, none⟩ = some (.int .i64 x.si) ∧ w'.cell? ⟨w.heap.size, 5, none⟩ = some (.int .i64 x.st)) (first | exact k6_drew hS0 | exact k6_up hq4 (by assumption) (by assumption))
    (first
      | (go_at_call 108; refine (l2Slots_any x.ps b o c hrb 20 nm _ (hr.up (up_trans hB01 (And.left (by assumption))) hb) (Nat.lt_of_lt_of_le hb (up_trans hB01 (And.left (by assumption))).size) (by omega)).mono ?_; rintro e w3 ⟨⟨u3, rfl, hT3⟩, hb3⟩; have hB3 := up_trans hB01 (up_trans (Below.refl _ _).drew hb3))
      | (go_at_call 25; refine (things_any x b o c g q d _ _ _ (hl.up hB3 hg) (Nat.lt_of_lt_of_le hg hB3.size) ns hT3 (by omega)).mono ?_; rintro e w4 ⟨⟨u4, rfl, hT4⟩, hb4⟩))
  rename_i hHeld
  have hB5 := up_trans hB01 hHeld.1
  clear hHeld hS0 hT3 hb3 hb4 hB3
  go_wp2_with fail
  go_ret
  exact ⟨⟨_, rfl, by rw [HY.out]; exact hT4⟩, hB5⟩

set_option maxRecDepth 20000 in
set_option maxHeartbeats 4000000 in
theorem thingsP_any (x : Rb) (rv sv : Value) (nm : ByteArray) (w : World) (hE : Ends w) (h : RbV w x rv sv) :
    Calls Tryz.prog 100 #[.agg #[.string x.nm, rv, sv, .string x.ad, .int .i64 x.si, .int .i64 x.st], .string nm] w fun e w' => (∃ u, e = .returned u ∧ OwnT w' w.heap.size u (rbThings x nm)) ∧ Below w.heap.size w w' := by
  have hok := fun W (hB : Below w.heap.size w W) => batchOkP_any x rv sv W (hE.up hB) (h.up hB)
  obtain ⟨b, o, c, rfl, hr, hb, hcap, hc9⟩ := h.r
  obtain ⟨g, q, d, rfl, hl, hg⟩ := h.s
  have ns := h.ns
  have zs := h.zs
  have zp := h.zp
  clear h
  have hC : CB (w.alloc (.cells #[.string x.nm, .slice (some ⟨b, o, none⟩) x.ps.length c, .slice (some ⟨g, q, none⟩) x.sl.length d, .string x.ad, .int .i64 x.si, .int .i64 x.st] 32)) w.heap.size [.string x.nm, .slice (some ⟨b, o, none⟩) x.ps.length c, .slice (some ⟨g, q, none⟩) x.sl.length d, .string x.ad, .int .i64 x.si, .int .i64 x.st] := cb_alloc w _ _
  have hB0 := (Below.refl w.heap.size w).alloc (Nat.le_refl _) (.cells #[.string x.nm, .slice (some ⟨b, o, none⟩) x.ps.length c, .slice (some ⟨g, q, none⟩) x.sl.length d, .string x.ad, .int .i64 x.si, .int .i64 x.st] 32)
  have HO : Hid (∀ W, Below w.heap.size w W → Calls Tryz.prog 30 #[.agg #[.string x.nm, .slice (some ⟨b, o, none⟩) x.ps.length c, .slice (some ⟨g, q, none⟩) x.sl.length d, .string x.ad, .int .i64 x.si, .int .i64 x.st]] W fun e w' => e = .returned (.bool (pB (RbOk x))) ∧ Below W.heap.size W w') := hok
  have HE : Hid (Ends w) := hE
  clear hok hE
  go_enter Tryz.func100, Tryz.ntmps100
  go_upto_region 1 with fail
  generalize w.alloc (.cells #[.string x.nm, .slice (some ⟨b, o, none⟩) x.ps.length c, .slice (some ⟨g, q, none⟩) x.sl.length d, .string x.ad, .int .i64 x.si, .int .i64 x.st] 32) = W1 at *
  obtain ⟨d0, d1, d2, d3, d4, d5⟩ := hC.c6
  have hlt := hC.2.2
  by_cases hk : RbOk x
  case neg =>
    have HN : Hid (rbThings x nm = []) := rbThings_no hk nm
    have hp := pB_no hk
    go_wp2_with fail
    refine (HO.out _ hB0).mono ?_
    rw [hp]
    rintro e w1 ⟨rfl, hB1⟩
    go_wp2_with fail
    go_ret
    exact ⟨⟨_, rfl, by rw [HN.out]; exact World.ownsRow_nil _ _ _ _⟩, up_trans hB0 hB1⟩
  have hrb := hk.2.1
  have h12 : x.ps.length ≤ 12 := ((recB_iff x.ps).1 hrb).2.1
  have HY : Hid (namesOf (thI x.sl (slE x.ps nm)) = rbThings x nm) := by
    show _ = _
    rw [rbThings_ok hk nm]
    exact names_th (things_same hk.2.2.1.nodup fun _ => Iff.rfl)
  have hV : slotsV x.ps nm = slE x.ps nm := by simp [slotsV, hrb]
  have HR : Hid (∀ W, Below w.heap.size w W → Calls Tryz.prog 113 #[.slice (some ⟨b, o, none⟩) x.ps.length c, .string nm] W fun e w' => (∃ u, e = .returned u ∧ OwnT w' W.heap.size u (slE x.ps nm)) ∧ Below W.heap.size W w') := fun W hW => by
    have := recSlots_big x.ps b o c nm W (HE.out.up hW) (hr.up hW hb) (Nat.lt_of_lt_of_le hb hW.size) zp hcap hc9
    rw [hV] at this; exact this
  have hsz := slE_sized zp nm
  have hp := pB_yes hk
  have hsl := slE_len x.ps nm
  clear hk hV
  go_wp2_with fail
  refine (HO.out _ hB0).mono ?_
  rw [hp]
  rintro e w1 ⟨rfl, hB1⟩
  go_upto_region 3 with fail
  have hB01 := up_trans hB0 hB1
  obtain ⟨f0, f1, f2, f3, f4, f5⟩ := (hC.up hB1 hlt).c6
  have hq4 : w.heap.size < w1.heap.size := Nat.lt_of_lt_of_le hlt hB1.size
  have hS0 : Below w1.heap.size w1 w1 ∧ w1.cell? ⟨w.heap.size, 0, none⟩ = some (.string x.nm) ∧ w1.cell? ⟨w.heap.size, 1, none⟩ = some (.slice (some ⟨b, o, none⟩) x.ps.length c) ∧ w1.cell? ⟨w.heap.size, 2, none⟩ = some (.slice (some ⟨g, q, none⟩) x.sl.length d) ∧ w1.cell? ⟨w.heap.size, 3, none⟩ = some (.string x.ad) ∧ w1.cell? ⟨w.heap.size, 4, none⟩ = some (.int .i64 x.si) ∧ w1.cell? ⟨w.heap.size, 5, none⟩ = some (.int .i64 x.st) := ⟨Below.refl _ _, f0, f1, f2, f3, f4, f5⟩
  clear d0 d1 d2 d3 d4 d5 f0 f1 f2 f3 f4 f5 hp
  go_wp2_with fail
  go_region_held (fun w' => Below w1.heap.size w1 w' ∧ w'.cell? ⟨w.heap.size, 0, none⟩ = some (.string x.nm) ∧ w'.cell? ⟨w.heap.size, 1, none⟩ = some (.slice (some ⟨b, o, none⟩) x.ps.length c) ∧ w'.cell? ⟨w.heap.size, 2, none⟩ = some (.slice (some ⟨g, q, none⟩) x.sl.length d) ∧ w'.cell? ⟨w.heap.size, 3, none⟩ = some (.string x.ad) ∧ w'.cell? ⟨w.heap.size, 4, none⟩ = some (.int .i64 x.si) ∧ w'.cell? ⟨w.heap.size, 5, none⟩ = some (.int .i64 x.st)) (first | exact k6_drew hS0 | exact k6_up hq4 (by assumption) (by assumption))
    (first
      | (go_at_call 32; refine (slotMap_any x.sl g q d _ (hl.up hB01.drew hg) (Nat.lt_of_lt_of_le hg hB01.drew.size) ns (fun y hy => (zs y hy).1)).mono ?_; rintro e w2 ⟨⟨M, D, rfl, hM, hD, -⟩, hb2⟩; have hB2 := up_trans hB01.drew hb2)
      | (go_at_call 113; refine (HR.out _ hB2).mono ?_; rintro e w3 ⟨⟨u3, rfl, hO3⟩, hb3⟩; have hM3 := hM.up hb3; have hB3 := up_trans hB2 hb3)
      | (go_at_call 33; refine (thingsM_any x.sl (slE x.ps nm) M _ D _ _ hM3 hD hO3.lst hsz (by omega)).mono ?_; rintro e w4 ⟨⟨u4, rfl, hO4⟩, hb4⟩))
  rename_i hHeld
  have hB5 := up_trans hB01 hHeld.1
  have hO5 := own_low hO4 hB3.size
  clear hHeld hS0 hO3 hO4 hb3 hb4 hB3 hM hD hM3 hb2 hB2
  go_wp2_with fail
  go_ret
  exact ⟨⟨_, rfl, by rw [← HY.out]; exact hO5⟩, hB5⟩
end Go.Proofs.YtialglmnfchfmafGreatDoor

/- RunOwn, by the specification and by the program (chapter 21). -/
namespace Go.Proofs.YtialglmnfchfmafGreatDoor
open Go.RowKit

theorem okB_kind {p : Ph} (h : p.okB = true) : 1 ≤ p.k ∧ p.k ≤ 5 := by
  unfold Ph.okB phaseB at h
  simp only [Bool.and_eq_true] at h
  have h1 := h.1.1.2
  unfold argsB at h1
  by_cases e1 : p.k = 1
  · omega
  by_cases e2 : p.k = 2
  · omega
  by_cases e3 : p.k = 3
  · omega
  by_cases e4 : p.k = 4 ∨ p.k = 5
  · omega
  rw [if_neg e1, if_neg e2, if_neg e3, if_neg e4] at h1
  cases h1
theorem ofL_len (p : Ph) : (ofL p).length ≤ 2 := by
  unfold ofL; split
  · have := insL_len [p.a] p.b; simpa using this
  · simp
set_option maxRecDepth 20000 in
set_option maxHeartbeats 4000000 in
theorem ownS_any (x : Rb) (rv sv : Value) (w : World) (h : RbV w x rv sv) :
    Calls Tryz.prog 7 #[.agg #[.string x.nm, rv, sv, .string x.ad, .int .i64 x.si, .int .i64 x.st]] w fun e w' => (∃ u, e = .returned u ∧ Txt w' u (rbOwn x)) ∧ Below w.heap.size w w' := by
  have hok := fun W (hB : Below w.heap.size w W) => batchOkS_any x rv sv W (h.up hB)
  obtain ⟨b, o, c, rfl, hr, hb, hcap, hc9⟩ := h.r
  obtain ⟨g, q, d, rfl, hl, hg⟩ := h.s
  have ns := h.ns
  have np := h.np
  clear h
  have hC : CB (w.alloc (.cells #[.string x.nm, .slice (some ⟨b, o, none⟩) x.ps.length c, .slice (some ⟨g, q, none⟩) x.sl.length d, .string x.ad, .int .i64 x.si, .int .i64 x.st] 32)) w.heap.size [.string x.nm, .slice (some ⟨b, o, none⟩) x.ps.length c, .slice (some ⟨g, q, none⟩) x.sl.length d, .string x.ad, .int .i64 x.si, .int .i64 x.st] := cb_alloc w _ _
  have hB0 := (Below.refl w.heap.size w).alloc (Nat.le_refl _) (.cells #[.string x.nm, .slice (some ⟨b, o, none⟩) x.ps.length c, .slice (some ⟨g, q, none⟩) x.sl.length d, .string x.ad, .int .i64 x.si, .int .i64 x.st] 32)
  have HO : Hid (∀ W, Below w.heap.size w W → Calls Tryz.prog 24 #[.agg #[.string x.nm, .slice (some ⟨b, o, none⟩) x.ps.length c, .slice (some ⟨g, q, none⟩) x.sl.length d, .string x.ad, .int .i64 x.si, .int .i64 x.st]] W fun e w' => e = .returned (.bool (pB (RbOk x))) ∧ Below W.heap.size W w') := hok
  clear hok
  go_enter Tryz.func7, Tryz.ntmps7
  go_upto_region 1 with fail
  generalize w.alloc (.cells #[.string x.nm, .slice (some ⟨b, o, none⟩) x.ps.length c, .slice (some ⟨g, q, none⟩) x.sl.length d, .string x.ad, .int .i64 x.si, .int .i64 x.st] 32) = W1 at *
  obtain ⟨d0, d1, d2, d3, d4, d5⟩ := hC.c6
  have hlt := hC.2.2
  by_cases hk : RbOk x
  case neg =>
    have HN : Hid (rbOwn x = []) := rbOwn_no hk
    have hp := pB_no hk
    go_wp2_with fail
    refine (HO.out _ hB0).mono ?_
    rw [hp]
    rintro e w1 ⟨rfl, hB1⟩
    go_wp2_with fail
    go_ret
    exact ⟨⟨_, rfl, by rw [HN.out]; exact txt_nil w1⟩, up_trans (up_trans hB0 hB1) ((Below.refl _ _).alloc (Nat.le_refl _) _)⟩
  obtain ⟨k, hkl, hka⟩ := hasB_at hk.2.2.2.2.1
  have HY : Hid (rbOwn x = thE x.sl (ofL x.ps[k])) := by show _ = _; rw [rbOwn_ok hk, phOf_at hkl hka]
  have hat := fun W (hW : RecAt W b o x.ps) => at_any x.ps b o c x.ad W hW np
  rw [hka] at hat
  have Hat : Hid (∀ W, RecAt W b o x.ps → Calls Tryz.prog 27 #[.slice (some ⟨b, o, none⟩) x.ps.length c, .string x.ad] W fun e w' => e = .returned (.int .i64 (k : Int)) ∧ w' = W) := hat
  have hp := pB_yes hk
  clear hk hat hka
  go_wp2_with fail
  refine (HO.out _ hB0).mono ?_
  rw [hp]
  rintro e w1 ⟨rfl, hB1⟩
  go_upto_region 3 with fail
  have hB01 := up_trans hB0 hB1
  obtain ⟨f0, f1, f2, f3, f4, f5⟩ := (hC.up hB1 hlt).c6
  obtain ⟨r0, r1, r2, r3, r4, r5, r6, r7⟩ := (hr.up hB01 hb).cells k hkl
  have hof := ofL_len x.ps[k]
  generalize x.ps[k] = p at *
  have hq4 : w.heap.size < w1.heap.size := Nat.lt_of_lt_of_le hlt hB1.size
  have hr4 : b < w1.heap.size := Nat.lt_of_lt_of_le hb hB01.size
  have hS0 : Below w1.heap.size w1 w1 ∧ w1.cell? ⟨w.heap.size, 0, none⟩ = some (.string x.nm) ∧ w1.cell? ⟨w.heap.size, 1, none⟩ = some (.slice (some ⟨b, o, none⟩) x.ps.length c) ∧ w1.cell? ⟨w.heap.size, 2, none⟩ = some (.slice (some ⟨g, q, none⟩) x.sl.length d) ∧ w1.cell? ⟨w.heap.size, 3, none⟩ = some (.string x.ad) ∧ w1.cell? ⟨w.heap.size, 4, none⟩ = some (.int .i64 x.si) ∧ w1.cell? ⟨w.heap.size, 5, none⟩ = some (.int .i64 x.st) ∧ w1.cell? ⟨b, o + k * 8, none⟩ = some (.string p.nm) ∧ w1.cell? ⟨b, o + k * 8 + 1, none⟩ = some (.int .i64 p.k) ∧ w1.cell? ⟨b, o + k * 8 + 2, none⟩ = some (.string p.a) ∧ w1.cell? ⟨b, o + k * 8 + 3, none⟩ = some (.string p.b) ∧ w1.cell? ⟨b, o + k * 8 + 4, none⟩ = some (.int .i64 p.n) ∧ w1.cell? ⟨b, o + k * 8 + 5, none⟩ = some (.int .i64 p.wi) ∧ w1.cell? ⟨b, o + k * 8 + 6, none⟩ = some (.string p.t) ∧ w1.cell? ⟨b, o + k * 8 + 7, none⟩ = some (.string p.e) := ⟨Below.refl _ _, f0, f1, f2, f3, f4, f5, r0, r1, r2, r3, r4, r5, r6, r7⟩
  clear d0 d1 d2 d3 d4 d5 f0 f1 f2 f3 f4 f5 r0 r1 r2 r3 r4 r5 r6 r7 hp
  have Hr : Hid (RecAt w1 b o x.ps) := hr.up hB01 hb
  clear hr
  go_wp2_with fail
  go_region_held (fun w' => Below w1.heap.size w1 w' ∧ w'.cell? ⟨w.heap.size, 0, none⟩ = some (.string x.nm) ∧ w'.cell? ⟨w.heap.size, 1, none⟩ = some (.slice (some ⟨b, o, none⟩) x.ps.length c) ∧ w'.cell? ⟨w.heap.size, 2, none⟩ = some (.slice (some ⟨g, q, none⟩) x.sl.length d) ∧ w'.cell? ⟨w.heap.size, 3, none⟩ = some (.string x.ad) ∧ w'.cell? ⟨w.heap.size, 4, none⟩ = some (.int .i64 x.si) ∧ w'.cell? ⟨w.heap.size, 5, none⟩ = some (.int .i64 x.st) ∧ w'.cell? ⟨b, o + k * 8, none⟩ = some (.string p.nm) ∧ w'.cell? ⟨b, o + k * 8 + 1, none⟩ = some (.int .i64 p.k) ∧ w'.cell? ⟨b, o + k * 8 + 2, none⟩ = some (.string p.a) ∧ w'.cell? ⟨b, o + k * 8 + 3, none⟩ = some (.string p.b) ∧ w'.cell? ⟨b, o + k * 8 + 4, none⟩ = some (.int .i64 p.n) ∧ w'.cell? ⟨b, o + k * 8 + 5, none⟩ = some (.int .i64 p.wi) ∧ w'.cell? ⟨b, o + k * 8 + 6, none⟩ = some (.string p.t) ∧ w'.cell? ⟨b, o + k * 8 + 7, none⟩ = some (.string p.e)) (first | exact k14_drew hS0 | exact k14_up hq4 hr4 (by assumption) (by assumption))
    (first
      | (go_at_call 27; refine (Hat.out _ (Hr.out.up (And.left (by assumption)) hr4)).mono ?_; rintro e w2 ⟨rfl, hw⟩; obtain rfl := hw.symm; clear hw)
      | (go_at_call 26; refine (of_any2 p _).mono ?_; rintro e w3 ⟨⟨u3, rfl, hT3⟩, hb3⟩; have hB3 := up_trans hB01.drew hb3)
      | (go_at_call 25; refine (things_any x b o c g q d _ _ _ (hl.up hB3 hg) (Nat.lt_of_lt_of_le hg hB3.size) ns hT3 (by omega)).mono ?_; rintro e w4 ⟨⟨u4, rfl, hT4⟩, hb4⟩))
  rename_i hHeld
  have hB5 := up_trans hB01 hHeld.1
  clear hHeld hS0 hT3 hb3 hb4 hB3
  go_wp2_with fail
  go_ret
  exact ⟨⟨_, rfl, by rw [HY.out]; exact hT4⟩, hB5⟩

set_option maxRecDepth 20000 in
set_option maxHeartbeats 4000000 in
theorem ownP_any (x : Rb) (rv sv : Value) (w : World) (hE : Ends w) (h : RbV w x rv sv) :
    Calls Tryz.prog 9 #[.agg #[.string x.nm, rv, sv, .string x.ad, .int .i64 x.si, .int .i64 x.st]] w fun e w' => (∃ u, e = .returned u ∧ OwnT w' w.heap.size u (rbOwn x)) ∧ Below w.heap.size w w' := by
  have hok := fun W (hB : Below w.heap.size w W) => batchOkP_any x rv sv W (hE.up hB) (h.up hB)
  obtain ⟨b, o, c, rfl, hr, hb, hcap, hc9⟩ := h.r
  obtain ⟨g, q, d, rfl, hl, hg⟩ := h.s
  have ns := h.ns
  have np := h.np
  have zs := h.zs
  have zp := h.zp
  clear h
  have hC : CB (w.alloc (.cells #[.string x.nm, .slice (some ⟨b, o, none⟩) x.ps.length c, .slice (some ⟨g, q, none⟩) x.sl.length d, .string x.ad, .int .i64 x.si, .int .i64 x.st] 32)) w.heap.size [.string x.nm, .slice (some ⟨b, o, none⟩) x.ps.length c, .slice (some ⟨g, q, none⟩) x.sl.length d, .string x.ad, .int .i64 x.si, .int .i64 x.st] := cb_alloc w _ _
  have hB0 := (Below.refl w.heap.size w).alloc (Nat.le_refl _) (.cells #[.string x.nm, .slice (some ⟨b, o, none⟩) x.ps.length c, .slice (some ⟨g, q, none⟩) x.sl.length d, .string x.ad, .int .i64 x.si, .int .i64 x.st] 32)
  have HO : Hid (∀ W, Below w.heap.size w W → Calls Tryz.prog 30 #[.agg #[.string x.nm, .slice (some ⟨b, o, none⟩) x.ps.length c, .slice (some ⟨g, q, none⟩) x.sl.length d, .string x.ad, .int .i64 x.si, .int .i64 x.st]] W fun e w' => e = .returned (.bool (pB (RbOk x))) ∧ Below W.heap.size W w') := hok
  clear hok hE
  go_enter Tryz.func9, Tryz.ntmps9
  go_upto_region 1 with fail
  generalize w.alloc (.cells #[.string x.nm, .slice (some ⟨b, o, none⟩) x.ps.length c, .slice (some ⟨g, q, none⟩) x.sl.length d, .string x.ad, .int .i64 x.si, .int .i64 x.st] 32) = W1 at *
  obtain ⟨d0, d1, d2, d3, d4, d5⟩ := hC.c6
  have hlt := hC.2.2
  by_cases hk : RbOk x
  case neg =>
    have HN : Hid (rbOwn x = []) := rbOwn_no hk
    have hp := pB_no hk
    go_wp2_with fail
    refine (HO.out _ hB0).mono ?_
    rw [hp]
    rintro e w1 ⟨rfl, hB1⟩
    go_wp2_with fail
    go_ret
    exact ⟨⟨_, rfl, by rw [HN.out]; exact World.ownsRow_nil _ _ _ _⟩, up_trans hB0 hB1⟩
  have hhas := hk.2.2.2.2.1
  have HY : Hid (∀ p, p = phOf x.ps x.ad → namesOf (thI x.sl (ownB p)) = rbOwn x ∧ (1 ≤ p.k ∧ p.k ≤ 5) ∧ ∀ s ∈ ownB p, s.size ≤ maxLen) := by
    show _
    rintro p rfl
    have hm := phOf_mem hhas
    refine ⟨?_, okB_kind (recB_ok hk.2.1 hm), fun s hs => ?_⟩
    · rw [rbOwn_ok hk]
      exact names_th (own_same x.sl _ hk.2.2.1.nodup (own_keys _))
    · obtain ⟨_, z1, z2, _⟩ := zp _ hm
      unfold ownB at hs
      split at hs
      · simp only [List.mem_cons, List.not_mem_nil, or_false] at hs
        rcases hs with rfl | rfl
        · exact z1
        · exact z2
      · simp only [List.mem_cons, List.not_mem_nil, or_false] at hs
        rw [hs]; exact z1
  have hp := pB_yes hk
  clear hk
  go_wp2_with fail
  refine (HO.out _ hB0).mono ?_
  rw [hp]
  rintro e w1 ⟨rfl, hB1⟩
  go_upto_region 3 with fail
  have hB01 := up_trans hB0 hB1
  obtain ⟨hc, hf⟩ := bcell hB1
  go_wp2_with fail
  refine (phaseOf_any x.ps b o c x.ad _ (hr.up hB01 hb) (Nat.lt_of_lt_of_le hb hB01.size) np).mono ?_
  rintro e w3 ⟨⟨p, rfl, hpk⟩, hb3⟩
  obtain ⟨HT, hpk5, hps⟩ := HY.out p (by
    obtain ⟨k, hkl, hka⟩ := hasB_at hhas
    rw [hpk k hkl hka, phOf_at hkl hka])
  have HT' : Hid (namesOf (thI x.sl (ownB p)) = rbOwn x) := HT
  clear HT hpk HY hc hf
  have hB13 := up_trans hB1 hb3
  have hB14 := hB13.alloc hB13.size (.cells #[.string (p).nm, .int .i64 (p).k, .string (p).a, .string (p).b, .int .i64 (p).n, .int .i64 (p).wi, .string (p).t, .string (p).e] 65)
  have hCp : CB (w3.alloc (.cells #[.string (p).nm, .int .i64 (p).k, .string (p).a, .string (p).b, .int .i64 (p).n, .int .i64 (p).wi, .string (p).t, .string (p).e] 65)) w3.heap.size [.string p.nm, .int .i64 p.k, .string p.a, .string p.b, .int .i64 p.n, .int .i64 p.wi, .string p.t, .string p.e] := cb_alloc w3 _ _
  go_upto_region 4 with fail
  generalize w3.alloc (.cells #[.string (p).nm, .int .i64 (p).k, .string (p).a, .string (p).b, .int .i64 (p).n, .int .i64 (p).wi, .string (p).t, .string (p).e] 65) = W4 at *
  have e2 := (hB14.cell (p := ⟨w.heap.size, 2, none⟩) hlt).trans d2
  obtain ⟨⟨f0, f1, f2, f3, f4, f5, f6, f7⟩, -⟩ := hCp.c8
  have hB04 := up_trans hB0 hB14
  have hq4 : w.heap.size < W4.heap.size := Nat.lt_of_lt_of_le hlt hB14.size
  have hr4 : w3.heap.size < W4.heap.size := hCp.2.2
  have hS0 : Below W4.heap.size W4 W4 ∧ W4.cell? ⟨w.heap.size, 2, none⟩ = some (.slice (some ⟨g, q, none⟩) x.sl.length d) ∧ W4.cell? ⟨w3.heap.size, 0, none⟩ = some (.string p.nm) ∧ W4.cell? ⟨w3.heap.size, 1, none⟩ = some (.int .i64 p.k) ∧ W4.cell? ⟨w3.heap.size, 2, none⟩ = some (.string p.a) ∧ W4.cell? ⟨w3.heap.size, 3, none⟩ = some (.string p.b) ∧ W4.cell? ⟨w3.heap.size, 4, none⟩ = some (.int .i64 p.n) ∧ W4.cell? ⟨w3.heap.size, 5, none⟩ = some (.int .i64 p.wi) ∧ W4.cell? ⟨w3.heap.size, 6, none⟩ = some (.string p.t) ∧ W4.cell? ⟨w3.heap.size, 7, none⟩ = some (.string p.e) := ⟨Below.refl _ _, e2, f0, f1, f2, f3, f4, f5, f6, f7⟩
  have hob : (ownB p).length ≤ 2 := by unfold ownB; split <;> simp
  clear d0 d1 d2 d3 d4 d5 f0 f1 f2 f3 f4 f5 f6 f7 e2 hp hb3 hB13 hB14 hCp hC
  go_wp2_with fail
  go_region_held (fun w' => Below W4.heap.size W4 w' ∧ w'.cell? ⟨w.heap.size, 2, none⟩ = some (.slice (some ⟨g, q, none⟩) x.sl.length d) ∧ w'.cell? ⟨w3.heap.size, 0, none⟩ = some (.string p.nm) ∧ w'.cell? ⟨w3.heap.size, 1, none⟩ = some (.int .i64 p.k) ∧ w'.cell? ⟨w3.heap.size, 2, none⟩ = some (.string p.a) ∧ w'.cell? ⟨w3.heap.size, 3, none⟩ = some (.string p.b) ∧ w'.cell? ⟨w3.heap.size, 4, none⟩ = some (.int .i64 p.n) ∧ w'.cell? ⟨w3.heap.size, 5, none⟩ = some (.int .i64 p.wi) ∧ w'.cell? ⟨w3.heap.size, 6, none⟩ = some (.string p.t) ∧ w'.cell? ⟨w3.heap.size, 7, none⟩ = some (.string p.e)) (first | exact k9_drew hS0 | exact k9_up hq4 hr4 (by assumption) (by assumption))
    (first
      | (go_at_call 32; refine (slotMap_any x.sl g q d _ (hl.up hB04.drew hg) (Nat.lt_of_lt_of_le hg hB04.drew.size) ns (fun y hy => (zs y hy).1)).mono ?_; rintro e w5 ⟨⟨M, D, rfl, hM, hD, -⟩, hb5⟩; have hB5 := up_trans hB04.drew hb5)
      | (go_at_call 34; refine (phSlots_any p _ hpk5).mono ?_; rintro e w6 ⟨⟨u6, rfl, hT6⟩, hb6⟩; have hM6 := hM.up hb6; have hB6 := up_trans hB5 hb6)
      | (go_at_call 33; refine (thingsM_any x.sl (ownB p) M _ D _ _ hM6 hD (.inr hT6) hps (by omega)).mono ?_; rintro e w7 ⟨⟨u7, rfl, hO7⟩, hb7⟩))
  rename_i hHeld
  have hB8 := up_trans hB04 hHeld.1
  have hO8 := own_low hO7 hB6.size
  clear hHeld hS0 hT6 hO7 hb5 hb6 hb7 hM hD hM6 hB5 hB6
  go_wp2_with fail
  go_ret
  exact ⟨⟨_, rfl, by rw [← HT'.out]; exact hO8⟩, hB8⟩
end Go.Proofs.YtialglmnfchfmafGreatDoor
