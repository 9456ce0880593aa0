/- RunThings and RunOwn, by the specification and by the program (chapter 21). -/
import Derived.Test.YtkapodkidlgkjafGreatDoorU6
import Derived.Test.YtkapodkidlgkjafGreatDoorU4
namespace Go.Proofs.YtkapodkidlgkjafGreatDoor
open Go.RowKit

theorem k6_drew {W w0 : World} {q : Nat} {x0 x1 x2 x3 x4 x5 : Value} (h : Below W.heap.size W w0 ∧ w0.cell? ⟨q, 0, none⟩ = some x0 ∧ w0.cell? ⟨q, 1, none⟩ = some x1 ∧ w0.cell? ⟨q, 2, none⟩ = some x2 ∧ w0.cell? ⟨q, 3, none⟩ = some x3 ∧ w0.cell? ⟨q, 4, none⟩ = some x4 ∧ w0.cell? ⟨q, 5, none⟩ = some x5) : Below W.heap.size W w0.drew ∧ w0.drew.cell? ⟨q, 0, none⟩ = some x0 ∧ w0.drew.cell? ⟨q, 1, none⟩ = some x1 ∧ w0.drew.cell? ⟨q, 2, none⟩ = some x2 ∧ w0.drew.cell? ⟨q, 3, none⟩ = some x3 ∧ w0.drew.cell? ⟨q, 4, none⟩ = some x4 ∧ w0.drew.cell? ⟨q, 5, none⟩ = some x5 :=
  ⟨h.1.drew, h.2⟩
theorem k6_up {W w0 w1 : World} {q : Nat} {x0 x1 x2 x3 x4 x5 : Value} (hq : q < W.heap.size) (h : Below W.heap.size W w0 ∧ w0.cell? ⟨q, 0, none⟩ = some x0 ∧ w0.cell? ⟨q, 1, none⟩ = some x1 ∧ w0.cell? ⟨q, 2, none⟩ = some x2 ∧ w0.cell? ⟨q, 3, none⟩ = some x3 ∧ w0.cell? ⟨q, 4, none⟩ = some x4 ∧ w0.cell? ⟨q, 5, none⟩ = some x5) (hB : Below w0.heap.size w0 w1) : Below W.heap.size W w1 ∧ w1.cell? ⟨q, 0, none⟩ = some x0 ∧ w1.cell? ⟨q, 1, none⟩ = some x1 ∧ w1.cell? ⟨q, 2, none⟩ = some x2 ∧ w1.cell? ⟨q, 3, none⟩ = some x3 ∧ w1.cell? ⟨q, 4, none⟩ = some x4 ∧ w1.cell? ⟨q, 5, none⟩ = some x5 := by
  obtain ⟨h0, a0, a1, a2, a3, a4, a5⟩ := h
  have lq : q < w0.heap.size := Nat.lt_of_lt_of_le hq h0.size
  exact ⟨up_trans h0 hB, (hB.cell (p := ⟨q, 0, none⟩) lq).trans a0, (hB.cell (p := ⟨q, 1, none⟩) lq).trans a1, (hB.cell (p := ⟨q, 2, none⟩) lq).trans a2, (hB.cell (p := ⟨q, 3, none⟩) lq).trans a3, (hB.cell (p := ⟨q, 4, none⟩) lq).trans a4, (hB.cell (p := ⟨q, 5, none⟩) lq).trans a5⟩
theorem k9_drew {W w0 : World} {q r : Nat} {x0 x1 x2 x3 x4 x5 x6 x7 x8 : Value} (h : Below W.heap.size W w0 ∧ w0.cell? ⟨q, 2, none⟩ = some x0 ∧ w0.cell? ⟨r, 0, none⟩ = some x1 ∧ w0.cell? ⟨r, 1, none⟩ = some x2 ∧ w0.cell? ⟨r, 2, none⟩ = some x3 ∧ w0.cell? ⟨r, 3, none⟩ = some x4 ∧ w0.cell? ⟨r, 4, none⟩ = some x5 ∧ w0.cell? ⟨r, 5, none⟩ = some x6 ∧ w0.cell? ⟨r, 6, none⟩ = some x7 ∧ w0.cell? ⟨r, 7, none⟩ = some x8) : Below W.heap.size W w0.drew ∧ w0.drew.cell? ⟨q, 2, none⟩ = some x0 ∧ w0.drew.cell? ⟨r, 0, none⟩ = some x1 ∧ w0.drew.cell? ⟨r, 1, none⟩ = some x2 ∧ w0.drew.cell? ⟨r, 2, none⟩ = some x3 ∧ w0.drew.cell? ⟨r, 3, none⟩ = some x4 ∧ w0.drew.cell? ⟨r, 4, none⟩ = some x5 ∧ w0.drew.cell? ⟨r, 5, none⟩ = some x6 ∧ w0.drew.cell? ⟨r, 6, none⟩ = some x7 ∧ w0.drew.cell? ⟨r, 7, none⟩ = some x8 :=
  ⟨h.1.drew, h.2⟩
theorem k9_up {W w0 w1 : World} {q r : Nat} {x0 x1 x2 x3 x4 x5 x6 x7 x8 : Value} (hq : q < W.heap.size) (hr : r < W.heap.size) (h : Below W.heap.size W w0 ∧ w0.cell? ⟨q, 2, none⟩ = some x0 ∧ w0.cell? ⟨r, 0, none⟩ = some x1 ∧ w0.cell? ⟨r, 1, none⟩ = some x2 ∧ w0.cell? ⟨r, 2, none⟩ = some x3 ∧ w0.cell? ⟨r, 3, none⟩ = some x4 ∧ w0.cell? ⟨r, 4, none⟩ = some x5 ∧ w0.cell? ⟨r, 5, none⟩ = some x6 ∧ w0.cell? ⟨r, 6, none⟩ = some x7 ∧ w0.cell? ⟨r, 7, none⟩ = some x8) (hB : Below w0.heap.size w0 w1) : Below W.heap.size W w1 ∧ w1.cell? ⟨q, 2, none⟩ = some x0 ∧ w1.cell? ⟨r, 0, none⟩ = some x1 ∧ w1.cell? ⟨r, 1, none⟩ = some x2 ∧ w1.cell? ⟨r, 2, none⟩ = some x3 ∧ w1.cell? ⟨r, 3, none⟩ = some x4 ∧ w1.cell? ⟨r, 4, none⟩ = some x5 ∧ w1.cell? ⟨r, 5, none⟩ = some x6 ∧ w1.cell? ⟨r, 6, none⟩ = some x7 ∧ w1.cell? ⟨r, 7, none⟩ = some x8 := by
  obtain ⟨h0, a0, a1, a2, a3, a4, a5, a6, a7, a8⟩ := h
  have lq : q < w0.heap.size := Nat.lt_of_lt_of_le hq h0.size
  have lr : r < w0.heap.size := Nat.lt_of_lt_of_le hr h0.size
  exact ⟨up_trans h0 hB, (hB.cell (p := ⟨q, 2, none⟩) lq).trans a0, (hB.cell (p := ⟨r, 0, none⟩) lr).trans a1, (hB.cell (p := ⟨r, 1, none⟩) lr).trans a2, (hB.cell (p := ⟨r, 2, none⟩) lr).trans a3, (hB.cell (p := ⟨r, 3, none⟩) lr).trans a4, (hB.cell (p := ⟨r, 4, none⟩) lr).trans a5, (hB.cell (p := ⟨r, 5, none⟩) lr).trans a6, (hB.cell (p := ⟨r, 6, none⟩) lr).trans a7, (hB.cell (p := ⟨r, 7, none⟩) lr).trans a8⟩
theorem k14_drew {W w0 : World} {q r o : Nat} {x0 x1 x2 x3 x4 x5 x6 x7 x8 x9 x10 x11 x12 x13 : Value} (h : Below W.heap.size W w0 ∧ w0.cell? ⟨q, 0, none⟩ = some x0 ∧ w0.cell? ⟨q, 1, none⟩ = some x1 ∧ w0.cell? ⟨q, 2, none⟩ = some x2 ∧ w0.cell? ⟨q, 3, none⟩ = some x3 ∧ w0.cell? ⟨q, 4, none⟩ = some x4 ∧ w0.cell? ⟨q, 5, none⟩ = some x5 ∧ w0.cell? ⟨r, o, none⟩ = some x6 ∧ w0.cell? ⟨r, o + 1, none⟩ = some x7 ∧ w0.cell? ⟨r, o + 2, none⟩ = some x8 ∧ w0.cell? ⟨r, o + 3, none⟩ = some x9 ∧ w0.cell? ⟨r, o + 4, none⟩ = some x10 ∧ w0.cell? ⟨r, o + 5, none⟩ = some x11 ∧ w0.cell? ⟨r, o + 6, none⟩ = some x12 ∧ w0.cell? ⟨r, o + 7, none⟩ = some x13) : Below W.heap.size W w0.drew ∧ w0.drew.cell? ⟨q, 0, none⟩ = some x0 ∧ w0.drew.cell? ⟨q, 1, none⟩ = some x1 ∧ w0.drew.cell? ⟨q, 2, none⟩ = some x2 ∧ w0.drew.cell? ⟨q, 3, none⟩ = some x3 ∧ w0.drew.cell? ⟨q, 4, none⟩ = some x4 ∧ w0.drew.cell? ⟨q, 5, none⟩ = some x5 ∧ w0.drew.cell? ⟨r, o, none⟩ = some x6 ∧ w0.drew.cell? ⟨r, o + 1, none⟩ = some x7 ∧ w0.drew.cell? ⟨r, o + 2, none⟩ = some x8 ∧ w0.drew.cell? ⟨r, o + 3, none⟩ = some x9 ∧ w0.drew.cell? ⟨r, o + 4, none⟩ = some x10 ∧ w0.drew.cell? ⟨r, o + 5, none⟩ = some x11 ∧ w0.drew.cell? ⟨r, o + 6, none⟩ = some x12 ∧ w0.drew.cell? ⟨r, o + 7, none⟩ = some x13 :=
  ⟨h.1.drew, h.2⟩
theorem k14_up {W w0 w1 : World} {q r o : Nat} {x0 x1 x2 x3 x4 x5 x6 x7 x8 x9 x10 x11 x12 x13 : Value} (hq : q < W.heap.size) (hr : r < W.heap.size) (h : Below W.heap.size W w0 ∧ w0.cell? ⟨q, 0, none⟩ = some x0 ∧ w0.cell? ⟨q, 1, none⟩ = some x1 ∧ w0.cell? ⟨q, 2, none⟩ = some x2 ∧ w0.cell? ⟨q, 3, none⟩ = some x3 ∧ w0.cell? ⟨q, 4, none⟩ = some x4 ∧ w0.cell? ⟨q, 5, none⟩ = some x5 ∧ w0.cell? ⟨r, o, none⟩ = some x6 ∧ w0.cell? ⟨r, o + 1, none⟩ = some x7 ∧ w0.cell? ⟨r, o + 2, none⟩ = some x8 ∧ w0.cell? ⟨r, o + 3, none⟩ = some x9 ∧ w0.cell? ⟨r, o + 4, none⟩ = some x10 ∧ w0.cell? ⟨r, o + 5, none⟩ = some x11 ∧ w0.cell? ⟨r, o + 6, none⟩ = some x12 ∧ w0.cell? ⟨r, o + 7, none⟩ = some x13) (hB : Below w0.heap.size w0 w1) : Below W.heap.size W w1 ∧ w1.cell? ⟨q, 0, none⟩ = some x0 ∧ w1.cell? ⟨q, 1, none⟩ = some x1 ∧ w1.cell? ⟨q, 2, none⟩ = some x2 ∧ w1.cell? ⟨q, 3, none⟩ = some x3 ∧ w1.cell? ⟨q, 4, none⟩ = some x4 ∧ w1.cell? ⟨q, 5, none⟩ = some x5 ∧ w1.cell? ⟨r, o, none⟩ = some x6 ∧ w1.cell? ⟨r, o + 1, none⟩ = some x7 ∧ w1.cell? ⟨r, o + 2, none⟩ = some x8 ∧ w1.cell? ⟨r, o + 3, none⟩ = some x9 ∧ w1.cell? ⟨r, o + 4, none⟩ = some x10 ∧ w1.cell? ⟨r, o + 5, none⟩ = some x11 ∧ w1.cell? ⟨r, o + 6, none⟩ = some x12 ∧ w1.cell? ⟨r, o + 7, none⟩ = some x13 := by
  obtain ⟨h0, a0, a1, a2, a3, a4, a5, a6, a7, a8, a9, a10, a11, a12, a13⟩ := h
  have lq : q < w0.heap.size := Nat.lt_of_lt_of_le hq h0.size
  have lr : r < w0.heap.size := Nat.lt_of_lt_of_le hr h0.size
  exact ⟨up_trans h0 hB, (hB.cell (p := ⟨q, 0, none⟩) lq).trans a0, (hB.cell (p := ⟨q, 1, none⟩) lq).trans a1, (hB.cell (p := ⟨q, 2, none⟩) lq).trans a2, (hB.cell (p := ⟨q, 3, none⟩) lq).trans a3, (hB.cell (p := ⟨q, 4, none⟩) lq).trans a4, (hB.cell (p := ⟨q, 5, none⟩) lq).trans a5, (hB.cell (p := ⟨r, o, none⟩) lr).trans a6, (hB.cell (p := ⟨r, o + 1, none⟩) lr).trans a7, (hB.cell (p := ⟨r, o + 2, none⟩) lr).trans a8, (hB.cell (p := ⟨r, o + 3, none⟩) lr).trans a9, (hB.cell (p := ⟨r, o + 4, none⟩) lr).trans a10, (hB.cell (p := ⟨r, o + 5, none⟩) lr).trans a11, (hB.cell (p := ⟨r, o + 6, none⟩) lr).trans a12, (hB.cell (p := ⟨r, o + 7, none⟩) lr).trans a13⟩
theorem MapS.up {w w' : World} {M n : Nat} {D : DataW Unit} (h : MapS w M n D) (hB : Below w.heap.size w w') : MapS w' M n D :=
  World.ownsMap.kept (row := none) h ⟨hB.os, hB.tape, hB.output, hB.size, fun i hi _ => hB.block i hi⟩ (by simp)
theorem rbThings_ok {x : Rb} (h : RbOk x) (nm : ByteArray) : rbThings x nm = thE x.sl (slE x.ps nm) := by unfold rbThings; rw [if_pos (pB_yes h)]
theorem rbThings_no {x : Rb} (h : ¬ RbOk x) (nm : ByteArray) : rbThings x nm = [] := by unfold rbThings; rw [pB_no h]; rfl
theorem rbOwn_ok {x : Rb} (h : RbOk x) : rbOwn x = thE x.sl (ofL (phOf x.ps x.ad)) := by unfold rbOwn; rw [if_pos (pB_yes h)]
theorem rbOwn_no {x : Rb} (h : ¬ RbOk x) : rbOwn x = [] := by unfold rbOwn; rw [pB_no h]; rfl
theorem names_th {l : List Sl} {ss tt : List ByteArray} (h : keys (thE l ss) = thI l tt) : namesOf (thI l tt) = thE l ss := by rw [← h, names_keys]

set_option maxRecDepth 20000 in
set_option maxHeartbeats 4000000 in
theorem thingsS_any (x : Rb) (rv sv : Value) (nm : ByteArray) (w : World) (h : RbV w x rv sv) :
    Calls Tryz.prog 78 #[.agg #[.string x.nm, rv, sv, .string x.ad, .int .i64 x.si, .int .i64 x.st], .string nm] w fun e w' => (∃ u, e = .returned u ∧ Txt w' u (rbThings x nm)) ∧ Below w.heap.size w w' := by
  have hok := fun W (hB : Below w.heap.size w W) => batchOkS_any x rv sv W (h.up hB)
  obtain ⟨b, o, c, rfl, hr, hb, hcap, hc9⟩ := h.r
  obtain ⟨g, q, d, rfl, hl, hg⟩ := h.s
  have ns := h.ns
  clear h
  have hC : CB (w.alloc (.cells #[.string x.nm, .slice (some ⟨b, o, none⟩) x.ps.length c, .slice (some ⟨g, q, none⟩) x.sl.length d, .string x.ad, .int .i64 x.si, .int .i64 x.st] 32)) w.heap.size [.string x.nm, .slice (some ⟨b, o, none⟩) x.ps.length c, .slice (some ⟨g, q, none⟩) x.sl.length d, .string x.ad, .int .i64 x.si, .int .i64 x.st] := cb_alloc w _ _
  have hB0 := (Below.refl w.heap.size w).alloc (Nat.le_refl _) (.cells #[.string x.nm, .slice (some ⟨b, o, none⟩) x.ps.length c, .slice (some ⟨g, q, none⟩) x.sl.length d, .string x.ad, .int .i64 x.si, .int .i64 x.st] 32)
  have HO : Hid (∀ W, Below w.heap.size w W → Calls Tryz.prog 35 #[.agg #[.string x.nm, .slice (some ⟨b, o, none⟩) x.ps.length c, .slice (some ⟨g, q, none⟩) x.sl.length d, .string x.ad, .int .i64 x.si, .int .i64 x.st]] W fun e w' => e = .returned (.bool (pB (RbOk x))) ∧ Below W.heap.size W w') := hok
  clear hok
  go_enter Tryz.func78, Tryz.ntmps78
  go_upto_region 1 with fail
  generalize w.alloc (.cells #[.string x.nm, .slice (some ⟨b, o, none⟩) x.ps.length c, .slice (some ⟨g, q, none⟩) x.sl.length d, .string x.ad, .int .i64 x.si, .int .i64 x.st] 32) = W1 at *
  obtain ⟨d0, d1, d2, d3, d4, d5⟩ := hC.c6
  have hlt := hC.2.2
  by_cases hk : RbOk x
  case neg =>
    have HN : Hid (rbThings x nm = []) := rbThings_no hk nm
    have hp := pB_no hk
    go_wp2_with fail
    refine (HO.out _ hB0).mono ?_
    rw [hp]
    rintro e w1 ⟨rfl, hB1⟩
    go_wp2_with fail
    go_ret
    exact ⟨⟨_, rfl, by rw [HN.out]; exact txt_nil w1⟩, up_trans (up_trans hB0 hB1) ((Below.refl _ _).alloc (Nat.le_refl _) _)⟩
  have HY : Hid (rbThings x nm = thE x.sl (slE x.ps nm)) := rbThings_ok hk nm
  have hrb := hk.2.1
  have h12 : x.ps.length ≤ 12 := ((recB_iff x.ps).1 hrb).2.1
  have hp := pB_yes hk
  have hsl := slE_len x.ps nm
  clear hk
  go_wp2_with fail
  refine (HO.out _ hB0).mono ?_
  rw [hp]
  rintro e w1 ⟨rfl, hB1⟩
  go_upto_region 3 with fail
  have hB01 := up_trans hB0 hB1
  obtain ⟨f0, f1, f2, f3, f4, f5⟩ := (hC.up hB1 hlt).c6
  have hq4 : w.heap.size < w1.heap.size := Nat.lt_of_lt_of_le hlt hB1.size
  have hS0 : Below w1.heap.size w1 w1 ∧ w1.cell? ⟨w.heap.size, 0, none⟩ = some (.string x.nm) ∧ w1.cell? ⟨w.heap.size, 1, none⟩ = some (.slice (some ⟨b, o, none⟩) x.ps.length c) ∧ w1.cell? ⟨w.heap.size, 2, none⟩ = some (.slice (some ⟨g, q, none⟩) x.sl.length d) ∧ w1.cell? ⟨w.heap.size, 3, none⟩ = some (.string x.ad) ∧ w1.cell? ⟨w.heap.size, 4, none⟩ = some (.int .i64 x.si) ∧ w1.cell? ⟨w.heap.size, 5, none⟩ = some (.int .i64 x.st) := ⟨Below.refl _ _, f0, f1, f2, f3, f4, f5⟩
  clear d0 d1 d2 d3 d4 d5 f0 f1 f2 f3 f4 f5 hp
  go_wp2_with fail
  go_region_held (fun w' => Below w1.heap.size w1 w' ∧ w'.cell? ⟨w.heap.size, 0, none⟩ = some (.string x.nm) ∧ w'.cell? ⟨w.heap.size, 1, none⟩ = some (.slice (some ⟨b, o, none⟩) x.ps.length c) ∧ w'.cell? ⟨w.heap.size, 2, none⟩ = some (.slice (some ⟨g, q, none⟩) x.sl.length d) ∧ w'.cell? ⟨w.heap.size, 3, none⟩ = some (.string x.ad) ∧ w'.cell? ⟨w.heap.size, 4, none⟩ = some (.int .i64 x.si) ∧ w'.cell? ⟨w.heap.size, 5, none⟩ = some (.int .i64 x.st)) (first | exact k6_drew hS0 | exact k6_up hq4 (by assumption) (by assumption))
    (first
      | (go_at_call 128; refine (l2Slots_any x.ps b o c hrb 20 nm _ (hr.up (up_trans hB01 (And.left (by assumption))) hb) (Nat.lt_of_lt_of_le hb (up_trans hB01 (And.left (by assumption))).size) (by omega)).mono ?_; rintro e w3 ⟨⟨u3, rfl, hT3⟩, hb3⟩; have hB3 := up_trans hB01 (up_trans (Below.refl _ _).drew hb3))
      | (go_at_call 36; refine (things_any x b o c g q d _ _ _ (hl.up hB3 hg) (Nat.lt_of_lt_of_le hg hB3.size) ns hT3 (by omega)).mono ?_; rintro e w4 ⟨⟨u4, rfl, hT4⟩, hb4⟩))
  rename_i hHeld
  have hB5 := up_trans hB01 hHeld.1
  clear hHeld hS0 hT3 hb3 hb4 hB3
  go_wp2_with fail
  go_ret
  exact ⟨⟨_, rfl, by rw [HY.out]; exact hT4⟩, hB5⟩

set_option maxRecDepth 20000 in
set_option maxHeartbeats 4000000 in
theorem thingsP_any (x : Rb) (rv sv : Value) (nm : ByteArray) (w : World) (hE : Ends w) (h : RbV w x rv sv) :
    Calls Tryz.prog 119 #[.agg #[.string x.nm, rv, sv, .string x.ad, .int .i64 x.si, .int .i64 x.st], .string nm] w fun e w' => (∃ u, e = .returned u ∧ OwnT w' w.heap.size u (rbThings x nm)) ∧ Below w.heap.size w w' := by
  have hok := fun W (hB : Below w.heap.size w W) => batchOkP_any x rv sv W (hE.up hB) (h.up hB)
  obtain ⟨b, o, c, rfl, hr, hb, hcap, hc9⟩ := h.r
  obtain ⟨g, q, d, rfl, hl, hg⟩ := h.s
  have ns := h.ns
  have zs := h.zs
  have zp := h.zp
  clear h
  have hC : CB (w.alloc (.cells #[.string x.nm, .slice (some ⟨b, o, none⟩) x.ps.length c, .slice (some ⟨g, q, none⟩) x.sl.length d, .string x.ad, .int .i64 x.si, .int .i64 x.st] 32)) w.heap.size [.string x.nm, .slice (some ⟨b, o, none⟩) x.ps.length c, .slice (some ⟨g, q, none⟩) x.sl.length d, .string x.ad, .int .i64 x.si, .int .i64 x.st] := cb_alloc w _ _
  have hB0 := (Below.refl w.heap.size w).alloc (Nat.le_refl _) (.cells #[.string x.nm, .slice (some ⟨b, o, none⟩) x.ps.length c, .slice (some ⟨g, q, none⟩) x.sl.length d, .string x.ad, .int .i64 x.si, .int .i64 x.st] 32)
  have HO : Hid (∀ W, Below w.heap.size w W → Calls Tryz.prog 39 #[.agg #[.string x.nm, .slice (some ⟨b, o, none⟩) x.ps.length c, .slice (some ⟨g, q, none⟩) x.sl.length d, .string x.ad, .int .i64 x.si, .int .i64 x.st]] W fun e w' => e = .returned (.bool (pB (RbOk x))) ∧ Below W.heap.size W w') := hok
  have HE : Hid (Ends w) := hE
  clear hok hE
  go_enter Tryz.func119, Tryz.ntmps119
  go_upto_region 1 with fail
  generalize w.alloc (.cells #[.string x.nm, .slice (some ⟨b, o, none⟩) x.ps.length c, .slice (some ⟨g, q, none⟩) x.sl.length d, .string x.ad, .int .i64 x.si, .int .i64 x.st] 32) = W1 at *
  obtain ⟨d0, d1, d2, d3, d4, d5⟩ := hC.c6
  have hlt := hC.2.2
  by_cases hk : RbOk x
  case neg =>
    have HN : Hid (rbThings x nm = []) := rbThings_no hk nm
    have hp := pB_no hk
    go_wp2_with fail
    refine (HO.out _ hB0).mono ?_
    rw [hp]
    rintro e w1 ⟨rfl, hB1⟩
    go_wp2_with fail
    go_ret
    exact ⟨⟨_, rfl, by rw [HN.out]; exact World.ownsRow_nil _ _ _ _⟩, up_trans hB0 hB1⟩
  have hrb := hk.2.1
  have h12 : x.ps.length ≤ 12 := ((recB_iff x.ps).1 hrb).2.1
  have HY : Hid (namesOf (thI x.sl (slE x.ps nm)) = rbThings x nm) := by
    show _ = _
    rw [rbThings_ok hk nm]
    exact names_th (things_same hk.2.2.1.nodup fun _ => Iff.rfl)
  have hV : slotsV x.ps nm = slE x.ps nm := by simp [slotsV, hrb]
  have HR : Hid (∀ W, Below w.heap.size w W → Calls Tryz.prog 148 #[.slice (some ⟨b, o, none⟩) x.ps.length c, .string nm] W fun e w' => (∃ u, e = .returned u ∧ OwnT w' W.heap.size u (slE x.ps nm)) ∧ Below W.heap.size W w') := fun W hW => by
    have := recSlots_big x.ps b o c nm W (HE.out.up hW) (hr.up hW hb) (Nat.lt_of_lt_of_le hb hW.size) zp hcap hc9
    rw [hV] at this; exact this
  have hsz := slE_sized zp nm
  have hp := pB_yes hk
  have hsl := slE_len x.ps nm
  clear hk hV
  go_wp2_with fail
  refine (HO.out _ hB0).mono ?_
  rw [hp]
  rintro e w1 ⟨rfl, hB1⟩
  go_upto_region 3 with fail
  have hB01 := up_trans hB0 hB1
  obtain ⟨f0, f1, f2, f3, f4, f5⟩ := (hC.up hB1 hlt).c6
  have hq4 : w.heap.size < w1.heap.size := Nat.lt_of_lt_of_le hlt hB1.size
  have hS0 : Below w1.heap.size w1 w1 ∧ w1.cell? ⟨w.heap.size, 0, none⟩ = some (.string x.nm) ∧ w1.cell? ⟨w.heap.size, 1, none⟩ = some (.slice (some ⟨b, o, none⟩) x.ps.length c) ∧ w1.cell? ⟨w.heap.size, 2, none⟩ = some (.slice (some ⟨g, q, none⟩) x.sl.length d) ∧ w1.cell? ⟨w.heap.size, 3, none⟩ = some (.string x.ad) ∧ w1.cell? ⟨w.heap.size, 4, none⟩ = some (.int .i64 x.si) ∧ w1.cell? ⟨w.heap.size, 5, none⟩ = some (.int .i64 x.st) := ⟨Below.refl _ _, f0, f1, f2, f3, f4, f5⟩
  clear d0 d1 d2 d3 d4 d5 f0 f1 f2 f3 f4 f5 hp
  go_wp2_with fail
  go_region_held (fun w' => Below w1.heap.size w1 w' ∧ w'.cell? ⟨w.heap.size, 0, none⟩ = some (.string x.nm) ∧ w'.cell? ⟨w.heap.size, 1, none⟩ = some (.slice (some ⟨b, o, none⟩) x.ps.length c) ∧ w'.cell? ⟨w.heap.size, 2, none⟩ = some (.slice (some ⟨g, q, none⟩) x.sl.length d) ∧ w'.cell? ⟨w.heap.size, 3, none⟩ = some (.string x.ad) ∧ w'.cell? ⟨w.heap.size, 4, none⟩ = some (.int .i64 x.si) ∧ w'.cell? ⟨w.heap.size, 5, none⟩ = some (.int .i64 x.st)) (first | exact k6_drew hS0 | exact k6_up hq4 (by assumption) (by assumption))
    (first
      | (go_at_call 40; refine (slotMap_any x.sl g q d _ (hl.up hB01.drew hg) (Nat.lt_of_lt_of_le hg hB01.drew.size) ns (fun y hy => (zs y hy).1)).mono ?_; rintro e w2 ⟨⟨M, D, rfl, hM, hD, -⟩, hb2⟩; have hB2 := up_trans hB01.drew hb2)
      | (go_at_call 148; refine (HR.out _ hB2).mono ?_; rintro e w3 ⟨⟨u3, rfl, hO3⟩, hb3⟩; have hM3 := hM.up hb3; have hB3 := up_trans hB2 hb3)
      | (go_at_call 41; refine (thingsM_any x.sl (slE x.ps nm) M _ D _ _ hM3 hD hO3.lst hsz (by omega)).mono ?_; rintro e w4 ⟨⟨u4, rfl, hO4⟩, hb4⟩))
  rename_i hHeld
  have hB5 := up_trans hB01 hHeld.1
  have hO5 := own_low hO4 hB3.size
  clear hHeld hS0 hO3 hO4 hb3 hb4 hB3 hM hD hM3 hb2 hB2
  go_wp2_with fail
  go_ret
  exact ⟨⟨_, rfl, by rw [← HY.out]; exact hO5⟩, hB5⟩
end Go.Proofs.YtkapodkidlgkjafGreatDoor
