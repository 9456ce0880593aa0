/- The laws' own helpers over batches: sizes, copies, held against each other. -/
import Derived.Test.YtlkpgiifdclijaaGreatDoorJ35
import Derived.Test.YtlkpgiifdclijaaGreatDoorU3
import Derived.Test.YtlkpgiifdclijaaGreatDoorJ14
import Derived.Test.YtlkpgiifdclijaaGreatDoorJ28
namespace Go.Proofs.YtlkpgiifdclijaaGreatDoor
open Go.RowKit

theorem k12_drew {W w0 : World} {q r : Nat} {x0 x1 x2 x3 x4 x5 x6 x7 x8 x9 x10 x11 : Value} (h : Below W.heap.size W w0 ∧ w0.cell? ⟨q, 0, none⟩ = some x0 ∧ w0.cell? ⟨q, 1, none⟩ = some x1 ∧ w0.cell? ⟨q, 2, none⟩ = some x2 ∧ w0.cell? ⟨q, 3, none⟩ = some x3 ∧ w0.cell? ⟨q, 4, none⟩ = some x4 ∧ w0.cell? ⟨q, 5, none⟩ = some x5 ∧ w0.cell? ⟨r, 0, none⟩ = some x6 ∧ w0.cell? ⟨r, 1, none⟩ = some x7 ∧ w0.cell? ⟨r, 2, none⟩ = some x8 ∧ w0.cell? ⟨r, 3, none⟩ = some x9 ∧ w0.cell? ⟨r, 4, none⟩ = some x10 ∧ w0.cell? ⟨r, 5, none⟩ = some x11) : Below W.heap.size W w0.drew ∧ w0.drew.cell? ⟨q, 0, none⟩ = some x0 ∧ w0.drew.cell? ⟨q, 1, none⟩ = some x1 ∧ w0.drew.cell? ⟨q, 2, none⟩ = some x2 ∧ w0.drew.cell? ⟨q, 3, none⟩ = some x3 ∧ w0.drew.cell? ⟨q, 4, none⟩ = some x4 ∧ w0.drew.cell? ⟨q, 5, none⟩ = some x5 ∧ w0.drew.cell? ⟨r, 0, none⟩ = some x6 ∧ w0.drew.cell? ⟨r, 1, none⟩ = some x7 ∧ w0.drew.cell? ⟨r, 2, none⟩ = some x8 ∧ w0.drew.cell? ⟨r, 3, none⟩ = some x9 ∧ w0.drew.cell? ⟨r, 4, none⟩ = some x10 ∧ w0.drew.cell? ⟨r, 5, none⟩ = some x11 :=
  ⟨h.1.drew, h.2⟩
theorem k12_up {W w0 w1 : World} {q r : Nat} {x0 x1 x2 x3 x4 x5 x6 x7 x8 x9 x10 x11 : Value} (hq : q < W.heap.size) (hr : r < W.heap.size) (h : Below W.heap.size W w0 ∧ w0.cell? ⟨q, 0, none⟩ = some x0 ∧ w0.cell? ⟨q, 1, none⟩ = some x1 ∧ w0.cell? ⟨q, 2, none⟩ = some x2 ∧ w0.cell? ⟨q, 3, none⟩ = some x3 ∧ w0.cell? ⟨q, 4, none⟩ = some x4 ∧ w0.cell? ⟨q, 5, none⟩ = some x5 ∧ w0.cell? ⟨r, 0, none⟩ = some x6 ∧ w0.cell? ⟨r, 1, none⟩ = some x7 ∧ w0.cell? ⟨r, 2, none⟩ = some x8 ∧ w0.cell? ⟨r, 3, none⟩ = some x9 ∧ w0.cell? ⟨r, 4, none⟩ = some x10 ∧ w0.cell? ⟨r, 5, none⟩ = some x11) (hB : Below w0.heap.size w0 w1) : Below W.heap.size W w1 ∧ w1.cell? ⟨q, 0, none⟩ = some x0 ∧ w1.cell? ⟨q, 1, none⟩ = some x1 ∧ w1.cell? ⟨q, 2, none⟩ = some x2 ∧ w1.cell? ⟨q, 3, none⟩ = some x3 ∧ w1.cell? ⟨q, 4, none⟩ = some x4 ∧ w1.cell? ⟨q, 5, none⟩ = some x5 ∧ w1.cell? ⟨r, 0, none⟩ = some x6 ∧ w1.cell? ⟨r, 1, none⟩ = some x7 ∧ w1.cell? ⟨r, 2, none⟩ = some x8 ∧ w1.cell? ⟨r, 3, none⟩ = some x9 ∧ w1.cell? ⟨r, 4, none⟩ = some x10 ∧ w1.cell? ⟨r, 5, none⟩ = some x11 := by
  obtain ⟨h0, a0, a1, a2, a3, a4, a5, a6, a7, a8, a9, a10, a11⟩ := h
  have lq : q < w0.heap.size := Nat.lt_of_lt_of_le hq h0.size
  have lr : r < w0.heap.size := Nat.lt_of_lt_of_le hr h0.size
  exact ⟨up_trans h0 hB, (hB.cell (p := ⟨q, 0, none⟩) lq).trans a0, (hB.cell (p := ⟨q, 1, none⟩) lq).trans a1, (hB.cell (p := ⟨q, 2, none⟩) lq).trans a2, (hB.cell (p := ⟨q, 3, none⟩) lq).trans a3, (hB.cell (p := ⟨q, 4, none⟩) lq).trans a4, (hB.cell (p := ⟨q, 5, none⟩) lq).trans a5, (hB.cell (p := ⟨r, 0, none⟩) lr).trans a6, (hB.cell (p := ⟨r, 1, none⟩) lr).trans a7, (hB.cell (p := ⟨r, 2, none⟩) lr).trans a8, (hB.cell (p := ⟨r, 3, none⟩) lr).trans a9, (hB.cell (p := ⟨r, 4, none⟩) lr).trans a10, (hB.cell (p := ⟨r, 5, none⟩) lr).trans a11⟩
theorem sizeRb : (Tryz.prog.info? 51).map (·.size) = some 6 := by kernel_rfl

/-- A batch as it is handed to a law. -/
structure RbSrc (w : World) (x : Rb) (rv sv : Value) : Prop where
  r : Src w rv x.ps
  s : SlSrc w sv x.sl
  zp : Sized x.ps
  zs : SlZ x.sl
  zn : x.nm.size ≤ maxLen
  za : x.ad.size ≤ maxLen
theorem RbSrc.up {w w' : World} {x : Rb} {rv sv : Value} (h : RbSrc w x rv sv) (hb : Below w.heap.size w w') : RbSrc w' x rv sv := ⟨h.r.up hb, h.s.up hb, h.zp, h.zs, h.zn, h.za⟩
/-- A batch whose lists lie in blocks of their own. -/
structure RbO (w : World) (base : Nat) (x : Rb) (b1 b2 : Nat) : Prop where
  r : Own w b1 x.ps
  s : OwnSl w b2 x.sl
  l1 : base ≤ b1
  l2 : b1 < b2
theorem RbO.up {w w' : World} {base : Nat} {x : Rb} {b1 b2 : Nat} (h : RbO w base x b1 b2) (hb : Below w.heap.size w w') : RbO w' base x b1 b2 := ⟨h.r.up hb, h.s.up hb, h.l1, h.l2⟩
theorem RbO.low {w : World} {base base' : Nat} {x : Rb} {b1 b2 : Nat} (h : RbO w base x b1 b2) (hb : base' ≤ base) : RbO w base' x b1 b2 := ⟨h.r, h.s, Nat.le_trans hb h.l1, h.l2⟩
theorem RbO.v {w : World} {base : Nat} {x : Rb} {b1 b2 : Nat} (h : RbO w base x b1 b2) {rv sv : Value} {W : World} (hx : RbSrc W x rv sv) (np : x.ps.length ≤ 1048576) (ns : x.sl.length ≤ 1048576) : RbV w x (.slice (some ⟨b1, 0, none⟩) x.ps.length x.ps.length) (.slice (some ⟨b2, 0, none⟩) x.sl.length x.sl.length) :=
  ⟨⟨b1, 0, _, rfl, h.r.1, h.r.2.2, Nat.le_refl _, by omega⟩, ⟨b2, 0, _, rfl, h.s.1, h.s.2.2⟩, hx.zp, hx.zs, hx.zn, np, ns⟩
theorem Own.other {w : World} {b r j : Nat} {u : Value} {ps : List Ph} (h : Own w b ps) (hne : b ≠ r) : Own (w.setCell ⟨r, j, none⟩ u) b ps := by
  have hk : (w.setCell ⟨r, j, none⟩ u).heap[b]? = w.heap[b]? := Below.heap_setCell _ _ _ _ (fun e => hne e)
  refine ⟨fun i p hp k v hv => ?_, fun k hk' => ?_, by simpa using h.2.2⟩
  · rw [World.cell?_of_block (w := w) (a := ⟨b, 0 + i * 8 + k, none⟩) hk]; exact h.1 i p hp k v hv
  · rw [World.cell?_of_block (w := w) (a := ⟨b, 0 + k, none⟩) hk, World.frozen?_of_block (w := w) (a := ⟨b, 0 + k, none⟩) hk]; exact h.2.1 k hk'
theorem OwnSl.other {w : World} {b r j : Nat} {u : Value} {l : List Sl} (h : OwnSl w b l) (hne : b ≠ r) : OwnSl (w.setCell ⟨r, j, none⟩ u) b l := by
  have hk : (w.setCell ⟨r, j, none⟩ u).heap[b]? = w.heap[b]? := Below.heap_setCell _ _ _ _ (fun e => hne e)
  refine ⟨fun i p hp k v hv => ?_, fun k hk' => ?_, by simpa using h.2.2⟩
  · rw [World.cell?_of_block (w := w) (a := ⟨b, 0 + i * 2 + k, none⟩) hk]; exact h.1 i p hp k v hv
  · rw [World.cell?_of_block (w := w) (a := ⟨b, 0 + k, none⟩) hk, World.frozen?_of_block (w := w) (a := ⟨b, 0 + k, none⟩) hk]; exact h.2.1 k hk'
theorem RbO.set {w : World} {base r j b1 b2 : Nat} {u : Value} {x : Rb} (h : RbO w base x b1 b2) (hr : r < base) : RbO (w.setCell ⟨r, j, none⟩ u) base x b1 b2 :=
  ⟨h.r.other (by have := h.l1; omega), h.s.other (by have := h.l1; have := h.l2; omega), h.l1, h.l2⟩

set_option maxRecDepth 20000 in
set_option maxHeartbeats 2000000 in
theorem szRb_any (x : Rb) (rv sv : Value) (w : World) (h : RbSrc w x rv sv) (l : Int) (hl : 0 ≤ l) (hl' : l ≤ 1048576) :
    Calls Tryz.prog 40 #[.agg #[.string x.nm, rv, sv, .string x.ad, .int .i64 x.si, .int .i64 x.st], .int .i64 l] w fun e' w' => (∃ y : Int, e' = .returned (.int .i64 y) ∧ (0 ≤ y → x.ps.length ≤ 1048576 ∧ x.sl.length ≤ 1048576 ∧ x.nm.size ≤ 1048576) ∧ y ≤ 1048576) ∧ Below w.heap.size w w' := by
  obtain ⟨a1, c1, hrv⟩ := h.r.shape
  obtain ⟨a2, c2, hsv⟩ := h.s.shape
  subst hrv hsv
  have zn := h.zn
  have za := h.za
  unfold maxLen at zn za
  have hC : CB (w.alloc (.cells #[.string x.nm, .slice a1 x.ps.length c1, .slice a2 x.sl.length c2, .string x.ad, .int .i64 x.si, .int .i64 x.st] 71)) w.heap.size [.string x.nm, .slice a1 x.ps.length c1, .slice a2 x.sl.length c2, .string x.ad, .int .i64 x.si, .int .i64 x.st] := cb_alloc w _ _
  have hB0 := (Below.refl w.heap.size w).alloc (Nat.le_refl _) (.cells #[.string x.nm, .slice a1 x.ps.length c1, .slice a2 x.sl.length c2, .string x.ad, .int .i64 x.si, .int .i64 x.st] 71)
  go_enter Tryz.func40, Tryz.ntmps40
  go_upto_region 1 with fail
  generalize w.alloc (.cells #[.string x.nm, .slice a1 x.ps.length c1, .slice a2 x.sl.length c2, .string x.ad, .int .i64 x.si, .int .i64 x.st] 71) = W1 at *
  have hlt := hC.2.2
  obtain ⟨d0, d1, d2, d3, d4, d5⟩ := hC.c6
  by_cases h1 : l - x.nm.size < 0
  · go_wp2_with fail
    go_ret
    exact ⟨⟨_, rfl, by omega, by omega⟩, hB0⟩
  go_wp2_with fail
  refine (szS_src2 x.ps _ _ _ (by omega) (by omega) (h.r.up hB0) h.zp).mono ?_
  rintro e w2 ⟨⟨y2, rfl, hy2, hy2'⟩, hB2⟩
  by_cases h2 : y2 < 0
  · go_wp2_with fail
    go_ret
    exact ⟨⟨_, rfl, by omega, by omega⟩, up_trans hB0 hB2⟩
  have hn2 := hy2 (by omega)
  obtain ⟨e0, e1, e2, e3, e4, e5⟩ := (hC.up hB2 hlt).c6
  clear d0 d1 d2 d3 d4 d5 hy2
  have hB02 := up_trans hB0 hB2
  go_wp2_with fail
  refine (szSlots_src x.sl _ _ _ (by omega) (by omega) (h.s.up hB02) h.zs).mono ?_
  rintro e w3 ⟨⟨y3, rfl, hy3, hy3'⟩, hB3⟩
  have hB03 := up_trans hB02 hB3
  by_cases h3 : y3 < 0
  · go_wp2_with fail
    go_ret
    exact ⟨⟨_, rfl, by omega, by omega⟩, hB03⟩
  have hn3 := hy3 (by omega)
  obtain ⟨f0, f1, f2, f3, f4, f5⟩ := (hC.up (up_trans hB2 hB3) hlt).c6
  clear e0 e1 e2 e3 e4 e5 hy3
  by_cases h4 : y3 - x.ad.size < 0
  · go_wp2_with fail
    go_ret
    exact ⟨⟨_, rfl, by omega, by omega⟩, hB03⟩
  go_wp2_with fail
  go_ret
  exact ⟨⟨_, rfl, by omega, by omega⟩, hB03⟩

set_option maxRecDepth 20000 in
set_option maxHeartbeats 4000000 in
theorem toRb_any (x : Rb) (rv sv : Value) (w : World) (h : RbSrc w x rv sv) (np : x.ps.length ≤ 1048576) (ns : x.sl.length ≤ 1048576) :
    Calls Tryz.prog 54 #[.agg #[.string x.nm, rv, sv, .string x.ad, .int .i64 x.si, .int .i64 x.st]] w fun e w' => (∃ b1 b2, e = .returned (.agg #[.string x.nm, .slice (some ⟨b1, 0, none⟩) x.ps.length x.ps.length, .slice (some ⟨b2, 0, none⟩) x.sl.length x.sl.length, .string x.ad, .int .i64 x.si, .int .i64 x.st]) ∧ RbO w' w.heap.size x b1 b2) ∧ Below w.heap.size w w' := by
  obtain ⟨a1, c1, hrv⟩ := h.r.shape
  obtain ⟨a2, c2, hsv⟩ := h.s.shape
  subst hrv hsv
  go_enter Tryz.func54, Tryz.ntmps54
  go_upto_region 2 with fail
  obtain ⟨W1, hW1, kP, kR, kO, hB1, hs1⟩ : ∃ W1, ((w.alloc (.cells #[.string x.nm, .slice a1 x.ps.length c1, .slice a2 x.sl.length c2, .string x.ad, .int .i64 x.si, .int .i64 x.st] 71)).alloc (.cells #[.string ⟨#[]⟩, .slice none 0 0, .slice none 0 0, .string ⟨#[]⟩, .int .i64 0, .int .i64 0] 51)).alloc (.cells #[.string ⟨#[]⟩, .slice none 0 0, .slice none 0 0, .string ⟨#[]⟩, .int .i64 0, .int .i64 0] 51) = W1 ∧ CB W1 w.heap.size [.string x.nm, .slice a1 x.ps.length c1, .slice a2 x.sl.length c2, .string x.ad, .int .i64 x.si, .int .i64 x.st] ∧ CB W1 (w.heap.size + 1) [.string ⟨#[]⟩, .slice none 0 0, .slice none 0 0, .string ⟨#[]⟩, .int .i64 0, .int .i64 0] ∧ CB W1 (w.heap.size + 2) [.string ⟨#[]⟩, .slice none 0 0, .slice none 0 0, .string ⟨#[]⟩, .int .i64 0, .int .i64 0] ∧ Below w.heap.size w W1 ∧ W1.heap.size = w.heap.size + 3 := ⟨_, rfl, cb3 w [.string x.nm, .slice a1 x.ps.length c1, .slice a2 x.sl.length c2, .string x.ad, .int .i64 x.si, .int .i64 x.st] [.string ⟨#[]⟩, .slice none 0 0, .slice none 0 0, .string ⟨#[]⟩, .int .i64 0, .int .i64 0] [.string ⟨#[]⟩, .slice none 0 0, .slice none 0 0, .string ⟨#[]⟩, .int .i64 0, .int .i64 0] _ _ _⟩
  rw [hW1]
  clear hW1
  obtain ⟨W2, hW2, kP2, kR2, kO2, hB2, hs2⟩ : ∃ W2, W1.setCell ⟨w.heap.size + 2, 0, none⟩ (.string x.nm) = W2 ∧ CB W2 w.heap.size [.string x.nm, .slice a1 x.ps.length c1, .slice a2 x.sl.length c2, .string x.ad, .int .i64 x.si, .int .i64 x.st] ∧ CB W2 (w.heap.size + 1) [.string ⟨#[]⟩, .slice none 0 0, .slice none 0 0, .string ⟨#[]⟩, .int .i64 0, .int .i64 0] ∧ CB W2 (w.heap.size + 2) [.string x.nm, .slice none 0 0, .slice none 0 0, .string ⟨#[]⟩, .int .i64 0, .int .i64 0] ∧ Below w.heap.size w W2 ∧ W2.heap.size = w.heap.size + 3 := ⟨_, rfl, kP.other (by omega), kR.other (by omega), kO.set (j := 0) (by simp), hB1.setCell (p := ⟨w.heap.size + 2, 0, none⟩) (by simp) _, by simpa using hs1⟩
  obtain ⟨p0, p1, p2, p3, p4, p5⟩ := kP.c6
  obtain ⟨o0, o1, o2, o3, o4, o5⟩ := kO.c6
  obtain ⟨f0, f1, f2, f3, f4, f5⟩ := kO.f6
  go_upto_region 3 with fail
  try rw [hW2]
  clear hW2 p0 p1 p2 p3 p4 p5 o0 o1 o2 o3 o4 o5 f0 f1 f2 f3 f4 f5 kP kR kO hB1 hs1
  obtain ⟨p0, p1, p2, p3, p4, p5⟩ := kP2.c6
  go_wp2_with fail
  refine (toS_src x.ps _ _ (h.r.up hB2) np).mono ?_
  rintro e w3 ⟨⟨b1, rfl, ho1, hb1⟩, hb3⟩
  rw [hs2] at hb1
  have hz3 := hb3.size
  have kP3 := kP2.up hb3 (by omega)
  have kR3 := kR2.up hb3 (by omega)
  have kO3 := kO2.up hb3 (by omega)
  have hB3 := up_trans hB2 hb3
  clear p0 p1 p2 p3 p4 p5 kP2 kR2 kO2 hB2 hb3
  obtain ⟨W4, hW4, kP4, kR4, kO4, ho4, hB4, hs4⟩ : ∃ W4, w3.setCell ⟨w.heap.size + 2, 1, none⟩ (.slice (some ⟨b1, 0, none⟩) x.ps.length x.ps.length) = W4 ∧ CB W4 w.heap.size [.string x.nm, .slice a1 x.ps.length c1, .slice a2 x.sl.length c2, .string x.ad, .int .i64 x.si, .int .i64 x.st] ∧ CB W4 (w.heap.size + 1) [.string ⟨#[]⟩, .slice none 0 0, .slice none 0 0, .string ⟨#[]⟩, .int .i64 0, .int .i64 0] ∧ CB W4 (w.heap.size + 2) [.string x.nm, .slice (some ⟨b1, 0, none⟩) x.ps.length x.ps.length, .slice none 0 0, .string ⟨#[]⟩, .int .i64 0, .int .i64 0] ∧ Own W4 b1 x.ps ∧ Below w.heap.size w W4 ∧ W4.heap.size = w3.heap.size :=
    ⟨_, rfl, kP3.other (by omega), kR3.other (by omega), kO3.set (j := 1) (by simp), ho1.other (by omega), hB3.setCell (p := ⟨w.heap.size + 2, 1, none⟩) (by simp) _, by simp⟩
  obtain ⟨o0, o1, o2, o3, o4, o5⟩ := kO3.c6
  obtain ⟨f0, f1, f2, f3, f4, f5⟩ := kO3.f6
  go_upto_region 4 with fail
  try rw [hW4]
  clear hW4 o0 o1 o2 o3 o4 o5 f0 f1 f2 f3 f4 f5 kP3 kR3 kO3 hB3
  have hlt4 := ho4.2.2
  clear ho1
  obtain ⟨p0, p1, p2, p3, p4, p5⟩ := kP4.c6
  go_wp2_with fail
  refine (toSlots_src x.sl _ _ (h.s.up hB4) ns).mono ?_
  rintro e w5 ⟨⟨b2, rfl, ho2, hb2⟩, hb5⟩
  have hz5 := hb5.size
  have kP5 := kP4.up hb5 (by omega)
  have kR5 := kR4.up hb5 (by omega)
  have kO5 := kO4.up hb5 (by omega)
  have hO5 : RbO w5 (w.heap.size + 3) x b1 b2 := ⟨ho4.up hb5, ho2, hb1, Nat.lt_of_lt_of_le hlt4 hb2⟩
  have hB5 := up_trans hB4 hb5
  clear p0 p1 p2 p3 p4 p5 kP4 kR4 kO4 hB4 hb5 ho4 ho2
  obtain ⟨p0, p1, p2, p3, p4, p5⟩ := kP5.c6
  obtain ⟨o0, o1, o2, o3, o4, o5⟩ := kO5.c6
  obtain ⟨f0, f1, f2, f3, f4, f5⟩ := kO5.f6
  obtain ⟨r0, r1, r2, r3, r4, r5⟩ := kR5.c6
  obtain ⟨g0, g1, g2, g3, g4, g5⟩ := kR5.f6
  have hR6 := (((kR5.other (q := w.heap.size + 2) (j := 2) (u := .slice (some ⟨b2, 0, none⟩) x.sl.length x.sl.length) (by omega)).other (q := w.heap.size + 2) (j := 3) (u := .string x.ad) (by omega)).other (q := w.heap.size + 2) (j := 4) (u := .int .i64 x.si) (by omega)).other (q := w.heap.size + 2) (j := 5) (u := .int .i64 x.st) (by omega)
  go_wp2_with fail
  refine end_cb6 Tryz.results54 Tryz.underlying51 rfl sizeRb hR6 rfl ?_
  refine ⟨⟨b1, b2, rfl, ?_⟩, ?_⟩
  · exact ((((((((((hO5.set (by omega)).set (by omega)).set (by omega)).set (by omega)).set (by omega)).set (by omega)).set (by omega)).set (by omega)).set (by omega)).set (by omega)).low (by omega)
  · exact (((((((((hB5.setCell (p := ⟨w.heap.size + 2, 2, none⟩) (by simp) _).setCell (p := ⟨w.heap.size + 2, 3, none⟩) (by simp) _).setCell (p := ⟨w.heap.size + 2, 4, none⟩) (by simp) _).setCell (p := ⟨w.heap.size + 2, 5, none⟩) (by simp) _).setCell (p := ⟨w.heap.size + 1, 0, none⟩) (by simp) _).setCell (p := ⟨w.heap.size + 1, 1, none⟩) (by simp) _).setCell (p := ⟨w.heap.size + 1, 2, none⟩) (by simp) _).setCell (p := ⟨w.heap.size + 1, 3, none⟩) (by simp) _).setCell (p := ⟨w.heap.size + 1, 4, none⟩) (by simp) _).setCell (p := ⟨w.heap.size + 1, 5, none⟩) (by simp) _

set_option maxRecDepth 20000 in
set_option maxHeartbeats 4000000 in
theorem eqRb_any (x : Rb) (p1 p2 q1 q2 base base' : Nat) (w : World) (h : RbO w base x p1 p2) (h' : RbO w base' x q1 q2) (np : x.ps.length ≤ 1048576) (ns : x.sl.length ≤ 1048576) :
    Calls Tryz.prog 70 #[.agg #[.string x.nm, .slice (some ⟨p1, 0, none⟩) x.ps.length x.ps.length, .slice (some ⟨p2, 0, none⟩) x.sl.length x.sl.length, .string x.ad, .int .i64 x.si, .int .i64 x.st], .agg #[.string x.nm, .slice (some ⟨q1, 0, none⟩) x.ps.length x.ps.length, .slice (some ⟨q2, 0, none⟩) x.sl.length x.sl.length, .string x.ad, .int .i64 x.si, .int .i64 x.st]] w fun e w' => e = .returned (.bool true) ∧ Below w.heap.size w w' := by
  go_enter Tryz.func70, Tryz.ntmps70
  go_upto_region 1 with fail
  obtain ⟨W1, hW1, kP, kR, hB1, hs1⟩ : ∃ W1, (w.alloc (.cells #[.string x.nm, .slice (some ⟨p1, 0, none⟩) x.ps.length x.ps.length, .slice (some ⟨p2, 0, none⟩) x.sl.length x.sl.length, .string x.ad, .int .i64 x.si, .int .i64 x.st] 51)).alloc (.cells #[.string x.nm, .slice (some ⟨q1, 0, none⟩) x.ps.length x.ps.length, .slice (some ⟨q2, 0, none⟩) x.sl.length x.sl.length, .string x.ad, .int .i64 x.si, .int .i64 x.st] 51) = W1 ∧ CB W1 w.heap.size (#[.string x.nm, .slice (some ⟨p1, 0, none⟩) x.ps.length x.ps.length, .slice (some ⟨p2, 0, none⟩) x.sl.length x.sl.length, .string x.ad, .int .i64 x.si, .int .i64 x.st]).toList ∧ CB W1 (w.heap.size + 1) (#[.string x.nm, .slice (some ⟨q1, 0, none⟩) x.ps.length x.ps.length, .slice (some ⟨q2, 0, none⟩) x.sl.length x.sl.length, .string x.ad, .int .i64 x.si, .int .i64 x.st]).toList ∧ Below w.heap.size w W1 ∧ W1.heap.size = w.heap.size + 2 := ⟨_, rfl, cb2 w (#[.string x.nm, .slice (some ⟨p1, 0, none⟩) x.ps.length x.ps.length, .slice (some ⟨p2, 0, none⟩) x.sl.length x.sl.length, .string x.ad, .int .i64 x.si, .int .i64 x.st]).toList (#[.string x.nm, .slice (some ⟨q1, 0, none⟩) x.ps.length x.ps.length, .slice (some ⟨q2, 0, none⟩) x.sl.length x.sl.length, .string x.ad, .int .i64 x.si, .int .i64 x.st]).toList _ _⟩
  rw [hW1]
  clear hW1
  obtain ⟨d0, d1, d2, d3, d4, d5⟩ := kP.c6
  obtain ⟨e0, e1, e2, e3, e4, e5⟩ := kR.c6
  have o1 := h.r.up hB1
  have o2 := h'.r.up hB1
  go_wp2_with fail
  refine (eqS_any x.ps p1 q1 _ _ _ o1.1 o1.2.2 o2.1 o2.2.2 np).mono ?_
  rintro e w2 ⟨rfl, hB2⟩
  have hB12 := up_trans hB1 hB2
  clear d0 d1 d2 d3 d4 d5 e0 e1 e2 e3 e4 e5
  obtain ⟨d0, d1, d2, d3, d4, d5⟩ := (kP.up hB2 (by omega)).c6
  obtain ⟨e0, e1, e2, e3, e4, e5⟩ := (kR.up hB2 (by omega)).c6
  have s1 := h.s.up hB12
  have s2 := h'.s.up hB12
  go_wp2_with fail
  refine (eqSlots_any x.sl p2 q2 _ _ _ s1.1 s1.2.2 s2.1 s2.2.2 ns).mono ?_
  rintro e w3 ⟨rfl, hB3⟩
  have hB13 := up_trans hB12 hB3
  clear d0 d1 d2 d3 d4 d5 e0 e1 e2 e3 e4 e5
  obtain ⟨d0, d1, d2, d3, d4, d5⟩ := (kP.up (up_trans hB2 hB3) (by omega)).c6
  obtain ⟨e0, e1, e2, e3, e4, e5⟩ := (kR.up (up_trans hB2 hB3) (by omega)).c6
  go_wp2_with fail
  go_ret
  exact ⟨rfl, hB13⟩
end Go.Proofs.YtlkpgiifdclijaaGreatDoor

/- The laws' copies of those that ended; lists of batches: their sizes. -/
namespace Go.Proofs.YtlkpgiifdclijaaGreatDoor
open Go.RowKit

theorem infoDone : (Tryz.prog.info? 77).map (fun i => (i.zero, i.size, i.bytes)) = some (some (.agg #[.string ⟨#[]⟩, .int .i64 0, .int .i64 0]), 3, 32) := by kernel_rfl
theorem sizeDone : (Tryz.prog.info? 77).map (·.size) = some 3 := by kernel_rfl
theorem run_makeDones (n : Nat) (hn : n ≤ 1048576) : ∃ C : Array Value, C.size = n * 3 ∧ ∀ w, (Instr.makeSlice 36 (.int .i64 (n : Int)) (.int .i64 (n : Int))).run Tryz.prog w = .ok (.slice (some ⟨w.heap.size, 0, none⟩) n n) (w.alloc (.cells C 77)) := by
  obtain ⟨i, hi, hz⟩ := Option.map_eq_some_iff.1 infoDone
  simp only [Prod.mk.injEq] at hz
  obtain ⟨hz, hs, hb⟩ := hz
  refine ⟨madeCells (Value.agg #[.string ⟨#[]⟩, .int .i64 0, .int .i64 0]).cells (n * 3), size_madeCells _ _, fun w => ?_⟩
  have := run_make (P := Tryz.prog) w 36 77 i _ Tryz.underlying36 hi hz .i64 .i64 (n : Int) (n : Int) (by omega) (by omega) (by rw [hb]; omega) (by omega)
  simp only [Int.toNat_natCast, hs] at this
  exact this
/-- They lie there up to place k. -/
def DnR (w : World) (b : Nat) (l : List Done) : Prop := ∀ (i : Nat) (x : Done), l[i]? = some x → w.rangeAt b (i * 3) x.cells
theorem dnR_store {w1 : World} {b k : Nat} {l : List Done} (hk : k < l.length) (h : DnR w1 b (l.take k)) (ht : w1.there b 0 (l.length * 3)) : DnR (w1.setCells b (k * 3) (l[k]).cells) b (l.take (k + 1)) := by
  intro i p hp
  by_cases hi : i < k
  · refine World.rangeAt_setCells_apart (h i p ?_) b (k * 3) _ (.inr (.inl ?_))
    · rw [List.getElem?_take] at hp ⊢; rw [if_pos (by omega)] at hp; rw [if_pos hi]; exact hp
    · simp [Done.cells]; omega
  · have hik : i = k := by
      rw [List.getElem?_take] at hp
      split at hp
      · omega
      · cases hp
    subst hik
    rw [List.getElem?_take, if_pos (by omega), List.getElem?_eq_getElem hk] at hp
    obtain rfl := Option.some.inj hp
    refine World.rangeAt_setCells_same _ _ _ _ (fun j hj => ?_)
    have := ht (i * 3 + j) (by simp [Done.cells] at hj; omega)
    simpa using this
theorem DnR.up {w w' : World} {b B : Nat} {l : List Done} (h : DnR w b l) (hb : Below B w w') (hB : b < B) : DnR w' b l := fun i x hx => range_up (h i x hx) hb hB
set_option maxHeartbeats 1000000 in
theorem toDones_any (l : List Done) (v : Value) (w : World) (h : Dns w v l) (hn : l.length ≤ 1048576) :
    Calls Tryz.prog 23 #[v] w fun e w' => (∃ b, e = .returned (.slice (some ⟨b, 0, none⟩) l.length l.length) ∧ Dns w' (.slice (some ⟨b, 0, none⟩) l.length l.length) l ∧ w.heap.size ≤ b) ∧ Below w.heap.size w w' := by
  have Hz : Hid (∀ x ∈ l, x.nm.size ≤ maxLen) := fun x hx => by
    obtain ⟨i, hi, rfl⟩ := List.getElem_of_mem hx
    obtain ⟨_, _, _, _, hpos⟩ := h
    obtain ⟨b, o, -, hr, -⟩ := hpos (by omega)
    exact (hr i _ (List.getElem?_eq_getElem hi)).2
  obtain ⟨a, c, rfl, hmax, hpos⟩ := h
  have Hmax : Hid (l.length ≤ maxLen) := hmax
  clear hmax
  obtain ⟨C, hC, hmk⟩ := run_makeDones l.length hn
  have HC : Hid (C.size = l.length * 3) := hC
  clear hC
  go_enter Tryz.func23, Tryz.ntmps23
  go_wp2
  go_loopw [4] (fun i w' => ∃ k : Nat, k ≤ l.length ∧ i = .int .i64 k ∧ DnR w' w.heap.size (l.take k) ∧ w'.there w.heap.size 0 (l.length * 3) ∧ w.heap.size < w'.heap.size ∧ Below w.heap.size w w') (fun i _ => l.length - (intOf i).toNat)
  case atStart => exact ⟨0, by omega, rfl, fun i p hp => by simp at hp, by rw [← HC.out]; exact there_alloc _ _ _, by simp, by go_grown⟩
  case round =>
    obtain ⟨k, hk, rfl, hra, hth, hlt, hB⟩ := hrel
    have Hra : Hid (DnR wr w.heap.size (l.take k)) := hra
    have Hth : Hid (wr.there w.heap.size 0 (l.length * 3)) := hth
    clear hra hth
    by_cases hp : k < l.length
    · obtain ⟨b, o, ha, hr, hb⟩ := hpos (by omega)
      subst ha
      obtain ⟨c0, c1, c2⟩ := hr.cells k hp
      obtain ⟨hc, hf⟩ := bcell hB
      have Hst : Hid (∀ w1, Below wr.heap.size wr w1 → DnR (w1.setCells w.heap.size (k * 3) (l[k]).cells) w.heap.size (l.take (k + 1))) := fun w1 hb1 => dnR_store hp (Hra.out.up hb1 hlt) (there_up Hth.out hb1 hlt)
      generalize l[k] = s0 at *
      go_wp2_with fail
      refine (toDone_any s0 _).mono ?_
      rintro e' w1 ⟨rfl, hb1⟩
      clear hc hf c0 c1 c2
      go_wp2_with (refine wpList_store_mid rfl 77 _ _ rfl w.heap.size (k * 3) _ rfl rfl (fun j hj => by
          have := there_up Hth.out hb1 hlt (k * 3 + j) (by simp at hj; omega)
          simpa using this) sizeDone (by simp [Value.oneCell']) ?_)
      go_roundw
      case rel => exact ⟨k + 1, by omega, by go_num, Hst.out w1 hb1, World.there_setCells (there_up Hth.out hb1 hlt) _ _ _, Nat.lt_of_lt_of_le (Nat.lt_of_lt_of_le hlt hb1.size) (size_setCells _ _ _ _), below_setCells _ _ _ _ _ _ (up_trans hB hb1) (Nat.le_refl _)⟩
      case measure => simp [intOf]; omega
    · have HD : Hid (DnR wr w.heap.size l) := by have := Hra.out; rwa [List.take_of_length_le (by omega)] at this
      go_wp2_with fail
      go_ret
      exact ⟨⟨_, rfl, ⟨_, _, rfl, Hmax.out, fun _ => ⟨w.heap.size, 0, rfl, fun i x hx => ⟨by rw [Nat.zero_add]; exact HD.out i x hx, Hz.out x (List.mem_of_getElem? hx)⟩, hlt⟩⟩, Nat.le_refl _⟩, hB⟩
set_option maxHeartbeats 1000000 in
theorem eqDones_any (l : List Done) (va vb : Value) (w : World) (ha : Dns w va l) (hb : Dns w vb l) :
    Calls Tryz.prog 33 #[va, vb] w fun e w' => e = .returned (.bool true) ∧ Below w.heap.size w w' := by
  obtain ⟨a1, k1, rfl, hmax, hp1⟩ := ha
  obtain ⟨a2, k2, rfl, -, hp2⟩ := hb
  unfold maxLen at hmax
  go_enter Tryz.func33, Tryz.ntmps33
  go_wp2
  go_loopw [5] (fun i w' => ∃ k : Nat, k ≤ l.length ∧ i = .int .i64 k ∧ Below w.heap.size w w') (fun i _ => l.length - (intOf i).toNat)
  case atStart => exact ⟨0, by omega, rfl, Below.refl _ _⟩
  case round =>
    obtain ⟨k, hk, rfl, hB⟩ := hrel
    by_cases hp : k < l.length
    · obtain ⟨b1, o1, e1, hr1, hb1⟩ := hp1 (by omega)
      obtain ⟨b2, o2, e2, hr2, hb2⟩ := hp2 (by omega)
      subst e1 e2
      obtain ⟨c0, c1, c2⟩ := hr1.cells k hp
      obtain ⟨d0, d1, d2⟩ := hr2.cells k hp
      obtain ⟨hc, hf⟩ := bcell hB
      generalize l[k] = s0 at *
      go_wp2_with fail
      go_region_with (go_at_call 71; refine (eqDone_any s0 _).mono ?_; rintro e w1 ⟨rfl, hbx⟩)
      all_goals
        have hB1 := up_trans hB.drew hbx
        clear hc hf c0 c1 c2 d0 d1 d2
        go_wp2_with fail
        go_roundw
        case rel => exact ⟨k + 1, by omega, by go_num, hB1⟩
        case measure => simp [intOf]; omega
    · go_wp2_with fail
      go_ret
      exact ⟨rfl, hB⟩
end Go.Proofs.YtlkpgiifdclijaaGreatDoor

/- The laws' sizes of lists of batches. -/
namespace Go.Proofs.YtlkpgiifdclijaaGreatDoor
open Go.RowKit

/-- A list of batches as it is handed to a law. -/
def RsAt (w : World) (b o : Nat) (bs : List Rb) : Prop := ∀ (i : Nat) (x : Rb), bs[i]? = some x → ∃ rv sv, w.rangeAt b (o + i * 6) [.string x.nm, rv, sv, .string x.ad, .int .i64 x.si, .int .i64 x.st] ∧ RbSrc w x rv sv
def RsSrc (w : World) (v : Value) (bs : List Rb) : Prop := ∃ a c, v = .slice a bs.length c ∧ bs.length ≤ maxLen ∧ (0 < bs.length → ∃ b o, a = some ⟨b, o, none⟩ ∧ RsAt w b o bs ∧ b < w.heap.size)
theorem RsAt.up {w w' : World} {b o : Nat} {bs : List Rb} (h : RsAt w b o bs) (hb : Below w.heap.size w w') (hB : b < w.heap.size) : RsAt w' b o bs := fun i x hx => by
  obtain ⟨rv, sv, h1, h2⟩ := h i x hx
  exact ⟨rv, sv, range_up h1 hb hB, h2.up hb⟩
theorem RsSrc.up {w w' : World} {v : Value} {bs : List Rb} (h : RsSrc w v bs) (hb : Below w.heap.size w w') : RsSrc w' v bs := by
  obtain ⟨a, c, rfl, h1, h2⟩ := h
  exact ⟨a, c, rfl, h1, fun hp => by obtain ⟨b, o, e, hr, hlt⟩ := h2 hp; exact ⟨b, o, e, hr.up hb hlt, Nat.lt_of_lt_of_le hlt hb.size⟩⟩
theorem RsAt.open {w : World} {b o : Nat} {bs : List Rb} (h : RsAt w b o bs) {k : Nat} (hk : k < bs.length) : ∃ a1 c1 a2 c2, (w.cell? ⟨b, o + k * 6, none⟩ = some (.string (bs[k]).nm) ∧ w.cell? ⟨b, o + k * 6 + 1, none⟩ = some (.slice a1 (bs[k]).ps.length c1) ∧ w.cell? ⟨b, o + k * 6 + 2, none⟩ = some (.slice a2 (bs[k]).sl.length c2) ∧ w.cell? ⟨b, o + k * 6 + 3, none⟩ = some (.string (bs[k]).ad) ∧ w.cell? ⟨b, o + k * 6 + 4, none⟩ = some (.int .i64 (bs[k]).si) ∧ w.cell? ⟨b, o + k * 6 + 5, none⟩ = some (.int .i64 (bs[k]).st)) ∧ RbSrc w bs[k] (.slice a1 (bs[k]).ps.length c1) (.slice a2 (bs[k]).sl.length c2) := by
  obtain ⟨rv, sv, hr, hv⟩ := h k _ (List.getElem?_eq_getElem hk)
  obtain ⟨a1, c1, rfl⟩ := hv.r.shape
  obtain ⟨a2, c2, rfl⟩ := hv.s.shape
  exact ⟨a1, c1, a2, c2, ⟨hr 0 _ rfl, hr 1 _ rfl, hr 2 _ rfl, hr 3 _ rfl, hr 4 _ rfl, hr 5 _ rfl⟩, hv⟩
def RsSmall (bs : List Rb) (k : Nat) : Prop := ∀ (i : Nat) (x : Rb), i < k → bs[i]? = some x → x.ps.length ≤ 1048576 ∧ x.sl.length ≤ 1048576
set_option maxRecDepth 20000 in
set_option maxHeartbeats 2000000 in
theorem szRbs_any (bs : List Rb) (v : Value) (l : Int) (w : World) (hl : 0 ≤ l) (hl' : l ≤ 1048576) (h : RsSrc w v bs) :
    Calls Tryz.prog 13 #[v, .int .i64 l] w
      fun e' w' => (∃ x : Int, e' = .returned (.int .i64 x) ∧ (0 ≤ x → (bs.length : Int) ≤ l ∧ RsSmall bs bs.length) ∧ x ≤ 1048576) ∧ Below w.heap.size w w' := by
  obtain ⟨a, c, rfl, hn, hpos⟩ := h
  unfold maxLen at hn
  by_cases h0 : l - bs.length < 0
  · go_enter Tryz.func13, Tryz.ntmps13
    go_wp2
    go_ret
    exact ⟨⟨_, rfl, by omega, by omega⟩, Below.refl _ _⟩
  have H0 : Hid ((bs.length : Int) ≤ l) := by show _ ≤ _; omega
  go_enter Tryz.func13, Tryz.ntmps13
  go_wp2
  go_loopw [1, 5] (fun x i w' => ∃ (k : Nat) (y : Int), k ≤ bs.length ∧ i = .int .i64 k ∧ x = .int .i64 y ∧ 0 ≤ y ∧ y ≤ 1048576 ∧ RsSmall bs k ∧ Below w.heap.size w w') (fun _ i _ => bs.length - (intOf i).toNat)
  case atStart => exact ⟨0, _, by omega, rfl, rfl, by omega, by omega, fun i x hi => by omega, Below.refl _ _⟩
  case round =>
    obtain ⟨k, y, hk, rfl, rfl, hy, hy', hsm, hB⟩ := hrel
    have Hsm : Hid (RsSmall bs k) := hsm
    clear hsm
    by_cases hp : k < bs.length
    · obtain ⟨b, o, ha, hr, hb⟩ := hpos (by omega)
      subst ha
      obtain ⟨a1, c1, a2, c2, ⟨e0, e1, e2, e3, e4, e5⟩, hv⟩ := (hr.up hB hb).open hp
      have YES : Hid ((bs[k]).ps.length ≤ 1048576 ∧ (bs[k]).sl.length ≤ 1048576 → RsSmall bs (k + 1)) := fun hy => to_step (P := fun _ (x : Rb) => x.ps.length ≤ 1048576 ∧ x.sl.length ≤ 1048576) Hsm.out hp hy
      generalize bs[k] = x0 at *
      clear hr
      go_wp2_with fail
      refine (szRb_any x0 _ _ _ hv _ hy hy').mono ?_
      rintro e' w1 ⟨⟨x, rfl, hx1, hx2⟩, hb1⟩
      have hB1 := up_trans hB hb1
      clear e0 e1 e2 e3 e4 e5
      by_cases hx : x < 0
      · go_wp2_with fail
        go_ret
        exact ⟨⟨_, rfl, by omega, by omega⟩, hB1⟩
      · have HY : Hid (RsSmall bs (k + 1)) := YES.out ⟨(hx1 (by omega)).1, (hx1 (by omega)).2.1⟩
        clear hx1
        go_wp2_with fail
        go_roundw
        case rel => exact ⟨k + 1, x, by omega, by go_num, rfl, by omega, by omega, HY.out, hB1⟩
        case measure => simp [intOf]; omega
    · have HY : Hid (RsSmall bs bs.length) := by
        have := Hsm.out
        rwa [show k = bs.length by omega] at this
      go_wp2_with fail
      go_ret
      exact ⟨⟨_, rfl, fun _ => ⟨H0.out, HY.out⟩, hy'⟩, hB⟩
end Go.Proofs.YtlkpgiifdclijaaGreatDoor
