/- The laws' copies of houses. -/
import Derived.Test.YtlkpgiifdclijaaGreatDoorJ38
import Derived.Test.YtlkpgiifdclijaaGreatDoorRows
import Derived.Test.YtlkpgiifdclijaaGreatDoorJ0
import Derived.ProofKit
import Derived.OpenShut
import Derived.OpenVars
import Derived.LaidLaws
import Derived.Lib.LaidTab
import Derived.ChangeBears2
import Derived.Deep.DeepHandedRow
namespace Go.Proofs.YtlkpgiifdclijaaGreatDoor
open Go.RowKit

theorem sizeHouse : (Tryz.prog.info? 38).map (·.size) = some 6 := by kernel_rfl
theorem RsO.set {w : World} {b r j : Nat} {u : Value} {bs : List Rb} (h : RsO w b bs) (hr : r < b) : RsO (w.setCell ⟨r, j, none⟩ u) b bs := fun i x hx => by
  obtain ⟨b1, b2, h1, h2⟩ := h i x hx
  refine ⟨b1, b2, fun k v hv => ?_, h2.set (by omega)⟩
  rw [World.cell?_setCell_other _ _ _ _ (by simp <;> omega)]; exact h1 k v hv
/-- Those that ended, in a block of their own. -/
def DnO (w : World) (b : Nat) (l : List Done) : Prop := Dns w (.slice (some ⟨b, 0, none⟩) l.length l.length) l
theorem DnO.set {w : World} {b r j : Nat} {u : Value} {l : List Done} (h : DnO w b l) (hr : r ≠ b) : DnO (w.setCell ⟨r, j, none⟩ u) b l := by
  obtain ⟨a, c, e, hm, hpos⟩ := h
  simp only [Value.slice.injEq] at e
  obtain ⟨rfl, -, rfl⟩ := e
  refine ⟨_, _, rfl, hm, fun hp => ?_⟩
  obtain ⟨g, o, e, hat, hlt⟩ := hpos hp
  simp only [Option.some.injEq, Addr.mk.injEq] at e
  obtain ⟨rfl, rfl, -⟩ := e
  refine ⟨_, _, rfl, fun i d hd => ⟨fun k v hv => ?_, (hat i d hd).2⟩, by simpa using hlt⟩
  rw [World.cell?_setCell_other _ _ _ _ (by simp <;> omega)]; exact (hat i d hd).1 k v hv
set_option maxRecDepth 20000 in
set_option maxHeartbeats 8000000 in
theorem toHouse_any (h : House) (tv bv xv dv : Value) (w : World) (H : HSrc w h tv bv xv dv) (hm : HSmall h) :
    Calls Tryz.prog 7 #[.agg #[.int .i64 h.now, .int .i64 h.last, tv, bv, xv, dv]] w fun e w' => (∃ tu bu b du, e = .returned (.agg #[.int .i64 h.now, .int .i64 h.last, tu, bu, .slice (some ⟨b, 0, none⟩) h.bs.length h.bs.length, du]) ∧ HC w' h tu bu b du) ∧ Below w.heap.size w w' := by
  obtain ⟨a1, c1, a2, c2, a3, c3, a4, c4, rfl, rfl, rfl, rfl⟩ := H.shapes
  go_enter Tryz.func7, Tryz.ntmps7
  go_upto_region 2 with fail
  obtain ⟨W1, hW1, kP, kR, kO, hB1, hs1⟩ : ∃ W1, ((w.alloc (.cells #[.int .i64 h.now, .int .i64 h.last, .slice a1 h.sh.things.length c1, .slice a2 h.sh.bs.length c2, .slice a3 h.bs.length c3, .slice a4 h.ds.length c4] 29)).alloc (.cells #[.int .i64 0, .int .i64 0, .slice none 0 0, .slice none 0 0, .slice none 0 0, .slice none 0 0] 38)).alloc (.cells #[.int .i64 0, .int .i64 0, .slice none 0 0, .slice none 0 0, .slice none 0 0, .slice none 0 0] 38) = W1 ∧ CB W1 w.heap.size [.int .i64 h.now, .int .i64 h.last, .slice a1 h.sh.things.length c1, .slice a2 h.sh.bs.length c2, .slice a3 h.bs.length c3, .slice a4 h.ds.length c4] ∧ CB W1 (w.heap.size + 1) [.int .i64 0, .int .i64 0, .slice none 0 0, .slice none 0 0, .slice none 0 0, .slice none 0 0] ∧ CB W1 (w.heap.size + 2) [.int .i64 0, .int .i64 0, .slice none 0 0, .slice none 0 0, .slice none 0 0, .slice none 0 0] ∧ Below w.heap.size w W1 ∧ W1.heap.size = w.heap.size + 3 := ⟨_, rfl, cb3 w [.int .i64 h.now, .int .i64 h.last, .slice a1 h.sh.things.length c1, .slice a2 h.sh.bs.length c2, .slice a3 h.bs.length c3, .slice a4 h.ds.length c4] [.int .i64 0, .int .i64 0, .slice none 0 0, .slice none 0 0, .slice none 0 0, .slice none 0 0] [.int .i64 0, .int .i64 0, .slice none 0 0, .slice none 0 0, .slice none 0 0, .slice none 0 0] _ _ _⟩
  rw [hW1]
  clear hW1
  obtain ⟨W2, hW2, kP2, kR2, kO2, hB2, hs2⟩ : ∃ W2, (W1.setCell ⟨w.heap.size + 2, 0, none⟩ (.int .i64 h.now)).setCell ⟨w.heap.size + 2, 1, none⟩ (.int .i64 h.last) = W2 ∧ CB W2 w.heap.size [.int .i64 h.now, .int .i64 h.last, .slice a1 h.sh.things.length c1, .slice a2 h.sh.bs.length c2, .slice a3 h.bs.length c3, .slice a4 h.ds.length c4] ∧ CB W2 (w.heap.size + 1) [.int .i64 0, .int .i64 0, .slice none 0 0, .slice none 0 0, .slice none 0 0, .slice none 0 0] ∧ CB W2 (w.heap.size + 2) [.int .i64 h.now, .int .i64 h.last, .slice none 0 0, .slice none 0 0, .slice none 0 0, .slice none 0 0] ∧ Below w.heap.size w W2 ∧ W2.heap.size = w.heap.size + 3 := ⟨_, rfl, (kP.other (by omega)).other (by omega), (kR.other (by omega)).other (by omega), (kO.set (j := 0) (by simp)).set (j := 1) (by simp), below_set1 (below_set1 hB1 (by omega) _) (by omega) _, by simpa using hs1⟩
  obtain ⟨p0, p1, p2, p3, p4, p5⟩ := kP.c6
  obtain ⟨o0, o1, o2, o3, o4, o5⟩ := kO.c6
  obtain ⟨f0, f1, f2, f3, f4, f5⟩ := kO.f6
  go_upto_region 4 with fail
  try rw [hW2]
  clear hW2 p0 p1 p2 p3 p4 p5 o0 o1 o2 o3 o4 o5 f0 f1 f2 f3 f4 f5 kP kR kO hB1 hs1
  obtain ⟨p0, p1, p2, p3, p4, p5⟩ := kP2.c6
  go_wp2_with fail
  refine (toBook_any h.sh _ _ (H.up hB2).book hm.k).mono ?_
  rintro e w3 ⟨⟨u, rfl, tu, bu, mid, rfl, ho1, ho2, hmid, -⟩, hb3⟩
  rw [hs2] at ho1 hmid
  obtain ⟨b1, e1⟩ := ho1.shape
  obtain ⟨b2, e2⟩ := ho2.shape
  subst e1 e2
  replace ho2 := ho2.low hmid
  have hz3 := hb3.size
  have kP3 := kP2.up hb3 (by omega)
  have kR3 := kR2.up hb3 (by omega)
  have kO3 := kO2.up hb3 (by omega)
  have hB3 := up_trans hB2 hb3
  clear p0 p1 p2 p3 p4 p5 kP2 kR2 kO2 hB2 hb3 hmid
  obtain ⟨W4, hW4, kP4, kR4, kO4, ho4, hq4, hB4, hs4⟩ : ∃ W4, (w3.setCell ⟨w.heap.size + 2, 2, none⟩ (.slice (some ⟨b1, 0, none⟩) h.sh.things.length h.sh.things.length)).setCell ⟨w.heap.size + 2, 3, none⟩ (.slice (some ⟨b2, 0, none⟩) h.sh.bs.length h.sh.bs.length) = W4 ∧ CB W4 w.heap.size [.int .i64 h.now, .int .i64 h.last, .slice a1 h.sh.things.length c1, .slice a2 h.sh.bs.length c2, .slice a3 h.bs.length c3, .slice a4 h.ds.length c4] ∧ CB W4 (w.heap.size + 1) [.int .i64 0, .int .i64 0, .slice none 0 0, .slice none 0 0, .slice none 0 0, .slice none 0 0] ∧ CB W4 (w.heap.size + 2) [.int .i64 h.now, .int .i64 h.last, .slice (some ⟨b1, 0, none⟩) h.sh.things.length h.sh.things.length, .slice (some ⟨b2, 0, none⟩) h.sh.bs.length h.sh.bs.length, .slice none 0 0, .slice none 0 0] ∧ LsO W4 (w.heap.size + 3) (.slice (some ⟨b1, 0, none⟩) h.sh.things.length h.sh.things.length) h.sh.things ∧ BsO W4 (w.heap.size + 3) (.slice (some ⟨b2, 0, none⟩) h.sh.bs.length h.sh.bs.length) h.sh.bs ∧ Below w.heap.size w W4 ∧ W4.heap.size = w3.heap.size := ⟨_, rfl, (kP3.other (by omega)).other (by omega), (kR3.other (by omega)).other (by omega), (kO3.set (j := 2) (by simp)).set (j := 3) (by simp), (ho1.set (by omega)).set (by omega), (ho2.set (by omega)).set (by omega), below_set1 (below_set1 hB3 (by omega) _) (by omega) _, by simp⟩
  obtain ⟨o0, o1, o2, o3, o4, o5⟩ := kO3.c6
  obtain ⟨f0, f1, f2, f3, f4, f5⟩ := kO3.f6
  go_upto_region 5 with fail
  try rw [hW4]
  clear hW4 o0 o1 o2 o3 o4 o5 f0 f1 f2 f3 f4 f5 kP3 kR3 kO3 hB3 ho1 ho2
  obtain ⟨p0, p1, p2, p3, p4, p5⟩ := kP4.c6
  go_wp2_with fail
  refine (toRbs_any h.bs _ _ (H.up hB4).x hm.n hm.x).mono ?_
  rintro e w5 ⟨⟨b, rfl, hx5, hl5, hlt5⟩, hb5⟩
  have hz5 := hb5.size
  have kP5 := kP4.up hb5 (by omega)
  have kR5 := kR4.up hb5 (by omega)
  have kO5 := kO4.up hb5 (by omega)
  have ho5 := ho4.up hb5
  have hq5 := hq4.up hb5
  have hB5 := up_trans hB4 hb5
  clear p0 p1 p2 p3 p4 p5 kP4 kR4 kO4 hB4 hb5 ho4 hq4
  obtain ⟨W6, hW6, kP6, kR6, kO6, ho6, hq6, hx6, hB6, hs6⟩ : ∃ W6, w5.setCell ⟨w.heap.size + 2, 4, none⟩ (.slice (some ⟨b, 0, none⟩) h.bs.length h.bs.length) = W6 ∧ CB W6 w.heap.size [.int .i64 h.now, .int .i64 h.last, .slice a1 h.sh.things.length c1, .slice a2 h.sh.bs.length c2, .slice a3 h.bs.length c3, .slice a4 h.ds.length c4] ∧ CB W6 (w.heap.size + 1) [.int .i64 0, .int .i64 0, .slice none 0 0, .slice none 0 0, .slice none 0 0, .slice none 0 0] ∧ CB W6 (w.heap.size + 2) [.int .i64 h.now, .int .i64 h.last, .slice (some ⟨b1, 0, none⟩) h.sh.things.length h.sh.things.length, .slice (some ⟨b2, 0, none⟩) h.sh.bs.length h.sh.bs.length, .slice (some ⟨b, 0, none⟩) h.bs.length h.bs.length, .slice none 0 0] ∧ LsO W6 (w.heap.size + 3) (.slice (some ⟨b1, 0, none⟩) h.sh.things.length h.sh.things.length) h.sh.things ∧ BsO W6 (w.heap.size + 3) (.slice (some ⟨b2, 0, none⟩) h.sh.bs.length h.sh.bs.length) h.sh.bs ∧ RsO W6 b h.bs ∧ Below w.heap.size w W6 ∧ W6.heap.size = w5.heap.size := ⟨_, rfl, kP5.other (by omega), kR5.other (by omega), kO5.set (j := 4) (by simp), ho5.set (by omega), hq5.set (by omega), hx5.set (by omega), below_set1 hB5 (by omega) _, by simp⟩
  obtain ⟨o0, o1, o2, o3, o4, o5⟩ := kO5.c6
  obtain ⟨f0, f1, f2, f3, f4, f5⟩ := kO5.f6
  go_upto_region 6 with fail
  try rw [hW6]
  clear hW6 o0 o1 o2 o3 o4 o5 f0 f1 f2 f3 f4 f5 kP5 kR5 kO5 hB5 ho5 hq5 hx5
  obtain ⟨p0, p1, p2, p3, p4, p5⟩ := kP6.c6
  go_wp2_with fail
  refine (toDones_any h.ds _ _ (H.up hB6).d hm.d).mono ?_
  rintro e w7 ⟨⟨g, rfl, hd7, hg7⟩, hb7⟩
  have hz7 := hb7.size
  have kR7 := kR6.up hb7 (by omega)
  have kO7 := kO6.up hb7 (by omega)
  have ho7 := ho6.up hb7
  have hq7 := hq6.up hb7
  have hx7 := hx6.up hb7 (by omega)
  have hB7 := up_trans hB6 hb7
  have hD7 : DnO w7 g h.ds := hd7
  clear p0 p1 p2 p3 p4 p5 kP6 kR6 kO6 hB6 hb7 ho6 hq6 hx6 hd7
  obtain ⟨o0, o1, o2, o3, o4, o5⟩ := kO7.c6
  obtain ⟨f0, f1, f2, f3, f4, f5⟩ := kO7.f6
  obtain ⟨r0, r1, r2, r3, r4, r5⟩ := kR7.c6
  obtain ⟨g0, g1, g2, g3, g4, g5⟩ := kR7.f6
  have hR8 := kR7.other (q := w.heap.size + 2) (j := 5) (u := .slice (some ⟨g, 0, none⟩) h.ds.length h.ds.length) (by omega)
  go_wp2_with fail
  refine end_cb6 Tryz.results7 Tryz.underlying38 rfl sizeHouse hR8 rfl ?_
  refine ⟨⟨_, _, b, _, rfl, ?_⟩, ?_⟩
  · exact ⟨(((((((ho7.set (by omega)).set (by omega)).set (by omega)).set (by omega)).set (by omega)).set (by omega)).set (by omega)).ls, (((((((hq7.set (by omega)).set (by omega)).set (by omega)).set (by omega)).set (by omega)).set (by omega)).set (by omega)).bs, ((((((hx7.set (by omega)).set (by omega)).set (by omega)).set (by omega)).set (by omega)).set (by omega)).set (by omega), by simp; omega, ((((((hD7.set (by omega)).set (by omega)).set (by omega)).set (by omega)).set (by omega)).set (by omega)).set (by omega)⟩
  · exact below_set1 (below_set1 (below_set1 (below_set1 (below_set1 (below_set1 (below_set1 hB7 (by omega) _) (by omega) _) (by omega) _) (by omega) _) (by omega) _) (by omega) _) (by omega) _
end Go.Proofs.YtlkpgiifdclijaaGreatDoor

/- Two houses that are alike. -/
namespace Go.Proofs.YtlkpgiifdclijaaGreatDoor
open Go.RowKit

set_option maxRecDepth 20000 in
set_option maxHeartbeats 4000000 in
theorem eqHouse_any (h : House) (t1 k1 d1 t2 k2 d2 : Value) (b1 b2 : Nat) (w : World) (H1 : HC w h t1 k1 b1 d1) (H2 : HC w h t2 k2 b2 d2) (hm : HSmall h) :
    Calls Tryz.prog 9 #[.agg #[.int .i64 h.now, .int .i64 h.last, t1, k1, .slice (some ⟨b1, 0, none⟩) h.bs.length h.bs.length, d1], .agg #[.int .i64 h.now, .int .i64 h.last, t2, k2, .slice (some ⟨b2, 0, none⟩) h.bs.length h.bs.length, d2]] w fun e w' => e = .returned (.bool true) ∧ Below w.heap.size w w' := by
  obtain ⟨a1, c1, a2, c2, a4, c4, rfl, rfl, rfl⟩ := H1.shapes
  obtain ⟨a5, c5, a6, c6, a8, c8, rfl, rfl, rfl⟩ := H2.shapes
  go_enter Tryz.func9, Tryz.ntmps9
  go_upto_region 1 with fail
  obtain ⟨W1, hW1, kP, kR, hB1, hs1⟩ : ∃ W1, (w.alloc (.cells #[.int .i64 h.now, .int .i64 h.last, .slice a1 h.sh.things.length c1, .slice a2 h.sh.bs.length c2, .slice (some ⟨b1, 0, none⟩) h.bs.length h.bs.length, .slice a4 h.ds.length c4] 38)).alloc (.cells #[.int .i64 h.now, .int .i64 h.last, .slice a5 h.sh.things.length c5, .slice a6 h.sh.bs.length c6, .slice (some ⟨b2, 0, none⟩) h.bs.length h.bs.length, .slice a8 h.ds.length c8] 38) = W1 ∧ CB W1 w.heap.size [.int .i64 h.now, .int .i64 h.last, .slice a1 h.sh.things.length c1, .slice a2 h.sh.bs.length c2, .slice (some ⟨b1, 0, none⟩) h.bs.length h.bs.length, .slice a4 h.ds.length c4] ∧ CB W1 (w.heap.size + 1) [.int .i64 h.now, .int .i64 h.last, .slice a5 h.sh.things.length c5, .slice a6 h.sh.bs.length c6, .slice (some ⟨b2, 0, none⟩) h.bs.length h.bs.length, .slice a8 h.ds.length c8] ∧ Below w.heap.size w W1 ∧ W1.heap.size = w.heap.size + 2 := ⟨_, rfl, cb2 w [.int .i64 h.now, .int .i64 h.last, .slice a1 h.sh.things.length c1, .slice a2 h.sh.bs.length c2, .slice (some ⟨b1, 0, none⟩) h.bs.length h.bs.length, .slice a4 h.ds.length c4] [.int .i64 h.now, .int .i64 h.last, .slice a5 h.sh.things.length c5, .slice a6 h.sh.bs.length c6, .slice (some ⟨b2, 0, none⟩) h.bs.length h.bs.length, .slice a8 h.ds.length c8] _ _⟩
  rw [hW1]
  clear hW1
  obtain ⟨e0, e1, e2, e3, e4, e5⟩ := kP.c6
  obtain ⟨f0, f1, f2, f3, f4, f5⟩ := kR.c6
  go_wp2_with fail
  refine (eqBook_any h.sh _ _ _ (H1.up hB1).book (H2.up hB1).book).mono ?_
  rintro e w2 ⟨rfl, hB2⟩
  have hB12 := up_trans hB1 hB2
  clear e0 e1 e2 e3 e4 e5 f0 f1 f2 f3 f4 f5
  obtain ⟨e0, e1, e2, e3, e4, e5⟩ := (kP.up hB2 (by omega)).c6
  obtain ⟨f0, f1, f2, f3, f4, f5⟩ := (kR.up hB2 (by omega)).c6
  have G1 := H1.up hB12
  have G2 := H2.up hB12
  go_wp2_with fail
  refine (eqRbs_any h.bs b1 b2 _ G1.x G1.l G2.x G2.l hm.n hm.x).mono ?_
  rintro e w3 ⟨rfl, hB3⟩
  have hB13 := up_trans hB12 hB3
  have hB23 := up_trans hB2 hB3
  clear e0 e1 e2 e3 e4 e5 f0 f1 f2 f3 f4 f5
  obtain ⟨e0, e1, e2, e3, e4, e5⟩ := (kP.up hB23 (by omega)).c6
  obtain ⟨f0, f1, f2, f3, f4, f5⟩ := (kR.up hB23 (by omega)).c6
  go_wp2_with fail
  refine (eqDones_any h.ds _ _ _ (G1.up hB3).d (G2.up hB3).d).mono ?_
  rintro e w4 ⟨rfl, hB4⟩
  have hB14 := up_trans hB13 hB4
  clear e0 e1 e2 e3 e4 e5 f0 f1 f2 f3 f4 f5
  go_wp2_with fail
  go_ret
  exact ⟨rfl, hB14⟩
end Go.Proofs.YtlkpgiifdclijaaGreatDoor

/- What opening an argument leans on: lists, cells, texts and numbers that can be read. -/
namespace Go.Proofs.YtlkpgiifdclijaaGreatDoor
open Go.ChangeShapes Go.WideShapes Go.ChangeAt Go.RowKit

theorem own : ownKnob Tryz.prog.godebug = none := by kernel_rfl
theorem laidOut : laidOutB Tryz.prog = true := by kernel_rfl
theorem cellsString : Tryz.prog.cellsOf 9 = 1 := by kernel_rfl
theorem cellsInt : Tryz.prog.cellsOf 3 = 1 := by kernel_rfl
theorem str_of_trod {H : Type} {enc : TypeId × Value → H} {w : World} {base : Nat} {sp : Nat → Bool} {held : Bool} {fuel : Nat} {c : Value} {y : DataW H × List MemPlace}
    (h : DataW.trod enc Tryz.prog w base sp held fuel 9 [c] = some y) : ∃ s : ByteArray, c = .string s ∧ y = (.lit (.string s.data.toList), []) ∧ s.size ≤ maxLen := by
  obtain ⟨s, hc, hy, hs⟩ := DataW.trod_string Tryz.underlying9 h
  simp only [List.cons.injEq, and_true] at hc
  exact ⟨s, hc, hy, hs⟩
theorem int_of_trod {H : Type} {enc : TypeId × Value → H} {w : World} {base : Nat} {sp : Nat → Bool} {held : Bool} {fuel : Nat} {c : Value} {y : DataW H × List MemPlace}
    (h : DataW.trod enc Tryz.prog w base sp held fuel 3 [c] = some y) : ∃ n : Int, c = .int .i64 n ∧ y = (.lit (.int .i64 n), []) ∧ (Lit.int .i64 n).wf = true := by
  obtain ⟨s, hc, hy, hs⟩ := DataW.trod_int Tryz.underlying3 h
  simp only [List.cons.injEq, and_true] at hc
  exact ⟨s, hc, hy, hs⟩
theorem ba_of_list {s : ByteArray} {l : List UInt8} (h : s.data.toList = l) : s = ⟨l.toArray⟩ := by cases s; simp_all [← h]
theorem one_var {H : Type} {enc : TypeId × Value → H} {W : World} {sp : Nat → Bool} {n : String} {gs : List (DataW H)} {q : List MemPlace} (h : DataW.TrodVars enc Tryz.prog W sp [n] gs q) : ∃ g, gs = [g] := by
  match gs, h with
  | [], h => exact h.elim
  | [g], _ => exact ⟨g, rfl⟩
  | _ :: _ :: _, ⟨_, _, _, _, _, _, _, _, _, _, h, _⟩ => exact h.elim
theorem list_of {α : Type} (n : Nat) (Q : Nat → α → Prop) (h : ∀ i, i < n → ∃ p, Q i p) : ∃ ps : List α, ps.length = n ∧ ∀ (i : Nat) (p : α), ps[i]? = some p → Q i p := by
  induction n with
  | zero => exact ⟨[], rfl, fun i p hp => by simp at hp⟩
  | succ n ih =>
    obtain ⟨ps, hl, hq⟩ := ih fun i hi => h i (by omega)
    obtain ⟨p, hp⟩ := h n (by omega)
    refine ⟨ps ++ [p], by simp [hl], fun i q hq' => ?_⟩
    rw [List.getElem?_append] at hq'
    split at hq'
    · exact hq i q hq'
    · rename_i hi
      have : i = n := by
        rcases Nat.lt_or_ge (i - ps.length) 1 with h1 | h1
        · omega
        · rw [List.getElem?_eq_none (by simpa using h1)] at hq'; cases hq'
      subst this
      rw [hl, Nat.sub_self] at hq'
      obtain rfl : p = q := by simpa using hq'
      exact hp
theorem rangeAt_of_cells {w : World} {base b o n : Nat} {cs : List Value} (h : w.cells? base ⟨b, o, none⟩ n = some cs) : w.rangeAt b o cs := by
  unfold World.cells? at h
  split at h
  · intro j v hv
    have hl : cs.length = n := by simpa using Lib.mapM_length h
    have hj : j < n := by rw [← hl]; exact (List.getElem?_eq_some_iff.1 hv).1
    obtain ⟨x, hx, hc⟩ := Lib.mapM_at h j j (by simp [hj])
    rw [hv] at hx
    obtain rfl := Option.some.inj hx
    rwa [Addr.add_mid] at hc
  · cases h
theorem cellsBool : Tryz.prog.cellsOf 4 = 1 := by kernel_rfl
theorem list3 {α : Type} {l : List α} (h : l.length = 3) : ∃ c0 c1 c2, l = [c0, c1, c2] := by
  match l, h with
  | [c0, c1, c2], _ => exact ⟨c0, c1, c2, rfl⟩
theorem list2 {α : Type} {l : List α} (h : l.length = 2) : ∃ c0 c1, l = [c0, c1] := by
  match l, h with
  | [c0, c1], _ => exact ⟨c0, c1, rfl⟩
theorem bool_of_trod {H : Type} {enc : TypeId × Value → H} {w : World} {base : Nat} {sp : Nat → Bool} {held : Bool} {fuel : Nat} {c : Value} {y : DataW H × List MemPlace}
    (h : DataW.trod enc Tryz.prog w base sp held fuel 4 [c] = some y) : ∃ b : Bool, c = .bool b ∧ y = (.lit (.bool b), []) := by
  obtain ⟨s, hc, hy⟩ := DataW.trod_bool Tryz.underlying4 h
  simp only [List.cons.injEq, and_true] at hc
  exact ⟨s, hc, hy⟩
theorem list8 {α : Type} {l : List α} (h : l.length = 8) : ∃ c0 c1 c2 c3 c4 c5 c6 c7, l = [c0, c1, c2, c3, c4, c5, c6, c7] := by
  match l, h with
  | [c0, c1, c2, c3, c4, c5, c6, c7], _ => exact ⟨c0, c1, c2, c3, c4, c5, c6, c7, rfl⟩
end Go.Proofs.YtlkpgiifdclijaaGreatDoor
