/- Houses as they are handed to a law: lists of batches that are alike; their sizes. -/
import Derived.Test.YtialglmnfchfmafGreatDoorJ40
import Derived.Test.YtialglmnfchfmafGreatDoorJ41
import Derived.Test.YtialglmnfchfmafGreatDoorRows
import Derived.Test.YtialglmnfchfmafGreatDoorJ0
import Derived.ProofKit
import Derived.OpenShut
import Derived.OpenVars
import Derived.LaidLaws
import Derived.Lib.LaidTab
import Derived.ChangeBears2
import Derived.Deep.DeepHandedRow
import Derived.Test.YtialglmnfchfmafGreatDoorJ4
namespace Go.Proofs.YtialglmnfchfmafGreatDoor
open Go.RowKit

theorem RsO.rbs {w W : World} {b : Nat} {bs : List Rb} {v : Value} (h : RsO w b bs) (hb : b < w.heap.size) (hs : RsSrc W v bs) (hsm : RsSmall bs bs.length) : Rbs w (.slice (some ⟨b, 0, none⟩) bs.length bs.length) bs := by
  obtain ⟨a, c, -, hm, hpos⟩ := hs
  refine ⟨_, _, rfl, hm, fun hp => ⟨b, 0, rfl, fun i x hx => ?_, hb⟩⟩
  obtain ⟨b1, b2, hr, ho⟩ := h i x hx
  obtain ⟨g, o, -, hat, -⟩ := hpos hp
  obtain ⟨rv, sv, -, hsrc⟩ := hat i x hx
  obtain ⟨np, ns⟩ := hsm i x (List.getElem?_eq_some_iff.1 hx).1 hx
  exact ⟨_, _, by rw [Nat.zero_add]; exact hr, ho.v hsrc np ns⟩
theorem RsO.open {w : World} {b : Nat} {bs : List Rb} (h : RsO w b bs) {k : Nat} (hk : k < bs.length) : ∃ b1 b2, (w.cell? ⟨b, k * 6, none⟩ = some (.string (bs[k]).nm) ∧ w.cell? ⟨b, k * 6 + 1, none⟩ = some (.slice (some ⟨b1, 0, none⟩) (bs[k]).ps.length (bs[k]).ps.length) ∧ w.cell? ⟨b, k * 6 + 2, none⟩ = some (.slice (some ⟨b2, 0, none⟩) (bs[k]).sl.length (bs[k]).sl.length) ∧ w.cell? ⟨b, k * 6 + 3, none⟩ = some (.string (bs[k]).ad) ∧ w.cell? ⟨b, k * 6 + 4, none⟩ = some (.int .i64 (bs[k]).si) ∧ w.cell? ⟨b, k * 6 + 5, none⟩ = some (.int .i64 (bs[k]).st)) ∧ RbO w (b + 1) bs[k] b1 b2 := by
  obtain ⟨b1, b2, hr, ho⟩ := h k _ (List.getElem?_eq_getElem hk)
  exact ⟨b1, b2, ⟨hr 0 _ rfl, hr 1 _ rfl, hr 2 _ rfl, hr 3 _ rfl, hr 4 _ rfl, hr 5 _ rfl⟩, ho⟩
set_option maxRecDepth 20000 in
set_option maxHeartbeats 2000000 in
theorem eqRbs_any (bs : List Rb) (b1 b2 : Nat) (w : World) (h1 : RsO w b1 bs) (l1 : b1 < w.heap.size) (h2 : RsO w b2 bs) (l2 : b2 < w.heap.size) (hn : bs.length ≤ 1048576) (hsm : RsSmall bs bs.length) :
    Calls Tryz.prog 59 #[.slice (some ⟨b1, 0, none⟩) bs.length bs.length, .slice (some ⟨b2, 0, none⟩) bs.length bs.length] w fun e w' => e = .returned (.bool true) ∧ Below w.heap.size w w' := by
  have Hsm : Hid (RsSmall bs bs.length) := hsm
  clear hsm
  go_enter Tryz.func59, Tryz.ntmps59
  go_wp2
  go_loopw [5] (fun i w' => ∃ k : Nat, k ≤ bs.length ∧ i = .int .i64 k ∧ Below w.heap.size w w') (fun i _ => bs.length - (intOf i).toNat)
  case atStart => exact ⟨0, by omega, rfl, Below.refl _ _⟩
  case round =>
    obtain ⟨k, hk, rfl, hB⟩ := hrel
    by_cases hp : k < bs.length
    · obtain ⟨np, ns⟩ := Hsm.out k _ hp (List.getElem?_eq_getElem hp)
      obtain ⟨p1, p2, ⟨c0, c1, c2, c3, c4, c5⟩, ho1⟩ := (h1.up hB l1).open hp
      obtain ⟨q1, q2, ⟨d0, d1, d2, d3, d4, d5⟩, ho2⟩ := (h2.up hB l2).open hp
      generalize bs[k] = x0 at *
      have Ho1 : Hid (RbO wr (b1 + 1) x0 p1 p2) := ho1
      have Ho2 : Hid (RbO wr (b2 + 1) x0 q1 q2) := ho2
      clear ho1 ho2
      go_wp2_with fail
      go_region_with (go_at_call 11; refine (eqRb_any x0 p1 p2 q1 q2 _ _ _ (Ho1.out.up (Below.refl _ _).drew) (Ho2.out.up (Below.refl _ _).drew) np ns).mono ?_; rintro e w1 ⟨rfl, hbx⟩)
      all_goals
        have hB1 := up_trans hB.drew hbx
        clear c0 c1 c2 c3 c4 c5 d0 d1 d2 d3 d4 d5
        go_wp2_with fail
        go_roundw
        case rel => exact ⟨k + 1, by omega, by go_num, hB1⟩
        case measure => simp [intOf]; omega
    · go_wp2_with fail
      go_ret
      exact ⟨rfl, hB⟩

/-- A house as it is handed to a law. -/
structure HSrc (w : World) (h : House) (tv bv xv dv : Value) : Prop where
  t : Ls w tv h.sh.things
  b : Bs w bv h.sh.bs
  x : RsSrc w xv h.bs
  d : Dns w dv h.ds
theorem HSrc.up {w w' : World} {h : House} {tv bv xv dv : Value} (H : HSrc w h tv bv xv dv) (hb : Below w.heap.size w w') : HSrc w' h tv bv xv dv := ⟨H.t.up hb, H.b.up hb, H.x.up hb, H.d.up hb⟩
theorem HSrc.shapes {w : World} {h : House} {tv bv xv dv : Value} (H : HSrc w h tv bv xv dv) : ∃ a1 c1 a2 c2 a3 c3 a4 c4, tv = .slice a1 h.sh.things.length c1 ∧ bv = .slice a2 h.sh.bs.length c2 ∧ xv = .slice a3 h.bs.length c3 ∧ dv = .slice a4 h.ds.length c4 := by
  obtain ⟨a1, c1, e1, -⟩ := H.t
  obtain ⟨a2, c2, e2, -⟩ := H.b
  obtain ⟨a3, c3, e3, -⟩ := H.x
  obtain ⟨a4, c4, e4, -⟩ := H.d
  exact ⟨a1, c1, a2, c2, a3, c3, a4, c4, e1, e2, e3, e4⟩
theorem HSrc.book {w : World} {h : House} {tv bv xv dv : Value} (H : HSrc w h tv bv xv dv) : BkV w (.agg #[tv, bv]) h.sh := ⟨tv, bv, rfl, H.t, H.b⟩
structure HSmall (h : House) : Prop where
  k : Small h.sh
  n : h.bs.length ≤ 1048576
  x : RsSmall h.bs h.bs.length
  d : h.ds.length ≤ 1048576
/-- A house of the laws' own making. -/
structure HC (w : World) (h : House) (tv bv : Value) (b : Nat) (dv : Value) : Prop where
  t : Ls w tv h.sh.things
  k : Bs w bv h.sh.bs
  x : RsO w b h.bs
  l : b < w.heap.size
  d : Dns w dv h.ds
theorem HC.up {w w' : World} {h : House} {tv bv dv : Value} {b : Nat} (H : HC w h tv bv b dv) (hb : Below w.heap.size w w') : HC w' h tv bv b dv := ⟨H.t.up hb, H.k.up hb, H.x.up hb H.l, Nat.lt_of_lt_of_le H.l hb.size, H.d.up hb⟩
theorem HC.v {w W : World} {h : House} {tv bv dv tv' bv' xv' dv' : Value} {b : Nat} (H : HC w h tv bv b dv) (hs : HSrc W h tv' bv' xv' dv') (hm : HSmall h) : HV w h tv bv (.slice (some ⟨b, 0, none⟩) h.bs.length h.bs.length) dv := ⟨H.t, H.k, H.x.rbs H.l hs.x hm.x, H.d⟩
theorem HC.book {w : World} {h : House} {tv bv dv : Value} {b : Nat} (H : HC w h tv bv b dv) : BkV w (.agg #[tv, bv]) h.sh := ⟨tv, bv, rfl, H.t, H.k⟩
theorem HC.shapes {w : World} {h : House} {tv bv dv : Value} {b : Nat} (H : HC w h tv bv b dv) : ∃ a1 c1 a2 c2 a4 c4, tv = .slice a1 h.sh.things.length c1 ∧ bv = .slice a2 h.sh.bs.length c2 ∧ dv = .slice a4 h.ds.length c4 := by
  obtain ⟨a1, c1, e1, -⟩ := H.t
  obtain ⟨a2, c2, e2, -⟩ := H.k
  obtain ⟨a4, c4, e4, -⟩ := H.d
  exact ⟨a1, c1, a2, c2, a4, c4, e1, e2, e4⟩
set_option maxRecDepth 20000 in
set_option maxHeartbeats 2000000 in
theorem szHouse_any (h : House) (tv bv xv dv : Value) (l : Int) (w : World) (H : HSrc w h tv bv xv dv) (hl : 0 ≤ l) (hl' : l ≤ 1048576) :
    Calls Tryz.prog 15 #[.agg #[.int .i64 h.now, .int .i64 h.last, tv, bv, xv, dv], .int .i64 l] w fun e' w' => (∃ x : Int, e' = .returned (.int .i64 x) ∧ (0 ≤ x → HSmall h)) ∧ Below w.heap.size w w' := by
  obtain ⟨a1, c1, a2, c2, a3, c3, a4, c4, rfl, rfl, rfl, rfl⟩ := H.shapes
  have hB0 := (Below.refl w.heap.size w).alloc (Nat.le_refl _) (.cells #[.int .i64 h.now, .int .i64 h.last, .slice a1 h.sh.things.length c1, .slice a2 h.sh.bs.length c2, .slice a3 h.bs.length c3, .slice a4 h.ds.length c4] 45)
  have hC : CB (w.alloc (.cells #[.int .i64 h.now, .int .i64 h.last, .slice a1 h.sh.things.length c1, .slice a2 h.sh.bs.length c2, .slice a3 h.bs.length c3, .slice a4 h.ds.length c4] 45)) w.heap.size [.int .i64 h.now, .int .i64 h.last, .slice a1 h.sh.things.length c1, .slice a2 h.sh.bs.length c2, .slice a3 h.bs.length c3, .slice a4 h.ds.length c4] := cb_alloc w _ _
  go_enter Tryz.func15, Tryz.ntmps15
  go_upto_region 1 with fail
  generalize w.alloc (.cells #[.int .i64 h.now, .int .i64 h.last, .slice a1 h.sh.things.length c1, .slice a2 h.sh.bs.length c2, .slice a3 h.bs.length c3, .slice a4 h.ds.length c4] 45) = W1 at *
  have hlt := hC.2.2
  have H1 := H.up hB0
  clear H
  obtain ⟨d0, d1, d2, d3, d4, d5⟩ := hC.c6
  go_wp2_with fail
  refine (szBook_any h.sh _ _ _ H1.book hl hl').mono ?_
  rintro e w2 ⟨⟨y2, rfl, hy2, hk2⟩, hB2⟩
  have hB02 := up_trans hB0 hB2
  clear d0 d1 d2 d3 d4 d5
  by_cases g2 : y2 < 0
  · go_wp2_with fail
    go_ret
    exact ⟨⟨_, rfl, by omega⟩, hB02⟩
  have K2 : Hid (Small h.sh) := hk2 (by omega)
  clear hk2
  obtain ⟨d0, d1, d2, d3, d4, d5⟩ := (hC.up hB2 hlt).c6
  go_wp2_with fail
  refine (szRbs_any h.bs _ _ _ (by omega) (by omega) (H1.x.up hB2)).mono ?_
  rintro e w3 ⟨⟨y3, rfl, hy3, hm3⟩, hB3⟩
  have hB03 := up_trans hB02 hB3
  clear d0 d1 d2 d3 d4 d5
  by_cases g3 : y3 < 0
  · go_wp2_with fail
    go_ret
    exact ⟨⟨_, rfl, by omega⟩, hB03⟩
  have K3 : Hid ((h.bs.length : Int) ≤ y2 ∧ RsSmall h.bs h.bs.length) := hy3 (by omega)
  clear hy3
  obtain ⟨d0, d1, d2, d3, d4, d5⟩ := (hC.up (up_trans hB2 hB3) hlt).c6
  go_wp2_with fail
  refine (szDones_any h.ds _ _ _ (by omega) (by omega) (H1.d.up (up_trans hB2 hB3))).mono ?_
  rintro e w4 ⟨⟨y4, rfl, hy4, hm4⟩, hB4⟩
  have hB04 := up_trans hB03 hB4
  clear d0 d1 d2 d3 d4 d5
  by_cases g4 : y4 < 0
  · go_wp2_with fail
    go_ret
    exact ⟨⟨_, rfl, by omega⟩, hB04⟩
  have K4 : Hid (HSmall h) := ⟨K2.out, by have := K3.out.1; omega, K3.out.2, by have := hy4 (by omega); omega⟩
  clear hy4
  go_wp2_with fail
  go_ret
  exact ⟨⟨_, rfl, fun _ => K4.out⟩, hB04⟩
end Go.Proofs.YtialglmnfchfmafGreatDoor

/- The laws' copies of houses. -/
namespace Go.Proofs.YtialglmnfchfmafGreatDoor
open Go.RowKit

theorem sizeHouse : (Tryz.prog.info? 54).map (·.size) = some 6 := by kernel_rfl
theorem RsO.set {w : World} {b r j : Nat} {u : Value} {bs : List Rb} (h : RsO w b bs) (hr : r < b) : RsO (w.setCell ⟨r, j, none⟩ u) b bs := fun i x hx => by
  obtain ⟨b1, b2, h1, h2⟩ := h i x hx
  refine ⟨b1, b2, fun k v hv => ?_, h2.set (by omega)⟩
  rw [World.cell?_setCell_other _ _ _ _ (by simp <;> omega)]; exact h1 k v hv
/-- Those that ended, in a block of their own. -/
def DnO (w : World) (b : Nat) (l : List Done) : Prop := Dns w (.slice (some ⟨b, 0, none⟩) l.length l.length) l
theorem DnO.set {w : World} {b r j : Nat} {u : Value} {l : List Done} (h : DnO w b l) (hr : r ≠ b) : DnO (w.setCell ⟨r, j, none⟩ u) b l := by
  obtain ⟨a, c, e, hm, hpos⟩ := h
  simp only [Value.slice.injEq] at e
  obtain ⟨rfl, -, rfl⟩ := e
  refine ⟨_, _, rfl, hm, fun hp => ?_⟩
  obtain ⟨g, o, e, hat, hlt⟩ := hpos hp
  simp only [Option.some.injEq, Addr.mk.injEq] at e
  obtain ⟨rfl, rfl, -⟩ := e
  refine ⟨_, _, rfl, fun i d hd => ⟨fun k v hv => ?_, (hat i d hd).2⟩, by simpa using hlt⟩
  rw [World.cell?_setCell_other _ _ _ _ (by simp <;> omega)]; exact (hat i d hd).1 k v hv
set_option maxRecDepth 20000 in
set_option maxHeartbeats 8000000 in
theorem toHouse_any (h : House) (tv bv xv dv : Value) (w : World) (H : HSrc w h tv bv xv dv) (hm : HSmall h) :
    Calls Tryz.prog 17 #[.agg #[.int .i64 h.now, .int .i64 h.last, tv, bv, xv, dv]] w fun e w' => (∃ tu bu b du, e = .returned (.agg #[.int .i64 h.now, .int .i64 h.last, tu, bu, .slice (some ⟨b, 0, none⟩) h.bs.length h.bs.length, du]) ∧ HC w' h tu bu b du) ∧ Below w.heap.size w w' := by
  obtain ⟨a1, c1, a2, c2, a3, c3, a4, c4, rfl, rfl, rfl, rfl⟩ := H.shapes
  go_enter Tryz.func17, Tryz.ntmps17
  go_upto_region 2 with fail
  obtain ⟨W1, hW1, kP, kR, kO, hB1, hs1⟩ : ∃ W1, ((w.alloc (.cells #[.int .i64 h.now, .int .i64 h.last, .slice a1 h.sh.things.length c1, .slice a2 h.sh.bs.length c2, .slice a3 h.bs.length c3, .slice a4 h.ds.length c4] 45)).alloc (.cells #[.int .i64 0, .int .i64 0, .slice none 0 0, .slice none 0 0, .slice none 0 0, .slice none 0 0] 54)).alloc (.cells #[.int .i64 0, .int .i64 0, .slice none 0 0, .slice none 0 0, .slice none 0 0, .slice none 0 0] 54) = W1 ∧ CB W1 w.heap.size [.int .i64 h.now, .int .i64 h.last, .slice a1 h.sh.things.length c1, .slice a2 h.sh.bs.length c2, .slice a3 h.bs.length c3, .slice a4 h.ds.length c4] ∧ CB W1 (w.heap.size + 1) [.int .i64 0, .int .i64 0, .slice none 0 0, .slice none 0 0, .slice none 0 0, .slice none 0 0] ∧ CB W1 (w.heap.size + 2) [.int .i64 0, .int .i64 0, .slice none 0 0, .slice none 0 0, .slice none 0 0, .slice none 0 0] ∧ Below w.heap.size w W1 ∧ W1.heap.size = w.heap.size + 3 := ⟨_, rfl, cb3 w [.int .i64 h.now, .int .i64 h.last, .slice a1 h.sh.things.length c1, .slice a2 h.sh.bs.length c2, .slice a3 h.bs.length c3, .slice a4 h.ds.length c4] [.int .i64 0, .int .i64 0, .slice none 0 0, .slice none 0 0, .slice none 0 0, .slice none 0 0] [.int .i64 0, .int .i64 0, .slice none 0 0, .slice none 0 0, .slice none 0 0, .slice none 0 0] _ _ _⟩
  rw [hW1]
  clear hW1
  obtain ⟨W2, hW2, kP2, kR2, kO2, hB2, hs2⟩ : ∃ W2, (W1.setCell ⟨w.heap.size + 2, 0, none⟩ (.int .i64 h.now)).setCell ⟨w.heap.size + 2, 1, none⟩ (.int .i64 h.last) = W2 ∧ CB W2 w.heap.size [.int .i64 h.now, .int .i64 h.last, .slice a1 h.sh.things.length c1, .slice a2 h.sh.bs.length c2, .slice a3 h.bs.length c3, .slice a4 h.ds.length c4] ∧ CB W2 (w.heap.size + 1) [.int .i64 0, .int .i64 0, .slice none 0 0, .slice none 0 0, .slice none 0 0, .slice none 0 0] ∧ CB W2 (w.heap.size + 2) [.int .i64 h.now, .int .i64 h.last, .slice none 0 0, .slice none 0 0, .slice none 0 0, .slice none 0 0] ∧ Below w.heap.size w W2 ∧ W2.heap.size = w.heap.size + 3 := ⟨_, rfl, (kP.other (by omega)).other (by omega), (kR.other (by omega)).other (by omega), (kO.set (j := 0) (by simp)).set (j := 1) (by simp), below_set1 (below_set1 hB1 (by omega) _) (by omega) _, by simpa using hs1⟩
  obtain ⟨p0, p1, p2, p3, p4, p5⟩ := kP.c6
  obtain ⟨o0, o1, o2, o3, o4, o5⟩ := kO.c6
  obtain ⟨f0, f1, f2, f3, f4, f5⟩ := kO.f6
  go_upto_region 4 with fail
  try rw [hW2]
  clear hW2 p0 p1 p2 p3 p4 p5 o0 o1 o2 o3 o4 o5 f0 f1 f2 f3 f4 f5 kP kR kO hB1 hs1
  obtain ⟨p0, p1, p2, p3, p4, p5⟩ := kP2.c6
  go_wp2_with fail
  refine (toBook_any h.sh _ _ (H.up hB2).book hm.k).mono ?_
  rintro e w3 ⟨⟨u, rfl, tu, bu, mid, rfl, ho1, ho2, hmid, -⟩, hb3⟩
  rw [hs2] at ho1 hmid
  obtain ⟨b1, e1⟩ := ho1.shape
  obtain ⟨b2, e2⟩ := ho2.shape
  subst e1 e2
  replace ho2 := ho2.low hmid
  have hz3 := hb3.size
  have kP3 := kP2.up hb3 (by omega)
  have kR3 := kR2.up hb3 (by omega)
  have kO3 := kO2.up hb3 (by omega)
  have hB3 := up_trans hB2 hb3
  clear p0 p1 p2 p3 p4 p5 kP2 kR2 kO2 hB2 hb3 hmid
  obtain ⟨W4, hW4, kP4, kR4, kO4, ho4, hq4, hB4, hs4⟩ : ∃ W4, (w3.setCell ⟨w.heap.size + 2, 2, none⟩ (.slice (some ⟨b1, 0, none⟩) h.sh.things.length h.sh.things.length)).setCell ⟨w.heap.size + 2, 3, none⟩ (.slice (some ⟨b2, 0, none⟩) h.sh.bs.length h.sh.bs.length) = W4 ∧ CB W4 w.heap.size [.int .i64 h.now, .int .i64 h.last, .slice a1 h.sh.things.length c1, .slice a2 h.sh.bs.length c2, .slice a3 h.bs.length c3, .slice a4 h.ds.length c4] ∧ CB W4 (w.heap.size + 1) [.int .i64 0, .int .i64 0, .slice none 0 0, .slice none 0 0, .slice none 0 0, .slice none 0 0] ∧ CB W4 (w.heap.size + 2) [.int .i64 h.now, .int .i64 h.last, .slice (some ⟨b1, 0, none⟩) h.sh.things.length h.sh.things.length, .slice (some ⟨b2, 0, none⟩) h.sh.bs.length h.sh.bs.length, .slice none 0 0, .slice none 0 0] ∧ LsO W4 (w.heap.size + 3) (.slice (some ⟨b1, 0, none⟩) h.sh.things.length h.sh.things.length) h.sh.things ∧ BsO W4 (w.heap.size + 3) (.slice (some ⟨b2, 0, none⟩) h.sh.bs.length h.sh.bs.length) h.sh.bs ∧ Below w.heap.size w W4 ∧ W4.heap.size = w3.heap.size := ⟨_, rfl, (kP3.other (by omega)).other (by omega), (kR3.other (by omega)).other (by omega), (kO3.set (j := 2) (by simp)).set (j := 3) (by simp), (ho1.set (by omega)).set (by omega), (ho2.set (by omega)).set (by omega), below_set1 (below_set1 hB3 (by omega) _) (by omega) _, by simp⟩
  obtain ⟨o0, o1, o2, o3, o4, o5⟩ := kO3.c6
  obtain ⟨f0, f1, f2, f3, f4, f5⟩ := kO3.f6
  go_upto_region 5 with fail
  try rw [hW4]
  clear hW4 o0 o1 o2 o3 o4 o5 f0 f1 f2 f3 f4 f5 kP3 kR3 kO3 hB3 ho1 ho2
  obtain ⟨p0, p1, p2, p3, p4, p5⟩ := kP4.c6
  go_wp2_with fail
  refine (toRbs_any h.bs _ _ (H.up hB4).x hm.n hm.x).mono ?_
  rintro e w5 ⟨⟨b, rfl, hx5, hl5, hlt5⟩, hb5⟩
  have hz5 := hb5.size
  have kP5 := kP4.up hb5 (by omega)
  have kR5 := kR4.up hb5 (by omega)
  have kO5 := kO4.up hb5 (by omega)
  have ho5 := ho4.up hb5
  have hq5 := hq4.up hb5
  have hB5 := up_trans hB4 hb5
  clear p0 p1 p2 p3 p4 p5 kP4 kR4 kO4 hB4 hb5 ho4 hq4
  obtain ⟨W6, hW6, kP6, kR6, kO6, ho6, hq6, hx6, hB6, hs6⟩ : ∃ W6, w5.setCell ⟨w.heap.size + 2, 4, none⟩ (.slice (some ⟨b, 0, none⟩) h.bs.length h.bs.length) = W6 ∧ CB W6 w.heap.size [.int .i64 h.now, .int .i64 h.last, .slice a1 h.sh.things.length c1, .slice a2 h.sh.bs.length c2, .slice a3 h.bs.length c3, .slice a4 h.ds.length c4] ∧ CB W6 (w.heap.size + 1) [.int .i64 0, .int .i64 0, .slice none 0 0, .slice none 0 0, .slice none 0 0, .slice none 0 0] ∧ CB W6 (w.heap.size + 2) [.int .i64 h.now, .int .i64 h.last, .slice (some ⟨b1, 0, none⟩) h.sh.things.length h.sh.things.length, .slice (some ⟨b2, 0, none⟩) h.sh.bs.length h.sh.bs.length, .slice (some ⟨b, 0, none⟩) h.bs.length h.bs.length, .slice none 0 0] ∧ LsO W6 (w.heap.size + 3) (.slice (some ⟨b1, 0, none⟩) h.sh.things.length h.sh.things.length) h.sh.things ∧ BsO W6 (w.heap.size + 3) (.slice (some ⟨b2, 0, none⟩) h.sh.bs.length h.sh.bs.length) h.sh.bs ∧ RsO W6 b h.bs ∧ Below w.heap.size w W6 ∧ W6.heap.size = w5.heap.size := ⟨_, rfl, kP5.other (by omega), kR5.other (by omega), kO5.set (j := 4) (by simp), ho5.set (by omega), hq5.set (by omega), hx5.set (by omega), below_set1 hB5 (by omega) _, by simp⟩
  obtain ⟨o0, o1, o2, o3, o4, o5⟩ := kO5.c6
  obtain ⟨f0, f1, f2, f3, f4, f5⟩ := kO5.f6
  go_upto_region 6 with fail
  try rw [hW6]
  clear hW6 o0 o1 o2 o3 o4 o5 f0 f1 f2 f3 f4 f5 kP5 kR5 kO5 hB5 ho5 hq5 hx5
  obtain ⟨p0, p1, p2, p3, p4, p5⟩ := kP6.c6
  go_wp2_with fail
  refine (toDones_any h.ds _ _ (H.up hB6).d hm.d).mono ?_
  rintro e w7 ⟨⟨g, rfl, hd7, hg7⟩, hb7⟩
  have hz7 := hb7.size
  have kR7 := kR6.up hb7 (by omega)
  have kO7 := kO6.up hb7 (by omega)
  have ho7 := ho6.up hb7
  have hq7 := hq6.up hb7
  have hx7 := hx6.up hb7 (by omega)
  have hB7 := up_trans hB6 hb7
  have hD7 : DnO w7 g h.ds := hd7
  clear p0 p1 p2 p3 p4 p5 kP6 kR6 kO6 hB6 hb7 ho6 hq6 hx6 hd7
  obtain ⟨o0, o1, o2, o3, o4, o5⟩ := kO7.c6
  obtain ⟨f0, f1, f2, f3, f4, f5⟩ := kO7.f6
  obtain ⟨r0, r1, r2, r3, r4, r5⟩ := kR7.c6
  obtain ⟨g0, g1, g2, g3, g4, g5⟩ := kR7.f6
  have hR8 := kR7.other (q := w.heap.size + 2) (j := 5) (u := .slice (some ⟨g, 0, none⟩) h.ds.length h.ds.length) (by omega)
  go_wp2_with fail
  refine end_cb6 Tryz.results17 Tryz.underlying54 rfl sizeHouse hR8 rfl ?_
  refine ⟨⟨_, _, b, _, rfl, ?_⟩, ?_⟩
  · exact ⟨(((((((ho7.set (by omega)).set (by omega)).set (by omega)).set (by omega)).set (by omega)).set (by omega)).set (by omega)).ls, (((((((hq7.set (by omega)).set (by omega)).set (by omega)).set (by omega)).set (by omega)).set (by omega)).set (by omega)).bs, ((((((hx7.set (by omega)).set (by omega)).set (by omega)).set (by omega)).set (by omega)).set (by omega)).set (by omega), by simp; omega, ((((((hD7.set (by omega)).set (by omega)).set (by omega)).set (by omega)).set (by omega)).set (by omega)).set (by omega)⟩
  · exact below_set1 (below_set1 (below_set1 (below_set1 (below_set1 (below_set1 (below_set1 hB7 (by omega) _) (by omega) _) (by omega) _) (by omega) _) (by omega) _) (by omega) _) (by omega) _
end Go.Proofs.YtialglmnfchfmafGreatDoor

/- Two houses that are alike. -/
namespace Go.Proofs.YtialglmnfchfmafGreatDoor
open Go.RowKit

set_option maxRecDepth 20000 in
set_option maxHeartbeats 4000000 in
theorem eqHouse_any (h : House) (t1 k1 d1 t2 k2 d2 : Value) (b1 b2 : Nat) (w : World) (H1 : HC w h t1 k1 b1 d1) (H2 : HC w h t2 k2 b2 d2) (hm : HSmall h) :
    Calls Tryz.prog 19 #[.agg #[.int .i64 h.now, .int .i64 h.last, t1, k1, .slice (some ⟨b1, 0, none⟩) h.bs.length h.bs.length, d1], .agg #[.int .i64 h.now, .int .i64 h.last, t2, k2, .slice (some ⟨b2, 0, none⟩) h.bs.length h.bs.length, d2]] w fun e w' => e = .returned (.bool true) ∧ Below w.heap.size w w' := by
  obtain ⟨a1, c1, a2, c2, a4, c4, rfl, rfl, rfl⟩ := H1.shapes
  obtain ⟨a5, c5, a6, c6, a8, c8, rfl, rfl, rfl⟩ := H2.shapes
  go_enter Tryz.func19, Tryz.ntmps19
  go_upto_region 1 with fail
  obtain ⟨W1, hW1, kP, kR, hB1, hs1⟩ : ∃ W1, (w.alloc (.cells #[.int .i64 h.now, .int .i64 h.last, .slice a1 h.sh.things.length c1, .slice a2 h.sh.bs.length c2, .slice (some ⟨b1, 0, none⟩) h.bs.length h.bs.length, .slice a4 h.ds.length c4] 54)).alloc (.cells #[.int .i64 h.now, .int .i64 h.last, .slice a5 h.sh.things.length c5, .slice a6 h.sh.bs.length c6, .slice (some ⟨b2, 0, none⟩) h.bs.length h.bs.length, .slice a8 h.ds.length c8] 54) = W1 ∧ CB W1 w.heap.size [.int .i64 h.now, .int .i64 h.last, .slice a1 h.sh.things.length c1, .slice a2 h.sh.bs.length c2, .slice (some ⟨b1, 0, none⟩) h.bs.length h.bs.length, .slice a4 h.ds.length c4] ∧ CB W1 (w.heap.size + 1) [.int .i64 h.now, .int .i64 h.last, .slice a5 h.sh.things.length c5, .slice a6 h.sh.bs.length c6, .slice (some ⟨b2, 0, none⟩) h.bs.length h.bs.length, .slice a8 h.ds.length c8] ∧ Below w.heap.size w W1 ∧ W1.heap.size = w.heap.size + 2 := ⟨_, rfl, cb2 w [.int .i64 h.now, .int .i64 h.last, .slice a1 h.sh.things.length c1, .slice a2 h.sh.bs.length c2, .slice (some ⟨b1, 0, none⟩) h.bs.length h.bs.length, .slice a4 h.ds.length c4] [.int .i64 h.now, .int .i64 h.last, .slice a5 h.sh.things.length c5, .slice a6 h.sh.bs.length c6, .slice (some ⟨b2, 0, none⟩) h.bs.length h.bs.length, .slice a8 h.ds.length c8] _ _⟩
  rw [hW1]
  clear hW1
  obtain ⟨e0, e1, e2, e3, e4, e5⟩ := kP.c6
  obtain ⟨f0, f1, f2, f3, f4, f5⟩ := kR.c6
  go_wp2_with fail
  refine (eqBook_any h.sh _ _ _ (H1.up hB1).book (H2.up hB1).book).mono ?_
  rintro e w2 ⟨rfl, hB2⟩
  have hB12 := up_trans hB1 hB2
  clear e0 e1 e2 e3 e4 e5 f0 f1 f2 f3 f4 f5
  obtain ⟨e0, e1, e2, e3, e4, e5⟩ := (kP.up hB2 (by omega)).c6
  obtain ⟨f0, f1, f2, f3, f4, f5⟩ := (kR.up hB2 (by omega)).c6
  have G1 := H1.up hB12
  have G2 := H2.up hB12
  go_wp2_with fail
  refine (eqRbs_any h.bs b1 b2 _ G1.x G1.l G2.x G2.l hm.n hm.x).mono ?_
  rintro e w3 ⟨rfl, hB3⟩
  have hB13 := up_trans hB12 hB3
  have hB23 := up_trans hB2 hB3
  clear e0 e1 e2 e3 e4 e5 f0 f1 f2 f3 f4 f5
  obtain ⟨e0, e1, e2, e3, e4, e5⟩ := (kP.up hB23 (by omega)).c6
  obtain ⟨f0, f1, f2, f3, f4, f5⟩ := (kR.up hB23 (by omega)).c6
  go_wp2_with fail
  refine (eqDones_any h.ds _ _ _ (G1.up hB3).d (G2.up hB3).d).mono ?_
  rintro e w4 ⟨rfl, hB4⟩
  have hB14 := up_trans hB13 hB4
  clear e0 e1 e2 e3 e4 e5 f0 f1 f2 f3 f4 f5
  go_wp2_with fail
  go_ret
  exact ⟨rfl, hB14⟩
end Go.Proofs.YtialglmnfchfmafGreatDoor

/- What opening an argument leans on: lists, cells, texts and numbers that can be read. -/
namespace Go.Proofs.YtialglmnfchfmafGreatDoor
open Go.ChangeShapes Go.WideShapes Go.ChangeAt Go.RowKit

theorem own : ownKnob Tryz.prog.godebug = none := by kernel_rfl
theorem laidOut : laidOutB Tryz.prog = true := by kernel_rfl
theorem cellsString : Tryz.prog.cellsOf 9 = 1 := by kernel_rfl
theorem cellsInt : Tryz.prog.cellsOf 3 = 1 := by kernel_rfl
theorem str_of_trod {H : Type} {enc : TypeId × Value → H} {w : World} {base : Nat} {sp : Nat → Bool} {held : Bool} {fuel : Nat} {c : Value} {y : DataW H × List MemPlace}
    (h : DataW.trod enc Tryz.prog w base sp held fuel 9 [c] = some y) : ∃ s : ByteArray, c = .string s ∧ y = (.lit (.string s.data.toList), []) ∧ s.size ≤ maxLen := by
  obtain ⟨s, hc, hy, hs⟩ := DataW.trod_string Tryz.underlying9 h
  simp only [List.cons.injEq, and_true] at hc
  exact ⟨s, hc, hy, hs⟩
theorem int_of_trod {H : Type} {enc : TypeId × Value → H} {w : World} {base : Nat} {sp : Nat → Bool} {held : Bool} {fuel : Nat} {c : Value} {y : DataW H × List MemPlace}
    (h : DataW.trod enc Tryz.prog w base sp held fuel 3 [c] = some y) : ∃ n : Int, c = .int .i64 n ∧ y = (.lit (.int .i64 n), []) ∧ (Lit.int .i64 n).wf = true := by
  obtain ⟨s, hc, hy, hs⟩ := DataW.trod_int Tryz.underlying3 h
  simp only [List.cons.injEq, and_true] at hc
  exact ⟨s, hc, hy, hs⟩
theorem ba_of_list {s : ByteArray} {l : List UInt8} (h : s.data.toList = l) : s = ⟨l.toArray⟩ := by cases s; simp_all [← h]
theorem one_var {H : Type} {enc : TypeId × Value → H} {W : World} {sp : Nat → Bool} {n : String} {gs : List (DataW H)} {q : List MemPlace} (h : DataW.TrodVars enc Tryz.prog W sp [n] gs q) : ∃ g, gs = [g] := by
  match gs, h with
  | [], h => exact h.elim
  | [g], _ => exact ⟨g, rfl⟩
  | _ :: _ :: _, ⟨_, _, _, _, _, _, _, _, _, _, h, _⟩ => exact h.elim
theorem list_of {α : Type} (n : Nat) (Q : Nat → α → Prop) (h : ∀ i, i < n → ∃ p, Q i p) : ∃ ps : List α, ps.length = n ∧ ∀ (i : Nat) (p : α), ps[i]? = some p → Q i p := by
  induction n with
  | zero => exact ⟨[], rfl, fun i p hp => by simp at hp⟩
  | succ n ih =>
    obtain ⟨ps, hl, hq⟩ := ih fun i hi => h i (by omega)
    obtain ⟨p, hp⟩ := h n (by omega)
    refine ⟨ps ++ [p], by simp [hl], fun i q hq' => ?_⟩
    rw [List.getElem?_append] at hq'
    split at hq'
    · exact hq i q hq'
    · rename_i hi
      have : i = n := by
        rcases Nat.lt_or_ge (i - ps.length) 1 with h1 | h1
        · omega
        · rw [List.getElem?_eq_none (by simpa using h1)] at hq'; cases hq'
      subst this
      rw [hl, Nat.sub_self] at hq'
      obtain rfl : p = q := by simpa using hq'
      exact hp
theorem rangeAt_of_cells {w : World} {base b o n : Nat} {cs : List Value} (h : w.cells? base ⟨b, o, none⟩ n = some cs) : w.rangeAt b o cs := by
  unfold World.cells? at h
  split at h
  · intro j v hv
    have hl : cs.length = n := by simpa using Lib.mapM_length h
    have hj : j < n := by rw [← hl]; exact (List.getElem?_eq_some_iff.1 hv).1
    obtain ⟨x, hx, hc⟩ := Lib.mapM_at h j j (by simp [hj])
    rw [hv] at hx
    obtain rfl := Option.some.inj hx
    rwa [Addr.add_mid] at hc
  · cases h
theorem cellsBool : Tryz.prog.cellsOf 4 = 1 := by kernel_rfl
theorem list3 {α : Type} {l : List α} (h : l.length = 3) : ∃ c0 c1 c2, l = [c0, c1, c2] := by
  match l, h with
  | [c0, c1, c2], _ => exact ⟨c0, c1, c2, rfl⟩
theorem list2 {α : Type} {l : List α} (h : l.length = 2) : ∃ c0 c1, l = [c0, c1] := by
  match l, h with
  | [c0, c1], _ => exact ⟨c0, c1, rfl⟩
theorem bool_of_trod {H : Type} {enc : TypeId × Value → H} {w : World} {base : Nat} {sp : Nat → Bool} {held : Bool} {fuel : Nat} {c : Value} {y : DataW H × List MemPlace}
    (h : DataW.trod enc Tryz.prog w base sp held fuel 4 [c] = some y) : ∃ b : Bool, c = .bool b ∧ y = (.lit (.bool b), []) := by
  obtain ⟨s, hc, hy⟩ := DataW.trod_bool Tryz.underlying4 h
  simp only [List.cons.injEq, and_true] at hc
  exact ⟨s, hc, hy⟩
theorem list8 {α : Type} {l : List α} (h : l.length = 8) : ∃ c0 c1 c2 c3 c4 c5 c6 c7, l = [c0, c1, c2, c3, c4, c5, c6, c7] := by
  match l, h with
  | [c0, c1, c2, c3, c4, c5, c6, c7], _ => exact ⟨c0, c1, c2, c3, c4, c5, c6, c7, rfl⟩
end Go.Proofs.YtialglmnfchfmafGreatDoor

/- What the row's list gives: the table of the ends' names; a world for the witness. -/
namespace Go.Proofs.YtialglmnfchfmafGreatDoor
open Go.ChangeShapes Go.WideShapes Go.ChangeAt Go.RowKit

theorem gN : Tryz.prog.globalNamed "loop.example/maltrun/impl.recEndNames" = some 0 := by kernel_rfl
theorem gNType : (Tryz.prog.globals[0]?).map (·.type) = some 208 := by kernel_rfl
theorem cellsEnds : Tryz.prog.cellsOf 208 = 3 := by kernel_rfl
def cells3 : Array Value := #[.string ⟨#[103, 111, 111, 100]⟩, .string ⟨#[115, 97, 118, 101, 100]⟩, .string ⟨#[115, 99, 114, 97, 112, 112, 101, 100]⟩]

theorem ends_of_laid {W : World} (h : laidMet Tryz.prog [("loop.example/maltrun/impl.recEndNames", Rows.laid_loop_example_maltrun_impl_recEndNames)] W) : W.var? Tryz.prog "loop.example/maltrun/impl.recEndNames" = some cells3 := by
  obtain ⟨ps, ⟨g, t, cs, fuel, p, q, hg, ht, hvar, hd, _, _⟩, _⟩ := h
  obtain rfl := Option.some.inj (gN.symm.trans hg)
  obtain rfl := Option.some.inj (gNType.symm.trans ht)
  rw [hvar]
  congr 1
  obtain ⟨l⟩ := cs
  cases fuel with
  | zero => simp [DataW.trod] at hd
  | succ fuel =>
    simp only [DataW.trod, Tryz.underlying208, cellsEnds, cellsString] at hd
    split at hd
    · rename_i hl
      obtain ⟨c0, c1, c2, rfl⟩ : ∃ c0 c1 c2, l = [c0, c1, c2] := by
        match l, hl with
        | [a, b, c], _ => exact ⟨a, b, c, rfl⟩
      have e : List.range 3 = [0, 1, 2] := rfl
      rw [e] at hd
      simp only [Option.map_eq_some_iff, List.mapM_cons, List.mapM_nil, Option.bind_eq_bind, Option.bind_eq_some_iff, Option.pure_def, Option.some.injEq] at hd
      obtain ⟨xs, ⟨y0, h0, _, ⟨y1, h1, _, ⟨y2, h2, _, rfl, rfl⟩, rfl⟩, rfl⟩, hx⟩ := hd
      obtain ⟨n0, rfl, rfl, _⟩ := str_of_trod h0
      obtain ⟨n1, rfl, rfl, _⟩ := str_of_trod h1
      obtain ⟨n2, rfl, rfl, _⟩ := str_of_trod h2
      simp [Rows.laid_loop_example_maltrun_impl_recEndNames] at hx
      obtain ⟨⟨e0, e1, e2⟩, _⟩ := hx
      rw [ba_of_list e0, ba_of_list e1, ba_of_list e2]
      rfl
    · cases hd

theorem Ends.of_laid {W : World} (h : laidMet Tryz.prog [("loop.example/maltrun/impl.recEndNames", Rows.laid_loop_example_maltrun_impl_recEndNames)] W) : Ends W := by
  have hv := ends_of_laid h
  have hc := fun i => World.var?_cell gN hv i
  refine ⟨hc 0, hc 1, hc 2, ?_⟩
  rcases Nat.lt_or_ge 0 W.heap.size with h' | h'
  · exact h'
  · unfold World.var? at hv
    rw [gN] at hv
    simp only [Option.bind_some] at hv
    rw [Array.getElem?_eq_none h'] at hv; cases hv

noncomputable def laidWorld (os : Os) : World :=
  { World.holding Tryz.prog os ⟨#[], #[], []⟩ with heap := (World.holding Tryz.prog os ⟨#[], #[], []⟩).heap.modify 0 fun
      | .cells _ t frozen => .cells cells3 t frozen
      | o => o }
theorem laid_met (os : Os) (args : Array Value) : laidMet Tryz.prog [("loop.example/maltrun/impl.recEndNames", Rows.laid_loop_example_maltrun_impl_recEndNames)] ((laidWorld os).forCall (fun _ _ => 0) ⟨#[], args, []⟩).memory :=
  laidMet_of_run (ps := [.cell 0 0, .cell 0 1, .cell 0 2]) 8 (by kernel_rfl) (by kernel_rfl) (by kernel_rfl)
end Go.Proofs.YtialglmnfchfmafGreatDoor
