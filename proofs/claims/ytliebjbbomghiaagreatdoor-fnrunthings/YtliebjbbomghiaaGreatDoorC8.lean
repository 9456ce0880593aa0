/- The specification's RunTick (chapter 23). -/
import Derived.Test.YtliebjbbomghiaaGreatDoorJ33
import Derived.Test.YtliebjbbomghiaaGreatDoorV11
namespace Go.Proofs.YtliebjbbomghiaaGreatDoor
open Go.RowKit

def noHouse : House := ⟨0, 0, nobody, [], []⟩
theorem hv_none (w : World) : HV w noHouse (.slice none 0 0) (.slice none 0 0) (.slice none 0 0) (.slice none 0 0) :=
  ⟨⟨none, 0, rfl, by simp [noHouse, nobody], fun s hs => (by simp [noHouse, nobody] at hs), fun h => (by simp [noHouse, nobody] at h)⟩, ⟨none, 0, rfl, by simp [noHouse, nobody], fun h => (by simp [noHouse, nobody] at h)⟩, ⟨none, 0, rfl, by simp [noHouse], fun h => (by simp [noHouse] at h)⟩, ⟨none, 0, rfl, by simp [noHouse], fun h => (by simp [noHouse] at h)⟩⟩
theorem HouseOk.tiny {h : House} (H : HouseOk h) : Tiny h.sh ∧ h.bs.length ≤ 5 ∧ h.ds.length ≤ 20 := by
  obtain ⟨-, h2, h3, h4, -⟩ := H
  obtain ⟨s1, s2, s3⟩ := ok_small h3.book
  exact ⟨⟨by omega, by omega, fun x hx => by have := s3 x hx; omega⟩, by rw [h4.1]; exact s2, h2.1⟩
theorem HouseOk.batch {h : House} (H : HouseOk h) {i : Nat} {x : Rb} (hx : h.bs[i]? = some x) : RbOk x := (H.2.2.2.2.1 i x (List.getElem?_eq_some_iff.1 hx).1 hx).1
theorem HouseOk.at {h : House} (H : HouseOk h) : AtOk h h.bs.length := fun _ _ _ hx => ⟨(H.batch hx).2.1, (H.batch hx).2.2.2.2.1⟩
/-- The first k have had a tick more. -/
def tickK (h : House) (k : Nat) : House := { h with now := h.now + 1, bs := (h.bs.take k).map tickB ++ h.bs.drop k }
theorem tickK_at {h : House} {k : Nat} (hk : k < h.bs.length) : (tickK h k).bs[k]? = h.bs[k]? := by
  show ((h.bs.take k).map tickB ++ h.bs.drop k)[k]? = _
  have hl : ((h.bs.take k).map tickB).length = k := by rw [List.length_map, List.length_take]; omega
  rw [List.getElem?_append_right (by omega), hl, Nat.sub_self, List.getElem?_drop, Nat.add_zero]
theorem tickK_step {h : House} {k : Nat} {x : Rb} (hx : h.bs[k]? = some x) : (tickK h k).bs.set k (tickB x) = (tickK h (k + 1)).bs := by
  obtain ⟨hk, rfl⟩ := List.getElem?_eq_some_iff.1 hx
  show ((h.bs.take k).map tickB ++ h.bs.drop k).set k _ = (h.bs.take (k + 1)).map tickB ++ h.bs.drop (k + 1)
  have hl : ((h.bs.take k).map tickB).length = k := by rw [List.length_map, List.length_take]; omega
  rw [List.set_append_right _ _ (by omega), hl, Nat.sub_self, List.take_succ_eq_append_getElem hk, List.map_append, List.append_assoc, List.drop_eq_getElem_cons hk]
  rfl
theorem tickK_len (h : House) (k : Nat) : (tickK h k).bs.length = h.bs.length := by
  show ((h.bs.take k).map tickB ++ h.bs.drop k).length = _
  rw [List.length_append, List.length_map, List.length_take, List.length_drop]; omega
theorem tickK_same {h : House} {k : Nat} {x : Rb} (hx : h.bs[k]? = some x) (hs : ¬ 0 ≤ x.si) : tickK h (k + 1) = tickK h k := by
  have h1 := tickK_step hx
  have h2 : tickB x = x := by unfold tickB; rw [if_neg hs]
  rw [h2] at h1
  have h3 : (tickK h k).bs.set k x = (tickK h k).bs := by
    obtain ⟨hk, e⟩ := List.getElem?_eq_some_iff.1 hx
    have h4 := tickK_at hk
    rw [hx] at h4
    obtain ⟨hk2, e2⟩ := List.getElem?_eq_some_iff.1 h4
    rw [← e2]; exact List.set_getElem_self hk2
  rw [h3] at h1
  show (⟨_, _, _, _, _⟩ : House) = _
  unfold tickK at h1 ⊢
  dsimp only at h1 ⊢
  rw [h1]
theorem tickK_all (h : House) : tickK h h.bs.length = tickH h := by
  unfold tickK tickH
  rw [List.take_length, List.drop_length, List.append_nil]
theorem tickH_at {h : House} (H : HouseOk h) : AtOk (tickH h) (tickH h).bs.length := fun j x _ hx => by
  have hx' : (h.bs.map tickB)[j]? = some x := hx
  rw [List.getElem?_map, Option.map_eq_some_iff] at hx'
  obtain ⟨y, hy, rfl⟩ := hx'
  have h1 := (H.batch hy).2.1
  have h2 := (H.batch hy).2.2.2.2.1
  unfold tickB
  split
  · exact ⟨h1, h2⟩
  · exact ⟨h1, h2⟩
/-- What a tick gives. -/
def TickIs (h : House) (cd : Int) (h' : House) : Prop :=
  (¬ HouseOk h ∧ cd = 1 ∧ h' = noHouse) ∨ (HouseOk h ∧ 100000 ≤ h.now ∧ cd = 7 ∧ h' = h) ∨
  (HouseOk h ∧ ¬ 100000 ≤ h.now ∧ cd = 0 ∧ AsksTo (lateTo (tickH h) h.bs.length) (lateTo (tickH h) h.bs.length).bs.length h')
/-- A house of one's own, or none. -/
def HX (w : World) (base : Nat) (h : House) (tv bv xv dv : Value) : Prop := HW w base h tv bv xv dv ∨ (h = noHouse ∧ tv = .slice none 0 0 ∧ bv = .slice none 0 0 ∧ xv = .slice none 0 0 ∧ dv = .slice none 0 0)
theorem hx_none (w : World) (base : Nat) : HX w base noHouse (.slice none 0 0) (.slice none 0 0) (.slice none 0 0) (.slice none 0 0) := .inr ⟨rfl, rfl, rfl, rfl, rfl⟩
theorem HX.v {w : World} {base : Nat} {h : House} {tv bv xv dv : Value} (H : HX w base h tv bv xv dv) : HV w h tv bv xv dv := by
  rcases H with H | ⟨rfl, rfl, rfl, rfl, rfl⟩
  · exact H.v
  · exact hv_none w
theorem HX.up {w w' : World} {base : Nat} {h : House} {tv bv xv dv : Value} (H : HX w base h tv bv xv dv) (hb : Below w.heap.size w w') : HX w' base h tv bv xv dv := H.imp (fun H => H.up hb) fun h => h
theorem HX.gr {w w' : World} {base rb : Nat} {h : House} {tv bv xv dv : Value} (H : HX w base h tv bv xv dv) (hg : w.grownBy w' (some rb)) (hr : rb < base) : HX w' base h tv bv xv dv := H.imp (fun H => H.gr hg hr) fun h => h
theorem HX.low {w : World} {base base' : Nat} {h : House} {tv bv xv dv : Value} (H : HX w base h tv bv xv dv) (hb : base' ≤ base) : HX w base' h tv bv xv dv := H.imp (fun H => H.low hb) fun h => h
/-- A house that is short. -/
def Few (h : House) : Prop := Tiny h.sh ∧ h.bs.length ≤ 1000 ∧ h.ds.length ≤ 1000
theorem few_none : Few noHouse := ⟨tiny_none, by simp [noHouse], by simp [noHouse]⟩
/-- A batch's ticks told anew. -/
theorem HW.since {w : World} {base g n cap k : Nat} {h : House} {tv bv dv : Value} {x : Rb} (H : HW w base h tv bv (.slice (some ⟨g, 0, none⟩) n cap) dv) (hx : h.bs[k]? = some x) (s : Int) :
    HW (w.setCell ⟨g, k * 6 + 4, none⟩ (.int .i64 s)) base { h with bs := h.bs.set k { x with si := s } } tv bv (.slice (some ⟨g, 0, none⟩) n cap) dv := by
  obtain ⟨ps, h1, h2⟩ := H.x
  have hx' := hx
  rw [← h2, List.getElem?_map, Option.map_eq_some_iff] at hx'
  obtain ⟨⟨y, ru, su⟩, hp, e⟩ := hx'
  obtain rfl : y = x := e
  have hg : w.grownBy (w.setCell ⟨g, k * 6 + 4, none⟩ (.int .i64 s)) (Value.slice (some ⟨g, 0, none⟩) n cap).ownBlock := grown_setCell (grown_refl _ _) _
  exact ⟨H.k.step h1.1 (by decide) (by decide) hg, H.z, ⟨_, h1.put (y := { y with si := s }) hp (by omega) rfl rfl rfl rfl, by rw [List.map_set, h2]⟩, H.d.step h1.1 (by decide) hg⟩
theorem HW.as {w : World} {base : Nat} {h h' : House} {tv bv xv dv : Value} (H : HW w base h tv bv xv dv) (h1 : h'.sh = h.sh) (h2 : h'.bs = h.bs) (h3 : h'.ds = h.ds) : HW w base h' tv bv xv dv :=
  ⟨by rw [h1]; exact H.k, by rw [h1]; exact H.z, by rw [h2]; exact H.x, by rw [h3]; exact H.d⟩
theorem late_facts {h : House} : ∀ {k : Nat}, k ≤ h.bs.length → (lateTo h k).now = h.now ∧ (lateTo h k).last = h.last ∧ (h.ds.length ≤ 20 → (lateTo h k).ds.length ≤ 20) ∧ (lateTo h k).bs.length ≤ h.bs.length := by
  intro k
  induction k generalizing h with
  | zero => exact fun _ => ⟨rfl, rfl, fun h => h, Nat.le_refl _⟩
  | succ k ih =>
    intro hk
    have hkl : k < h.bs.length := by omega
    have hf : (lateAt h k).now = h.now ∧ (lateAt h k).last = h.last ∧ (h.ds.length ≤ 20 → (lateAt h k).ds.length ≤ 20) ∧ k ≤ (lateAt h k).bs.length ∧ (lateAt h k).bs.length ≤ h.bs.length := by
      unfold lateAt
      rw [List.getElem?_eq_getElem hkl]
      dsimp only
      split
      · obtain ⟨g1, g2, g3, g4, g5, -⟩ := on_facts (nm := (phOf (h.bs[k]).ps (h.bs[k]).ad).e) hkl
        exact ⟨g1, g2, g3, g4, g5⟩
      · exact ⟨rfl, rfl, fun h => h, by omega, Nat.le_refl _⟩
    obtain ⟨g1, g2, g3, g4, g5⟩ := hf
    obtain ⟨i1, i2, i3, i4⟩ := ih g4
    exact ⟨i1.trans g1, i2.trans g2, fun h => i3 (g3 h), Nat.le_trans i4 g5⟩

theorem HW.xb {w : World} {base : Nat} {h : House} {tv bv xv dv : Value} (H : HW w base h tv bv xv dv) : ∀ k, xv.ownBlock = some k → base ≤ k := fun k e => by
  obtain ⟨ps, h1, -⟩ := H.x
  exact (h1.1.lt k e).1
theorem HW.db {w : World} {base : Nat} {h : House} {tv bv xv dv : Value} (H : HW w base h tv bv xv dv) : ∀ k, dv.ownBlock = some k → base ≤ k := fun k e => by
  obtain ⟨g, cap, pre, rfl, h1, -⟩ := H.d
  exact (h1.lt k e).1
theorem gr_below {w w' : World} {p : Option Nat} {B : Nat} (h : w.grownBy w' p) (hB : B ≤ w.heap.size) (hp : ∀ k, p = some k → B ≤ k) : Below B w w' :=
  ⟨h.os, h.tape, h.output, h.size, fun k hk => h.block k (Nat.lt_of_lt_of_le hk hB) (fun e => by have := hp k e.symm; omega)⟩
set_option maxRecDepth 20000 in
set_option maxHeartbeats 8000000 in
theorem tickS_any (h : House) (tv bv xv dv : Value) (w : World) (H : HV w h tv bv xv dv) :
    Calls Tryz.prog 96 #[.agg #[.int .i64 h.now, .int .i64 h.last, tv, bv, xv, dv]] w fun e w' => (∃ h' tu bu xu du cd, e = .returned (.tuple #[.agg #[.int .i64 h'.now, .int .i64 h'.last, tu, bu, xu, du], .int .i64 cd]) ∧ TickIs h cd h' ∧ Few h' ∧ HX w' w.heap.size h' tu bu xu du) ∧ Below w.heap.size w w' := by
  obtain ⟨a1, c1, a2, c2, a3, c3, a4, c4, rfl, rfl, rfl, rfl⟩ := H.shapes
  obtain ⟨W1, hW1, kA, kR, hB1⟩ : ∃ W1, (w.alloc (.cells #[.int .i64 h.now, .int .i64 h.last, .slice a1 h.sh.things.length c1, .slice a2 h.sh.bs.length c2, .slice a3 h.bs.length c3, .slice a4 h.ds.length c4] 99)).alloc (.cells #[.int .i64 0, .int .i64 0, .slice none 0 0, .slice none 0 0, .slice none 0 0, .slice none 0 0] 99) = W1 ∧ W1.ownsRow w.heap.size 99 6 (.slice (some ⟨w.heap.size, 0, none⟩) 1 1) 1 [.int .i64 h.now, .int .i64 h.last, .slice a1 h.sh.things.length c1, .slice a2 h.sh.bs.length c2, .slice a3 h.bs.length c3, .slice a4 h.ds.length c4] ∧ W1.ownsRow w.heap.size 99 6 (.slice (some ⟨w.heap.size + 1, 0, none⟩) 1 1) 1 [.int .i64 0, .int .i64 0, .slice none 0 0, .slice none 0 0, .slice none 0 0, .slice none 0 0] ∧ Below w.heap.size w W1 := ⟨_, rfl, two_rows w [.int .i64 h.now, .int .i64 h.last, .slice a1 h.sh.things.length c1, .slice a2 h.sh.bs.length c2, .slice a3 h.bs.length c3, .slice a4 h.ds.length c4] [.int .i64 0, .int .i64 0, .slice none 0 0, .slice none 0 0, .slice none 0 0, .slice none 0 0] rfl rfl⟩
  go_enter Tryz.func96, Tryz.ntmps96
  go_upto_region 1 with fail
  try rw [hW1]
  clear hW1
  have H1 := H.up hB1
  obtain ⟨e0, e1, e2, e3, e4, e5⟩ := (cb_of_rowK kA).c6
  have hcall := houseOkS_any h _ _ _ _ W1 H1
  by_cases hk : HouseOk h
  case neg =>
    rw [pB_no hk] at hcall
    have HI : Hid (TickIs h 1 noHouse) := .inl ⟨hk, rfl, rfl⟩
    go_upto_region 2 with (go_at_call 110; refine hcall.mono ?_; rintro e w2 ⟨rfl, hb2⟩)
    have kR2 := own_up kR hb2
    obtain ⟨y0, y1, y2, y3, y4, y5⟩ := (cb_of_rowK kR2).c6
    obtain ⟨f0, f1, f2, f3, f4, f5⟩ := (cb_of_rowK kR2).f6
    have hB2 := up_trans hB1 hb2
    clear hcall hb2
    go_wp2_with fail
    refine end_cb6b Tryz.results96 Tryz.underlying99 rfl sizeHouseS (cb_of_rowK kR2) rfl rfl ?_
    exact ⟨⟨noHouse, _, _, _, _, 1, rfl, HI.out, few_none, hx_none _ _⟩, below_set6 hB2 (by omega) _ _ _ _ _ _⟩
  have HK : Hid (HouseOk h) := hk
  obtain ⟨hty, hb5, hd20⟩ := hk.tiny
  rw [pB_yes hk] at hcall
  clear hk
  go_upto_region 3 with (go_at_call 110; refine hcall.mono ?_; rintro e w2 ⟨rfl, hb2⟩)
  have kA2 := own_up kA hb2
  have kR2 := own_up kR hb2
  have hB2 := up_trans hB1 hb2
  have H2 := H1.up hb2
  clear hcall hb2 e0 e1 e2 e3 e4 e5 kA kR H1 H hB1
  obtain ⟨e0, e1, e2, e3, e4, e5⟩ := (cb_of_rowK kA2).c6
  have hcopy := copy22_any h _ _ _ _ w2 H2 (by have := hty.1; omega) (by have := hty.2.1; omega) (fun y hy => by have := hty.2.2 y hy; omega) (by omega) (by omega)
  go_upto_region 4 with (go_at_call 111; refine hcopy.mono ?_; rintro e w3 ⟨⟨tu, bu, xu, du, rfl, H3⟩, hb3⟩; obtain ⟨p1, q1, p2, q2, p3, q3, p4, q4, rfl, rfl, rfl, rfl⟩ := H3.v.shapes)
  obtain ⟨W4, hW4, kX, hb4⟩ : ∃ W4, w3.alloc (.cells #[.int .i64 h.now, .int .i64 h.last, .slice p1 h.sh.things.length q1, .slice p2 h.sh.bs.length q2, .slice p3 h.bs.length q3, .slice p4 h.ds.length q4] 99) = W4 ∧ W4.ownsRow w3.heap.size 99 6 (.slice (some ⟨w3.heap.size, 0, none⟩) 1 1) 1 [.int .i64 h.now, .int .i64 h.last, .slice p1 h.sh.things.length q1, .slice p2 h.sh.bs.length q2, .slice p3 h.bs.length q3, .slice p4 h.ds.length q4] ∧ Below w3.heap.size w3 W4 := ⟨_, rfl, World.ownsRow_lit w3 _ 1 (Nat.le_refl _) (by unfold maxLen; omega) rfl, (Below.refl _ _).alloc (Nat.le_refl _) _⟩
  try rw [hW4]
  have hb34 := up_trans hb3 hb4
  have H4 := H3.up hb4
  have kA4 := own_up kA2 hb34
  have kR4 := own_up kR2 hb34
  have hB4 := up_trans hB2 hb34
  have hz2 : w.heap.size + 1 < w2.heap.size := (kR2.lt _ rfl).2
  have hz3 := hb3.size
  have hz4 := hb4.size
  clear hW4 hcopy e0 e1 e2 e3 e4 e5 H3 H2 hb3 hb4 hb34 kA2 kR2 hB2
  obtain ⟨e0, -⟩ := (cb_of_rowK kA4).c6
  obtain ⟨x0', x1', x2', x3', x4', x5'⟩ := (cb_of_rowK kX).c6
  obtain ⟨g0', g1', g2', g3', g4', g5'⟩ := (cb_of_rowK kX).f6
  by_cases hnow : 100000 ≤ h.now
  · have HI : Hid (TickIs h 7 h) := .inr (.inl ⟨HK.out, hnow, rfl, rfl⟩)
    obtain ⟨y0, y1, y2, y3, y4, y5⟩ := (cb_of_rowK kR4).c6
    obtain ⟨f0, f1, f2, f3, f4, f5⟩ := (cb_of_rowK kR4).f6
    go_wp2_with fail
    refine end_cb6b Tryz.results96 Tryz.underlying99 rfl sizeHouseS (cb_of_rowK kR4) rfl rfl ?_
    have hg9 := grown_set6 W4 (w.heap.size + 1) (.int .i64 h.now) (.int .i64 h.last) (.slice p1 h.sh.things.length q1) (.slice p2 h.sh.bs.length q2) (.slice p3 h.bs.length q3) (.slice p4 h.ds.length q4)
    exact ⟨⟨h, _, _, _, _, 7, rfl, HI.out, ⟨hty, by omega, by omega⟩, HX.low (.inl (H4.box kR4 hg9)) (by omega)⟩, below_set6 hB4 (by omega) _ _ _ _ _ _⟩
  · have hn0 : 0 ≤ h.now := HK.out.1.1
    have hw0 : IntKind.i64.wrap (h.now + 1) = h.now + 1 := by rw [IntKind.wrap_i64]; omega
    have st := World.ownsRow.stored kX 0 (.int .i64 (h.now + 1))
    have hgX : W4.grownBy (W4.setCell ⟨w3.heap.size, 0, none⟩ (.int .i64 (h.now + 1))) (Value.slice (some ⟨w3.heap.size, 0, none⟩) 1 1).ownBlock := st.2
    obtain ⟨W6, hW6, kX6, kR6, H6, hB6⟩ : ∃ W6, W4.setCell ⟨w3.heap.size, 0, none⟩ (.int .i64 (h.now + 1)) = W6 ∧ W6.ownsRow w3.heap.size 99 6 (.slice (some ⟨w3.heap.size, 0, none⟩) 1 1) 1 [.int .i64 (h.now + 1), .int .i64 h.last, .slice p1 h.sh.things.length q1, .slice p2 h.sh.bs.length q2, .slice p3 h.bs.length q3, .slice p4 h.ds.length q4] ∧ W6.ownsRow w.heap.size 99 6 (.slice (some ⟨w.heap.size + 1, 0, none⟩) 1 1) 1 [.int .i64 0, .int .i64 0, .slice none 0 0, .slice none 0 0, .slice none 0 0, .slice none 0 0] ∧ HW W6 w2.heap.size (tickK h 0) (.slice p1 h.sh.things.length q1) (.slice p2 h.sh.bs.length q2) (.slice p3 h.bs.length q3) (.slice p4 h.ds.length q4) ∧ Below w.heap.size w W6 :=
      ⟨_, rfl, st.1, own_keep2 kR4 hgX (by simp [Value.ownBlock]; omega), (H4.box kX hgX).as rfl (by simp [tickK]) rfl, hB4.setCell (p := ⟨w3.heap.size, 0, none⟩) (by show _ ≤ w3.heap.size; omega) _⟩
    go_upto_region 8 with fail
    try rw [hW6]
    clear hW6 st hgX kX kR4 kA4 H4 hB4 e0 x0' x1' x2' x3' x4' x5' g0' g1' g2' g3' g4' g5'
    go_loopw [5] (fun i w' => ∃ k : Nat, k ≤ h.bs.length ∧ i = .int .i64 k ∧ w'.ownsRow w3.heap.size 99 6 (.slice (some ⟨w3.heap.size, 0, none⟩) 1 1) 1 [.int .i64 (h.now + 1), .int .i64 h.last, .slice p1 h.sh.things.length q1, .slice p2 h.sh.bs.length q2, .slice p3 h.bs.length q3, .slice p4 h.ds.length q4] ∧ w'.ownsRow w.heap.size 99 6 (.slice (some ⟨w.heap.size + 1, 0, none⟩) 1 1) 1 [.int .i64 0, .int .i64 0, .slice none 0 0, .slice none 0 0, .slice none 0 0, .slice none 0 0] ∧ HW w' w2.heap.size (tickK h k) (.slice p1 h.sh.things.length q1) (.slice p2 h.sh.bs.length q2) (.slice p3 h.bs.length q3) (.slice p4 h.ds.length q4) ∧ Below w.heap.size w w') (fun i _ => h.bs.length - (intOf i).toNat)
    case atStart => exact ⟨0, Nat.zero_le _, rfl, kX6, kR6, H6, hB6⟩
    case round =>
      clear kX6 kR6 H6 hB6
      obtain ⟨k, hkl, rfl, kX, kR, HH, hB⟩ := hrel
      by_cases hp : k < h.bs.length
      · obtain ⟨ps, hW, hm⟩ := HH.x
        have hpl : ps.length = h.bs.length := by have := congrArg List.length hm; rwa [List.length_map, tickK_len] at this
        obtain ⟨g, cap, eg⟩ := own_ptr2 hW.1 (by omega)
        simp only [Value.slice.injEq] at eg
        obtain ⟨rfl, -, rfl⟩ := eg
        have hrow := hW.1
        rw [hpl] at hrow
        obtain ⟨⟨x0, ru, su⟩, hpk⟩ : ∃ p, ps[k]? = some p := ⟨ps[k]'(by omega), List.getElem?_eq_getElem _⟩
        have hxk : (tickK h k).bs[k]? = some x0 := by rw [← hm, List.getElem?_map, hpk]; rfl
        have hx0 : h.bs[k]? = some x0 := by rw [← tickK_at hp]; exact hxk
        have Hx0 : Hid (h.bs[k]? = some x0) := hx0
        have Hxk : Hid ((tickK h k).bs[k]? = some x0) := hxk
        have q4 : World.cell? wr ⟨g, k * 6 + 4, none⟩ = some (.int .i64 x0.si) := (own_rows rowR_len hrow hpk) 4 _ rfl
        have f4 := hrow.frozenAt (k * 6 + 4)
        have e4 := (cb_of_rowK kX).c6.2.2.2.2.1
        have hglt : g < wr.heap.size := (hrow.lt g rfl).2
        clear hpk hm hpl hxk hx0 hW
        by_cases hsi : 0 ≤ x0.si
        · have hrk := HK.out.batch Hx0.out
          have hsb : x0.si < 1000 := by
            have h1 := hrk.2.2.2.2.2.2
            have h2 := (okB_wi (recB_ok hrk.2.1 (phOf_mem hrk.2.2.2.2.1))).2
            omega
          have hws : IntKind.i64.wrap (x0.si + 1) = x0.si + 1 := by rw [IntKind.wrap_i64]; omega
          clear hrk
          go_upto_region 11 with fail
          have hS1 : World.cell? wr.drew ⟨w3.heap.size, 4, none⟩ = some (.slice (some ⟨g, 0, none⟩) h.bs.length q3) ∧ World.cell? wr.drew ⟨g, k * 6 + 4, none⟩ = some (.int .i64 x0.si) := ⟨e4, q4⟩
          have hX1 := own_drew kX
          have hR1 := own_drew kR
          have hr1 := own_drew hrow
          have hH1 := HH.up (Below.refl _ _).drew
          have hB1 := hB.drew
          have f41 : World.frozen? wr.drew ⟨g, k * 6 + 4, none⟩ = false := f4
          clear e4 q4 f4
          refine wp_region_x 12 (fun w' => World.cell? w' ⟨w3.heap.size, 4, none⟩ = some (.slice (some ⟨g, 0, none⟩) h.bs.length q3) ∧ World.cell? w' ⟨g, k * 6 + 4, none⟩ = some (.int .i64 x0.si)) (by kernel_rfl) ?_
          generalize wr.drew = X1 at hS1 hX1 hR1 hr1 hH1 hB1 f41 ⊢
          refine tkx 0 rfl hS1 ?_
          refine tkx 1 rfl hS1 ?_
          refine tkx 2 rfl hS1 ?_
          refine tkx 3 rfl hS1 ?_
          refine tkx 4 rfl hS1 ?_
          refine tkx 5 rfl hS1 ?_
          refine tkx 6 rfl hS1 ?_
          refine tkx 7 rfl hS1 ?_
          refine tkx 8 rfl hS1 ?_
          refine tkx 9 rfl hS1 ?_
          refine anyX_one (i := 10) (by kernel_rfl) rfl (fun K hK => ?_)
          go_simp
          refine hK.out _ _ (fun _ => hS1) ?_; clear hK K
          refine tkx 11 rfl hS1 ?_
          refine anyX_one (i := 12) (by kernel_rfl) rfl (fun K hK => ?_)
          have q41 := hS1.2
          go_simp
          refine hK.out _ _ (fun h => absurd rfl h) ?_
          clear hK K
          refine anyX_done (by kernel_rfl) ?_ _
          have hg8 : X1.grownBy (X1.setCell ⟨g, k * 6 + 4, none⟩ (.int .i64 (x0.si + 1))) (Value.slice (some ⟨g, 0, none⟩) h.bs.length q3).ownBlock := (World.ownsRow.stored hr1 _ _).2
          have HT : Hid (tickB x0 = { x0 with si := x0.si + 1 }) := by show _ = _; unfold tickB; rw [if_pos hsi]
          have HH8 : HW (X1.setCell ⟨g, k * 6 + 4, none⟩ (.int .i64 (x0.si + 1))) w2.heap.size (tickK h (k + 1)) (.slice p1 h.sh.things.length q1) (.slice p2 h.sh.bs.length q2) (.slice (some ⟨g, 0, none⟩) h.bs.length q3) (.slice p4 h.ds.length q4) := (hH1.since Hxk.out (x0.si + 1)).as rfl (by rw [← tickK_step Hx0.out, HT.out]) rfl
          have kX8 := own_keep2 hX1 hg8 (own_apart2 hX1 hr1 (by decide))
          have kR8 := own_keep2 hR1 hg8 (own_apart2 hR1 hr1 (by decide))
          have hB8 : Below w.heap.size w (X1.setCell ⟨g, k * 6 + 4, none⟩ (.int .i64 (x0.si + 1))) := hB1.setCell (p := ⟨g, k * 6 + 4, none⟩) (by have := (hr1.lt g rfl).1; show _ ≤ g; omega) _
          clear hS1 hX1 hR1 hr1 hH1 hB1 f41 q41 hg8 kX kR HH hB hrow
          go_wp2_with fail
          go_roundw
          case rel => exact ⟨k + 1, by omega, by go_num, kX8, kR8, HH8, hB8⟩
          case measure => simp [intOf]; omega
        · have HT : Hid (tickK h (k + 1) = tickK h k) := tickK_same Hx0.out hsi
          go_wp2_with fail
          go_roundw
          case rel => exact ⟨k + 1, by omega, by go_num, kX, kR, by rw [HT.out]; exact HH, hB⟩
          case measure => simp [intOf]; omega
      · obtain rfl : k = h.bs.length := by omega
        rw [tickK_all] at HH
        obtain ⟨e0, e1, e2, e3, e4, e5⟩ := (cb_of_rowK kX).c6
        have hlen : (tickH h).bs.length = h.bs.length := by simp [tickH]
        have hz := hB.size
        have hx3 : w3.heap.size < wr.heap.size := (kX.lt w3.heap.size rfl).2
        have hwr : w2.heap.size ≤ wr.heap.size := by omega
        have hlate := late23_any (tickH h) _ _ _ _ w2.heap.size wr HH hwr hty (tickH_at HK.out) (by rw [hlen]; omega) hd20
        rw [hlen] at hlate
        obtain ⟨hl1, hl2, hl3, hl4⟩ := late_facts (h := tickH h) (k := h.bs.length) (by rw [hlen]; exact Nat.le_refl _)
        rw [hlen] at hl4
        have HTI : Hid (∀ h', AsksTo (lateTo (tickH h) h.bs.length) (lateTo (tickH h) h.bs.length).bs.length h' → TickIs h 0 h') := fun h' ha => .inr (.inr ⟨HK.out, by omega, rfl, ha⟩)
        generalize lateTo (tickH h) h.bs.length = L at *
        have hl1 : L.now = h.now + 1 := hl1
        have hl2 : L.last = h.last := hl2
        have hl5 : L.ds.length ≤ 20 := hl3 hd20
        have HAsk : Hid (∀ (w5 : World) (t5 b5 x5 d5 : Value), HW w5 w2.heap.size L t5 b5 x5 d5 → w2.heap.size ≤ w5.heap.size → Tiny L.sh → Calls Tryz.prog 113 #[.agg #[.int .i64 (h.now + 1), .int .i64 h.last, t5, b5, x5, d5]] w5 fun e w' => (∃ h' tu bu, e = .returned (.agg #[.int .i64 (h.now + 1), .int .i64 h.last, tu, bu, x5, d5]) ∧ AsksTo L L.bs.length h' ∧ Tiny h'.sh ∧ HW w' w2.heap.size h' tu bu x5 d5) ∧ w5.grownBy w' x5.ownBlock) := fun w5 t5 b5 x5 d5 h1 h2 h3 => by
          have := asks23_any L t5 b5 x5 d5 w2.heap.size w5 h1 h2 h3
          rw [hl1, hl2] at this; exact this
        have HCop : Hid (∀ (w6 : World) (h' : House) (t5 b5 x5 d5 : Value), HV w6 h' t5 b5 x5 d5 → AsksTo L L.bs.length h' → Tiny h'.sh → Few h' ∧ Calls Tryz.prog 111 #[.agg #[.int .i64 (h.now + 1), .int .i64 h.last, t5, b5, x5, d5]] w6 fun e w' => (∃ tu bu xu du, e = .returned (.agg #[.int .i64 h'.now, .int .i64 h'.last, tu, bu, xu, du]) ∧ HW w' w6.heap.size h' tu bu xu du) ∧ Below w6.heap.size w6 w') := fun w6 h' t5 b5 x5 d5 h1 h2 h3 => by
          obtain ⟨s1, s2, s3, s4⟩ := h2.same
          have hd : h'.ds.length ≤ 20 := by rw [s3]; exact hl5
          refine ⟨⟨h3, by omega, by omega⟩, ?_⟩
          have := copy22_any h' t5 b5 x5 d5 w6 h1 (by have := h3.1; omega) (by have := h3.2.1; omega) (fun y hy => by have := h3.2.2 y hy; omega) (by omega) (by omega)
          rw [s1, s2, hl1, hl2] at this
          rw [s1, s2, hl1, hl2]; exact this
        obtain ⟨ps, hW, -⟩ := HH.x
        have Hrow : Hid (wr.ownsRow w2.heap.size 26 6 (.slice p3 h.bs.length q3) ps.length (rowsF rowR ps)) := hW.1
        have Hd : Hid (DnsW wr w2.heap.size (.slice p4 h.ds.length q4) (tickH h).ds) := HH.d
        have Hxb : Hid _ := HH.xb
        have Hdb : Hid _ := HH.db
        clear hW hl1 hl2 hl3 hl4 hl5
        go_wp2_with (first
          | (go_at_call 116; refine hlate.mono ?_; rintro e w5 ⟨⟨t5, b5, x5, d5, rfl, hT5, H5, -, -⟩, hG5⟩; have kR5 := row_g2 kR hG5 Hrow.out Hd.out (by decide) (by decide); have hB5 := hB.trans (hG5.below hz (fun k e => by have := Hxb.out k e; omega) (fun k e => by have := Hdb.out k e; omega)); have hz5 := hG5.size)
          | (go_at_call 113; refine (HAsk.out w5 t5 b5 x5 d5 H5 (Nat.le_trans hwr hz5) hT5).mono ?_; rintro e w6 ⟨⟨h6, t6, b6, rfl, ha6, hT6, H6⟩, hG6⟩; obtain ⟨ps5, hW5, -⟩ := H5.x; have kR6 := own_keep2 kR5 hG6 (own_apart2 kR5 hW5.1 (by decide)); have hB6 := hB5.trans (gr_below hG6 (Nat.le_trans hz hz5) (fun k e => by have := H5.xb k e; omega)))
          | (go_at_call 111; obtain ⟨hfew, hc6⟩ := HCop.out w6 h6 t6 b6 x5 d5 H6.v ha6 hT6; refine hc6.mono ?_; rintro e w7 ⟨⟨t7, b7, x7, d7, rfl, H7⟩, hb7⟩; have kR7 := own_up kR6 hb7; have hB7 := up_trans hB6 hb7; obtain ⟨u1, v1, u2, v2, u3, v3, u4, v4, rfl, rfl, rfl, rfl⟩ := H7.v.shapes; obtain ⟨y0, y1, y2, y3, y4, y5⟩ := (cb_of_rowK kR7).c6; obtain ⟨f0, f1, f2, f3, f4, f5⟩ := (cb_of_rowK kR7).f6))
        refine end_cb6b Tryz.results96 Tryz.underlying99 rfl sizeHouseS (cb_of_rowK kR7) rfl rfl ?_
        have hg9 := grown_set6 w7 (w.heap.size + 1) (.int .i64 h6.now) (.int .i64 h6.last) (.slice u1 h6.sh.things.length v1) (.slice u2 h6.sh.bs.length v2) (.slice u3 h6.bs.length v3) (.slice u4 h6.ds.length v4)
        exact ⟨⟨h6, _, _, _, _, 0, rfl, HTI.out h6 ha6, hfew, HX.low (.inl (H7.box kR7 hg9)) hB6.size⟩, below_set6 hB7 (by omega) _ _ _ _ _ _⟩
end Go.Proofs.YtliebjbbomghiaaGreatDoor
