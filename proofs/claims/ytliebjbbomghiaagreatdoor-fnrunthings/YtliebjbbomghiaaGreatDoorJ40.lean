/- Houses: whose recipes are in a house that was led to. -/
import Derived.Test.YtliebjbbomghiaaGreatDoorC9
import Derived.Test.YtliebjbbomghiaaGreatDoorC10
import Derived.Test.YtliebjbbomghiaaGreatDoorJ8
namespace Go.Proofs.YtliebjbbomghiaaGreatDoor
open Go.RowKit

/-- Every recipe of a house is such. -/
def BsQ (Q : List Ph → List Sl → Prop) (h : House) : Prop := ∀ x ∈ h.bs, Q x.ps x.sl
theorem bsQ_set {Q : List Ph → List Sl → Prop} {l : List Rb} {k : Nat} {x : Rb} (h : ∀ y ∈ l, Q y.ps y.sl) (hx : Q x.ps x.sl) : ∀ y ∈ l.set k x, Q y.ps y.sl := fun y hy => by
  rcases List.mem_or_eq_of_mem_set hy with h1 | rfl
  · exact h y h1
  · exact hx
theorem AskAt.q {Q : List Ph → List Sl → Prop} {h h' : House} {k : Nat} (H : AskAt h k h') (hq : BsQ Q h) : BsQ Q h' := by
  obtain ⟨x, hx, ⟨-, rfl⟩ | ⟨-, cd, b', -, ⟨-, rfl⟩ | ⟨-, rfl⟩⟩⟩ := H
  · exact hq
  · exact hq
  · exact bsQ_set hq (hq x (List.mem_of_getElem? hx))
theorem AsksTo.q {Q : List Ph → List Sl → Prop} {h : House} : ∀ {k : Nat} {h' : House}, AsksTo h k h' → BsQ Q h → BsQ Q h'
  | 0, _, H, hq => by obtain rfl := H; exact hq
  | _ + 1, _, ⟨_, H1, H2⟩, hq => H2.q (H1.q hq)
theorem onH_q {Q : List Ph → List Sl → Prop} {h : House} (k : Nat) (nm : ByteArray) (hq : BsQ Q h) : BsQ Q (onH h k nm) := by
  unfold onH
  split
  · exact hq
  · rename_i x hx
    split
    · exact bsQ_set hq (hq x (List.mem_of_getElem? hx))
    · intro y hy
      rcases List.mem_append.1 hy with h1 | h1
      · exact hq y (List.mem_of_mem_take h1)
      · exact hq y (List.mem_of_mem_drop h1)
theorem lateAt_q {Q : List Ph → List Sl → Prop} {h : House} (k : Nat) (hq : BsQ Q h) : BsQ Q (lateAt h k) := by
  unfold lateAt
  split
  · exact hq
  · split
    · exact onH_q _ _ hq
    · exact hq
theorem lateTo_q {Q : List Ph → List Sl → Prop} : ∀ (k : Nat) {h : House}, BsQ Q h → BsQ Q (lateTo h k)
  | 0, _, hq => hq
  | k + 1, _, hq => lateTo_q k (lateAt_q k hq)
theorem tickH_q {Q : List Ph → List Sl → Prop} {h : House} (hq : BsQ Q h) : BsQ Q (tickH h) := fun y hy => by
  obtain ⟨x, hx, rfl⟩ := List.mem_map.1 hy
  have e : (tickB x).ps = x.ps := by unfold tickB; split <;> rfl
  have e2 : (tickB x).sl = x.sl := by unfold tickB; split <;> rfl
  rw [e, e2]
  exact hq x hx
theorem none_q (Q : List Ph → List Sl → Prop) : BsQ Q noHouse := fun y hy => by simp [noHouse] at hy
theorem TickIs.q {Q : List Ph → List Sl → Prop} {h h' : House} {cd : Int} (H : TickIs h cd h') (hq : BsQ Q h) : BsQ Q h' := by
  rcases H with ⟨-, -, rfl⟩ | ⟨-, -, -, rfl⟩ | ⟨-, -, -, H⟩
  · exact none_q Q
  · exact hq
  · exact H.q (lateTo_q _ (tickH_q hq))
theorem SayIs.q {Q : List Ph → List Sl → Prop} {h h' : House} {nm : ByteArray} {well : Bool} {cd : Int} (H : SayIs h nm well cd h') (hq : BsQ Q h) : BsQ Q h' := by
  rcases H with ⟨-, -, rfl⟩ | ⟨-, -, -, rfl⟩ | ⟨k, x, -, -, -, ⟨-, -, rfl⟩ | ⟨-, -, H⟩⟩
  · exact none_q Q
  · exact hq
  · exact hq
  · exact H.q (onH_q _ _ hq)
theorem startH_q {Q : List Ph → List Sl → Prop} {h : House} {nm : ByteArray} {ps : List Ph} {sl : List Sl} (hq : BsQ Q h) (hp : Q ps sl) : BsQ Q (startH h nm ps sl) := fun y hy => by
  rcases List.mem_append.1 hy with h1 | h1
  · exact hq y h1
  · obtain rfl := List.mem_singleton.1 h1
    exact hp
theorem StartIs.q {Q : List Ph → List Sl → Prop} {h h' : House} {nm : ByteArray} {ps : List Ph} {sl : List Sl} {cd : Int} (H : StartIs h nm ps sl cd h') (hq : BsQ Q h) (hp : Q ps sl) : BsQ Q h' := by
  rcases H with ⟨-, -, rfl⟩ | ⟨-, -, -, rfl⟩ | ⟨-, -, -, -, rfl⟩ | ⟨-, -, -, -, -, rfl⟩ | ⟨-, -, -, -, -, H⟩
  · exact none_q Q
  · exact hq
  · exact hq
  · exact hq
  · exact H.q (startH_q hq hp)
end Go.Proofs.YtliebjbbomghiaaGreatDoor

/- Drawing houses: one step. -/
namespace Go.Proofs.YtliebjbbomghiaaGreatDoor
open Go.RowKit

theorem CB.c5 {w : World} {b : Nat} {x0 x1 x2 x3 x4 : Value} (h : CB w b [x0, x1, x2, x3, x4]) : w.cell? ⟨b, 0, none⟩ = some x0 ∧ w.cell? ⟨b, 1, none⟩ = some x1 ∧ w.cell? ⟨b, 2, none⟩ = some x2 ∧ w.cell? ⟨b, 3, none⟩ = some x3 ∧ w.cell? ⟨b, 4, none⟩ = some x4 :=
  ⟨h.1 0 _ rfl, h.1 1 _ rfl, h.1 2 _ rfl, h.1 3 _ rfl, h.1 4 _ rfl⟩
theorem HX.shapes {w : World} {base : Nat} {h : House} {tv bv xv dv : Value} (H : HX w base h tv bv xv dv) : ∃ a1 n1 c1 a2 n2 c2 a3 n3 c3 a4 n4 c4, tv = .slice a1 n1 c1 ∧ bv = .slice a2 n2 c2 ∧ xv = .slice a3 n3 c3 ∧ dv = .slice a4 n4 c4 := by
  obtain ⟨a1, c1, a2, c2, a3, c3, a4, c4, rfl, rfl, rfl, rfl⟩ := H.v.shapes
  exact ⟨a1, _, c1, a2, _, c2, a3, _, c3, a4, _, c4, rfl, rfl, rfl, rfl⟩
set_option maxRecDepth 20000 in
set_option maxHeartbeats 8000000 in
theorem step25_any (h : House) (tv bv xv dv : Value) (kd : Int) (nm : ByteArray) (ps : List Ph) (sl : List Sl) (ar asl : Option Addr) (nr cr ns cs : Nat) (well : Bool) (w : World) (H : HV w h tv bv xv dv) (hd : kd = 1 → RbV w (newB h nm ps sl) (.slice ar nr cr) (.slice asl ns cs)) :
    Calls Tryz.prog 71 #[.agg #[.int .i64 h.now, .int .i64 h.last, tv, bv, xv, dv], .agg #[.int .i64 kd, .string nm, .slice ar nr cr, .slice asl ns cs, .bool well]] w fun e w' => (∃ h' tu bu xu du, e = .returned (.agg #[.int .i64 h'.now, .int .i64 h'.last, tu, bu, xu, du]) ∧ Few h' ∧ (∀ (Q : List Ph → List Sl → Prop), BsQ Q h → (kd = 1 → Q ps sl) → BsQ Q h') ∧ HX w' w.heap.size h' tu bu xu du) ∧ Below w.heap.size w w' := by
  obtain ⟨a1, c1, a2, c2, a3, c3, a4, c4, rfl, rfl, rfl, rfl⟩ := H.shapes
  obtain ⟨W1, hW1, kA, kD, kR, hB1, hs1⟩ : ∃ W1, ((w.alloc (.cells #[.int .i64 h.now, .int .i64 h.last, .slice a1 h.sh.things.length c1, .slice a2 h.sh.bs.length c2, .slice a3 h.bs.length c3, .slice a4 h.ds.length c4] 99)).alloc (.cells #[.int .i64 kd, .string nm, .slice ar nr cr, .slice asl ns cs, .bool well] 127)).alloc (.cells #[.int .i64 0, .int .i64 0, .slice none 0 0, .slice none 0 0, .slice none 0 0, .slice none 0 0] 99) = W1 ∧ CB W1 w.heap.size [.int .i64 h.now, .int .i64 h.last, .slice a1 h.sh.things.length c1, .slice a2 h.sh.bs.length c2, .slice a3 h.bs.length c3, .slice a4 h.ds.length c4] ∧ CB W1 (w.heap.size + 1) [.int .i64 kd, .string nm, .slice ar nr cr, .slice asl ns cs, .bool well] ∧ CB W1 (w.heap.size + 2) [.int .i64 0, .int .i64 0, .slice none 0 0, .slice none 0 0, .slice none 0 0, .slice none 0 0] ∧ Below w.heap.size w W1 ∧ W1.heap.size = w.heap.size + 3 := ⟨_, rfl, cb3 w _ _ _ _ _ _⟩
  have hA0 : w.heap.size < W1.heap.size := by omega
  have hR0 : w.heap.size + 2 < W1.heap.size := by omega
  have hLW : w.heap.size ≤ W1.heap.size := by omega
  clear hs1
  go_enter Tryz.func71, Tryz.ntmps71
  go_upto_region 1 with fail
  try rw [hW1]
  clear hW1
  have H1 := H.up hB1
  obtain ⟨e0, e1, e2, e3, e4, e5⟩ := kA.c6
  obtain ⟨d0, d1, d2, d3, d4⟩ := kD.c5
  by_cases h1 : kd = 1
  · subst h1
    have hc := startS_any h _ _ _ _ nm ps sl _ _ W1 H1 ((hd rfl).up hB1)
    go_upto_region 7 with (go_at_call 94; refine hc.mono ?_; rintro e w2 ⟨⟨h', tu, bu, xu, du, cd, rfl, hIs, hfew, H2⟩, hb2⟩; have HQ : Hid (∀ (Q : List Ph → List Sl → Prop), BsQ Q h → ((1 : Int) = 1 → Q ps sl) → BsQ Q h') := fun Q hq hp => hIs.q hq (hp rfl); clear hIs; have kA := kA.up hb2 hA0; have kR := kR.up hb2 hR0; have hB := up_trans hB1 hb2; obtain ⟨p1, i1, q1, p2, i2, q2, p3, i3, q3, p4, i4, q4, rfl, rfl, rfl, rfl⟩ := H2.shapes; clear e0 e1 e2 e3 e4 e5; obtain ⟨e0, e1, e2, e3, e4, e5⟩ := kA.c6; obtain ⟨f0, f1, f2, f3, f4, f5⟩ := kA.f6)
    have kA9 := kA.copy6 (.int .i64 h'.now) (.int .i64 h'.last) (.slice p1 i1 q1) (.slice p2 i2 q2) (.slice p3 i3 q3) (.slice p4 i4 q4); have hg9 := grown_set6 w2 w.heap.size (.int .i64 h'.now) (.int .i64 h'.last) (.slice p1 i1 q1) (.slice p2 i2 q2) (.slice p3 i3 q3) (.slice p4 i4 q4); have kR9 := kR.kept hg9 (by simp); have H9 := H2.gr hg9 hA0; have hB9 := below_set6 hB (Nat.le_refl _) (.int .i64 h'.now) (.int .i64 h'.last) (.slice p1 i1 q1) (.slice p2 i2 q2) (.slice p3 i3 q3) (.slice p4 i4 q4); clear e0 e1 e2 e3 e4 e5 f0 f1 f2 f3 f4 f5 hg9 H2 kA kR hB; generalize ((((((w2.setCell ⟨w.heap.size, 0, none⟩ (.int .i64 h'.now)).setCell ⟨w.heap.size, 1, none⟩ (.int .i64 h'.last)).setCell ⟨w.heap.size, 2, none⟩ (.slice p1 i1 q1)).setCell ⟨w.heap.size, 3, none⟩ (.slice p2 i2 q2)).setCell ⟨w.heap.size, 4, none⟩ (.slice p3 i3 q3)).setCell ⟨w.heap.size, 5, none⟩ (.slice p4 i4 q4)) = W9 at *; obtain ⟨e0, e1, e2, e3, e4, e5⟩ := kA9.c6; obtain ⟨y0, y1, y2, y3, y4, y5⟩ := kR9.c6; obtain ⟨f0, f1, f2, f3, f4, f5⟩ := kR9.f6; go_wp2_with fail; refine end_cb6 Tryz.results71 Tryz.underlying99 rfl sizeHouseS kR9 rfl ?_; have hg8 := grown_set6 W9 (w.heap.size + 2) (.int .i64 h'.now) (.int .i64 h'.last) (.slice p1 i1 q1) (.slice p2 i2 q2) (.slice p3 i3 q3) (.slice p4 i4 q4); exact ⟨⟨h', _, _, _, _, rfl, hfew, (by intro Q hq; first | exact HQ.out Q hq | exact fun hp => HQ.out Q hq (fun _ => hp) | exact HQ.out Q hq (fun e => by simp at e)), (H9.gr hg8 hR0).low (by omega)⟩, below_set6 hB9 (by omega) _ _ _ _ _ _⟩
  · by_cases h2 : kd = 2
    · subst h2
      have hc := sayS_any h _ _ _ _ nm well W1 H1
      go_upto_region 7 with (go_at_call 95; refine hc.mono ?_; rintro e w2 ⟨⟨h', tu, bu, xu, du, cd, rfl, hIs, hfew, H2⟩, hb2⟩; have HQ : Hid (∀ (Q : List Ph → List Sl → Prop), BsQ Q h → ((2 : Int) = 1 → Q ps sl) → BsQ Q h') := fun Q hq hp => hIs.q hq; clear hIs; have kA := kA.up hb2 hA0; have kR := kR.up hb2 hR0; have hB := up_trans hB1 hb2; obtain ⟨p1, i1, q1, p2, i2, q2, p3, i3, q3, p4, i4, q4, rfl, rfl, rfl, rfl⟩ := H2.shapes; clear e0 e1 e2 e3 e4 e5; obtain ⟨e0, e1, e2, e3, e4, e5⟩ := kA.c6; obtain ⟨f0, f1, f2, f3, f4, f5⟩ := kA.f6)
      have kA9 := kA.copy6 (.int .i64 h'.now) (.int .i64 h'.last) (.slice p1 i1 q1) (.slice p2 i2 q2) (.slice p3 i3 q3) (.slice p4 i4 q4); have hg9 := grown_set6 w2 w.heap.size (.int .i64 h'.now) (.int .i64 h'.last) (.slice p1 i1 q1) (.slice p2 i2 q2) (.slice p3 i3 q3) (.slice p4 i4 q4); have kR9 := kR.kept hg9 (by simp); have H9 := H2.gr hg9 hA0; have hB9 := below_set6 hB (Nat.le_refl _) (.int .i64 h'.now) (.int .i64 h'.last) (.slice p1 i1 q1) (.slice p2 i2 q2) (.slice p3 i3 q3) (.slice p4 i4 q4); clear e0 e1 e2 e3 e4 e5 f0 f1 f2 f3 f4 f5 hg9 H2 kA kR hB; generalize ((((((w2.setCell ⟨w.heap.size, 0, none⟩ (.int .i64 h'.now)).setCell ⟨w.heap.size, 1, none⟩ (.int .i64 h'.last)).setCell ⟨w.heap.size, 2, none⟩ (.slice p1 i1 q1)).setCell ⟨w.heap.size, 3, none⟩ (.slice p2 i2 q2)).setCell ⟨w.heap.size, 4, none⟩ (.slice p3 i3 q3)).setCell ⟨w.heap.size, 5, none⟩ (.slice p4 i4 q4)) = W9 at *; obtain ⟨e0, e1, e2, e3, e4, e5⟩ := kA9.c6; obtain ⟨y0, y1, y2, y3, y4, y5⟩ := kR9.c6; obtain ⟨f0, f1, f2, f3, f4, f5⟩ := kR9.f6; go_wp2_with fail; refine end_cb6 Tryz.results71 Tryz.underlying99 rfl sizeHouseS kR9 rfl ?_; have hg8 := grown_set6 W9 (w.heap.size + 2) (.int .i64 h'.now) (.int .i64 h'.last) (.slice p1 i1 q1) (.slice p2 i2 q2) (.slice p3 i3 q3) (.slice p4 i4 q4); exact ⟨⟨h', _, _, _, _, rfl, hfew, (by intro Q hq; first | exact HQ.out Q hq | exact fun hp => HQ.out Q hq (fun _ => hp) | exact HQ.out Q hq (fun e => by simp at e)), (H9.gr hg8 hR0).low (by omega)⟩, below_set6 hB9 (by omega) _ _ _ _ _ _⟩
    · have hc := tickS_any h _ _ _ _ W1 H1
      go_upto_region 7 with (go_at_call 96; refine hc.mono ?_; rintro e w2 ⟨⟨h', tu, bu, xu, du, cd, rfl, hIs, hfew, H2⟩, hb2⟩; have HQ : Hid (∀ (Q : List Ph → List Sl → Prop), BsQ Q h → (kd = 1 → Q ps sl) → BsQ Q h') := fun Q hq hp => hIs.q hq; clear hIs; have kA := kA.up hb2 hA0; have kR := kR.up hb2 hR0; have hB := up_trans hB1 hb2; obtain ⟨p1, i1, q1, p2, i2, q2, p3, i3, q3, p4, i4, q4, rfl, rfl, rfl, rfl⟩ := H2.shapes; clear e0 e1 e2 e3 e4 e5; obtain ⟨e0, e1, e2, e3, e4, e5⟩ := kA.c6; obtain ⟨f0, f1, f2, f3, f4, f5⟩ := kA.f6)
      have kA9 := kA.copy6 (.int .i64 h'.now) (.int .i64 h'.last) (.slice p1 i1 q1) (.slice p2 i2 q2) (.slice p3 i3 q3) (.slice p4 i4 q4); have hg9 := grown_set6 w2 w.heap.size (.int .i64 h'.now) (.int .i64 h'.last) (.slice p1 i1 q1) (.slice p2 i2 q2) (.slice p3 i3 q3) (.slice p4 i4 q4); have kR9 := kR.kept hg9 (by simp); have H9 := H2.gr hg9 hA0; have hB9 := below_set6 hB (Nat.le_refl _) (.int .i64 h'.now) (.int .i64 h'.last) (.slice p1 i1 q1) (.slice p2 i2 q2) (.slice p3 i3 q3) (.slice p4 i4 q4); clear e0 e1 e2 e3 e4 e5 f0 f1 f2 f3 f4 f5 hg9 H2 kA kR hB; generalize ((((((w2.setCell ⟨w.heap.size, 0, none⟩ (.int .i64 h'.now)).setCell ⟨w.heap.size, 1, none⟩ (.int .i64 h'.last)).setCell ⟨w.heap.size, 2, none⟩ (.slice p1 i1 q1)).setCell ⟨w.heap.size, 3, none⟩ (.slice p2 i2 q2)).setCell ⟨w.heap.size, 4, none⟩ (.slice p3 i3 q3)).setCell ⟨w.heap.size, 5, none⟩ (.slice p4 i4 q4)) = W9 at *; obtain ⟨e0, e1, e2, e3, e4, e5⟩ := kA9.c6; obtain ⟨y0, y1, y2, y3, y4, y5⟩ := kR9.c6; obtain ⟨f0, f1, f2, f3, f4, f5⟩ := kR9.f6; go_wp2_with fail; refine end_cb6 Tryz.results71 Tryz.underlying99 rfl sizeHouseS kR9 rfl ?_; have hg8 := grown_set6 W9 (w.heap.size + 2) (.int .i64 h'.now) (.int .i64 h'.last) (.slice p1 i1 q1) (.slice p2 i2 q2) (.slice p3 i3 q3) (.slice p4 i4 q4); exact ⟨⟨h', _, _, _, _, rfl, hfew, (by intro Q hq; first | exact HQ.out Q hq | exact fun hp => HQ.out Q hq (fun _ => hp) | exact HQ.out Q hq (fun e => by simp at e)), (H9.gr hg8 hR0).low (by omega)⟩, below_set6 hB9 (by omega) _ _ _ _ _ _⟩
end Go.Proofs.YtliebjbbomghiaaGreatDoor

/- Drawing: the reader is opened; the names. -/
namespace Go.Proofs.YtliebjbbomghiaaGreatDoor
open Go.RowKit

theorem open_any (a : Option Addr) (n cap : Nat) (w : World) (h : BytesAt w w.heap.size (.slice a n cap) n) (hcap : n ≤ cap) (_hbig : cap ≤ maxLen) :
    Calls Tryz.prog 14 #[.slice a n cap] w
      fun e w' => (∃ (rb len : Nat) (v : Value), e = .returned (.pointer (some ⟨rb, 0, none⟩)) ∧ Rd w' rb v len 0 ∧ w.heap.size ≤ rb) ∧ Below w.heap.size w w' := by
  by_cases hn : 2000 < n
  · go_enter Tryz.func14, Tryz.ntmps14
    go_wp2_with fail
    go_ret
    exact ⟨⟨w.heap.size, 2000, _, rfl, rd_alloc w _ 2000 _ (h.cut (by omega)) (by omega), Nat.le_refl _⟩, (Below.refl _ _).alloc (Nat.le_refl _) _⟩
  · go_enter Tryz.func14, Tryz.ntmps14
    go_wp2_with fail
    go_ret
    exact ⟨⟨w.heap.size, n, _, rfl, rd_alloc w _ n _ h (by omega), Nat.le_refl _⟩, (Below.refl _ _).alloc (Nat.le_refl _) _⟩

def namesL : List ByteArray := [⟨#[98, 114, 101, 119]⟩, ⟨#[102, 49]⟩, ⟨#[102, 50]⟩, ⟨#[103]⟩, ⟨#[104]⟩, ⟨#[109, 97, 115, 104]⟩, ⟨#[114, 101, 115, 116]⟩, ⟨#[120, 45, 57]⟩]
theorem names_any (w : World) :
    Calls Tryz.prog 74 #[] w
      fun e w' => e = .returned (.slice (some ⟨w.heap.size, 0, none⟩) 8 8) ∧ w' = w.alloc (.cells (namesL.map Value.string).toArray 9) := by
  go_enter Tryz.func74, Tryz.ntmps74
  go_wp2_with fail
  go_ret
  exact ⟨rfl, rfl⟩
end Go.Proofs.YtliebjbbomghiaaGreatDoor
