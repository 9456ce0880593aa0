/- Runs by the program: the says one by one. -/
import Derived.Test.YtmccabenfdigdaaGreatDoorE1
import Derived.Test.YtmccabenfdigdaaGreatDoorWg3
import Derived.Test.YtmccabenfdigdaaGreatDoorRf
import Derived.Test.YtmccabenfdigdaaGreatDoorWr3
namespace Go.Proofs.YtmccabenfdigdaaGreatDoor
open Go.RowKit

theorem CB.c1 {w : World} {b : Nat} {x0 : Value} (h : CB w b [x0]) : w.cell? ⟨b, 0, none⟩ = some x0 ∧ w.frozen? ⟨b, 0, none⟩ = false := ⟨h.1 0 _ rfl, (h.2.1 0 (by simp)).2⟩
/-- The box of the says that are left. -/
def SB (w : World) (q b2 : Nat) (ys : List Sy) : Prop := ∃ a c, CB w q [.slice a ys.length c] ∧ ys.length ≤ c ∧ c ≤ 9223372036854775807 ∧ (ys = [] ∨ ∃ o, a = some ⟨b2, o, none⟩ ∧ SayAt w b2 o ys)
theorem SB.up {w w' : World} {q b2 : Nat} {ys : List Sy} (h : SB w q b2 ys) (hb : Below w.heap.size w w') (hb2 : b2 < w.heap.size) : SB w' q b2 ys := by
  obtain ⟨a, c, k, h1, h2, h3⟩ := h
  refine ⟨a, c, k.up hb k.2.2, h1, h2, ?_⟩
  rcases h3 with h3 | ⟨o, ha, hs⟩
  · exact .inl h3
  · exact .inr ⟨o, ha, hs.up hb hb2⟩
theorem SayAt.kept {w w' : World} {b o q : Nat} {ys : List Sy} (h : SayAt w b o ys) (hg : w.grownBy w' (some q)) (hne : b ≠ q) : SayAt w' b o ys := fun i p hp j v hv => hg.cell (h i p hp j v hv) (by simpa using hne)
theorem SB.kept {w w' : World} {q b2 r : Nat} {ys : List Sy} (h : SB w q b2 ys) (hg : w.grownBy w' (some r)) (hq : q ≠ r) (hb2 : b2 ≠ r) : SB w' q b2 ys := by
  obtain ⟨a, c, k, h1, h2, h3⟩ := h
  refine ⟨a, c, k.kept hg (by simpa using hq), h1, h2, ?_⟩
  rcases h3 with h3 | ⟨o, ha, hs⟩
  · exact .inl h3
  · exact .inr ⟨o, ha, hs.kept hg hb2⟩

set_option maxRecDepth 20000 in
set_option maxHeartbeats 2000000 in
theorem said_any (ys : List Sy) (q b2 : Nat) (w : World) (h : SB w q b2 ys) (hb2 : b2 < w.heap.size) (hne : b2 ≠ q) :
    Calls Tryz.prog 66 #[.pointer (some ⟨q, 0, none⟩)] w
      fun e w' => e = .returned (.agg #[.int .i64 (ys.head?.getD Sy.late).t, .bool (ys.head?.getD Sy.late).well]) ∧ SB w' q b2 ys.tail ∧ w.grownBy w' (some q) := by
  obtain ⟨a, c, k, hlc, hc9, hya⟩ := h
  have hq := k.2.2
  have hB1 : Below w.heap.size w (w.alloc (.cells #[.int .i64 0, .bool false] 41)) := (Below.refl _ _).alloc (Nat.le_refl _) _
  have k1 := k.up hB1 k.2.2
  obtain ⟨c0, f0⟩ := k1.c1
  have kR : CB (w.alloc (.cells #[.int .i64 0, .bool false] 41)) w.heap.size [.int .i64 0, .bool false] := cb_alloc w [.int .i64 0, .bool false] _
  have hs1 : (w.alloc (.cells #[.int .i64 0, .bool false] 41)).heap.size = w.heap.size + 1 := by simp
  cases ys with
  | nil =>
    obtain ⟨⟨d0, d1⟩, g0, g1⟩ := kR.c2
    simp only [List.length_nil] at c0 k k1
    go_enter Tryz.func66, Tryz.ntmps66
    go_upto_region 1 with fail
    generalize w.alloc (.cells #[.int .i64 0, .bool false] 41) = W1 at *
    go_wp2_with fail
    refine end_cb2 Tryz.results66 Tryz.underlying41 rfl sizeSyI kR rfl ?_
    refine ⟨rfl, ⟨a, c, k1.otherCopy (by omega) [.int .i64 1001, .bool false], by simp, hc9, .inl rfl⟩, ?_⟩
    exact grown_new (grown_below hB1) (grown_copies w.heap.size [.int .i64 1001, .bool false] 0 _ _ _ (World.grownBy.refl' _) rfl) (Nat.le_refl _)
  | cons y r =>
    obtain ⟨o, rfl, hsay⟩ := hya.resolve_left (by simp)
    obtain ⟨y0, y1⟩ := (hsay.up hB1 hb2).cells 0 (by simp)
    simp only [Nat.zero_mul, Nat.add_zero, List.getElem_cons_zero, List.length_cons] at y0 y1 c0 hlc k k1
    have hd := hsay.drop 1
    simp only [List.drop_succ_cons, List.drop_zero] at hd
    go_enter Tryz.func66, Tryz.ntmps66
    go_upto_region 1 with fail
    generalize w.alloc (.cells #[.int .i64 0, .bool false] 41) = W1 at *
    go_upto_region 4 with fail
    clear y0 y1 c0 f0
    obtain ⟨W2, hW2, kY, hB2, hs2⟩ : ∃ W2, W1.alloc (.cells #[.int .i64 y.t, .bool y.well] 41) = W2 ∧ CB W2 W1.heap.size y.cellsI ∧ Below W1.heap.size W1 W2 ∧ W2.heap.size = W1.heap.size + 1 := ⟨_, rfl, cb1 W1 y.cellsI _⟩
    rw [hW2]
    clear hW2
    rw [hs1] at kY hs2
    have hB := up_trans hB1 hB2
    have k2 := k1.up hB2 k1.2.2
    have kR := kR.up hB2 kR.2.2
    have hd := hd.up hB hb2
    clear hB2 k1 k hsay hya
    obtain ⟨c0, f0⟩ := k2.c1
    by_cases hc1 : c = 1
    · subst hc1
      obtain rfl : r = [] := List.length_eq_zero_iff.1 (by omega)
      go_upto_region 5 with fail
      have k3 : CB (W2.setCell ⟨q, 0, none⟩ (.slice (some ⟨b2, o, none⟩) 0 0)) q [.slice (some ⟨b2, o, none⟩) 0 0] := k2.set (j := 0) (by simp)
      have kY3 : CB (W2.setCell ⟨q, 0, none⟩ (.slice (some ⟨b2, o, none⟩) 0 0)) (w.heap.size + 1) y.cellsI := kY.other (by omega)
      have kR3 : CB (W2.setCell ⟨q, 0, none⟩ (.slice (some ⟨b2, o, none⟩) 0 0)) w.heap.size [.int .i64 0, .bool false] := kR.other (by omega)
      have hG : w.grownBy (W2.setCell ⟨q, 0, none⟩ (.slice (some ⟨b2, o, none⟩) 0 0)) (some q) := grown_setCell (grown_below hB) _
      clear c0 f0 hd
      generalize W2.setCell ⟨q, 0, none⟩ (.slice (some ⟨b2, o, none⟩) 0 0) = W3 at *
      obtain ⟨⟨e0, e1⟩, -⟩ := kY3.c2
      obtain ⟨⟨d0, d1⟩, g0, g1⟩ := kR3.c2
      go_wp2_with fail
      refine end_cb2 Tryz.results66 Tryz.underlying41 rfl sizeSyI kR3 rfl ?_
      have hg4 := grown_copies w.heap.size [.int .i64 y.t, .bool y.well] 0 W3 W3 (some w.heap.size) (World.grownBy.refl' _) rfl
      exact ⟨rfl, ⟨_, _, k3.otherCopy (by omega) [.int .i64 y.t, .bool y.well], by simp, by omega, .inl rfl⟩, grown_new hG hg4 (Nat.le_refl _)⟩
    · go_upto_region 5 with fail
      have k3 : CB (W2.setCell ⟨q, 0, none⟩ (.slice (some ⟨b2, o + 2, none⟩) r.length (c - 1))) q [.slice (some ⟨b2, o + 2, none⟩) r.length (c - 1)] := k2.set (j := 0) (by simp)
      have kY3 : CB (W2.setCell ⟨q, 0, none⟩ (.slice (some ⟨b2, o + 2, none⟩) r.length (c - 1))) (w.heap.size + 1) y.cellsI := kY.other (by omega)
      have kR3 : CB (W2.setCell ⟨q, 0, none⟩ (.slice (some ⟨b2, o + 2, none⟩) r.length (c - 1))) w.heap.size [.int .i64 0, .bool false] := kR.other (by omega)
      have hG : w.grownBy (W2.setCell ⟨q, 0, none⟩ (.slice (some ⟨b2, o + 2, none⟩) r.length (c - 1))) (some q) := grown_setCell (grown_below hB) _
      have hd3 : SayAt (W2.setCell ⟨q, 0, none⟩ (.slice (some ⟨b2, o + 2, none⟩) r.length (c - 1))) b2 (o + 1 * 2) r := hd.kept (grown_setCell (grown_refl _ _) _) hne
      clear c0 f0 hd
      generalize W2.setCell ⟨q, 0, none⟩ (.slice (some ⟨b2, o + 2, none⟩) r.length (c - 1)) = W3 at *
      obtain ⟨⟨e0, e1⟩, -⟩ := kY3.c2
      obtain ⟨⟨d0, d1⟩, g0, g1⟩ := kR3.c2
      go_wp2_with fail
      refine end_cb2 Tryz.results66 Tryz.underlying41 rfl sizeSyI kR3 rfl ?_
      have hg4 := grown_copies w.heap.size [.int .i64 y.t, .bool y.well] 0 W3 W3 (some w.heap.size) (World.grownBy.refl' _) rfl
      exact ⟨rfl, ⟨_, _, k3.otherCopy (by omega) [.int .i64 y.t, .bool y.well], by simp; omega, by omega, .inr ⟨_, rfl, hd3.kept hg4 (by omega)⟩⟩, grown_new hG hg4 (Nat.le_refl _)⟩

/-- The function that keeps the says. -/
theorem recSaid_any (a : Option Addr) (n c : Nat) (w : World) : Calls Tryz.prog 50 #[.slice a n c] w fun e w' => e = .returned (.func (.func 66) #[] #[.pointer (some ⟨w.heap.size, 0, none⟩)]) ∧ w' = w.alloc (.cells #[.slice a n c] 24) := by
  go_enter Tryz.func50, Tryz.ntmps50
  go_wp2_with fail
  go_ret
  exact ⟨rfl, rfl⟩
theorem recStates_any (a a2 : Option Addr) (n c n2 c2 : Nat) (w : World) : Calls Tryz.prog 21 #[.slice a n c, .slice a2 n2 c2] w fun e w' => e = .returned (.func (.func 49) #[] #[.pointer (some ⟨w.heap.size + 1, 0, none⟩), .pointer (some ⟨w.heap.size, 0, none⟩)]) ∧ w' = (w.alloc (.cells #[.slice a n c] 23)).alloc (.cells #[.slice a2 n2 c2] 24) := by
  go_enter Tryz.func21, Tryz.ntmps21
  go_wp2_with fail
  go_ret
  exact ⟨rfl, rfl⟩
end Go.Proofs.YtmccabenfdigdaaGreatDoor

/- Runs by the program: what lies where while RecRun runs. -/
namespace Go.Proofs.YtmccabenfdigdaaGreatDoor
open Go Go.RowKit

/-- The blocks, one behind the other: the result, s, path, the box of r, the two of the loop, the box of the says, the iterator's own s; behind them all the path's row. -/
structure Bk where
  a : Nat
  s : Nat
  p : Nat
  r : Nat
  d : Nat
  l : Nat
  n : Nat
  t : Nat
  z : Nat
def Bk.ok (k : Bk) (B : Nat) : Prop := B ≤ k.a ∧ k.a < k.s ∧ k.s < k.p ∧ k.p < k.r ∧ k.r < k.d ∧ k.d < k.l ∧ k.l < k.n ∧ k.n < k.t ∧ k.t < k.z
/-- The path has i names, the iterator is at j; s holds y. -/
structure RJ (w W : World) (k : Bk) (b o c b2 : Nat) (ps : List Ph) (ys : List Sy) (lp : Loop) (i j h : Nat) (y : St) : Prop where
  a : CB W k.a St.none.cells
  s : CB W k.s y.cells
  p : ∃ u, CB W k.p [u] ∧ OwnT W k.z u (pathN ps ys i)
  r : CB W k.r [.slice (some ⟨b, o, none⟩) ps.length c]
  n : SB W k.n b2 (ys.drop h)
  t : CB W k.t (stN ps ys j).cells
  re : RecAt W b o ps
  d : W.heap[k.d]? = some (.deferred (some []))
  l : W.heap[k.l]? = some (.loop lp)
  bel : Below w.heap.size w W
  sz : k.z ≤ W.heap.size
variable {w W X : World} {k : Bk} {b o c b2 : Nat} {ps : List Ph} {ys : List Sy} {lp : Loop} {i j f : Nat} {y : St}
theorem RJ.up (h : RJ w W k b o c b2 ps ys lp i j f y) (_hk : k.ok w.heap.size) (hb0 : b < w.heap.size) (hb2 : b2 < w.heap.size) (hb : Below W.heap.size W X) : RJ w X k b o c b2 ps ys lp i j f y := by
  have hz := h.bel.size
  have hl : k.l < W.heap.size := (Array.getElem?_eq_some_iff.1 h.l).1
  have hd : k.d < W.heap.size := (Array.getElem?_eq_some_iff.1 h.d).1
  obtain ⟨u, hu, ho⟩ := h.p
  exact ⟨h.a.up hb h.a.2.2, h.s.up hb h.s.2.2, ⟨u, hu.up hb hu.2.2, ho.up hb⟩, h.r.up hb h.r.2.2, h.n.up hb (by omega), h.t.up hb h.t.2.2, h.re.up hb (by omega), (hb.block _ hd).trans h.d, (hb.block _ hl).trans h.l, up_trans h.bel hb, Nat.le_trans h.sz hb.size⟩
/-- A block of cells is stored into, or another object put; what it was is told apart. -/
theorem RJ.gr (h : RJ w W k b o c b2 ps ys lp i j f y) (hk : k.ok w.heap.size) (hb0 : b < w.heap.size) (_hb2 : b2 < w.heap.size) {q : Nat} (hq : q = k.s ∨ q = k.t ∨ q = k.l ∨ q = k.n) (hg : W.grownBy X (some q)) {y' : St} {j' f' : Nat} {lp' : Loop}
    (hs : CB X k.s y'.cells) (ht : CB X k.t (stN ps ys j').cells) (hn : SB X k.n b2 (ys.drop f')) (hl : X.heap[k.l]? = some (.loop lp')) : RJ w X k b o c b2 ps ys lp' i j' f' y' := by
  unfold Bk.ok at hk
  have hd : k.d < W.heap.size := (Array.getElem?_eq_some_iff.1 h.d).1
  obtain ⟨u, hu, ho⟩ := h.p
  refine ⟨h.a.kept hg (by simp; omega), hs, ⟨u, hu.kept hg (by simp; omega), own_grown ho hg (by omega)⟩, h.r.kept hg (by simp; omega), hn, ht, ?_, (hg.block _ hd (by simp; omega)).trans h.d, hl, ?_, Nat.le_trans h.sz hg.size⟩
  · exact fun i' p hp j' v hv => hg.cell (h.re i' p hp j' v hv) (by simp; omega)
  · exact below_gr h.bel hg (by omega)
theorem heap_set (W : World) (q off l : Nat) (v : Value) (hne : l ≠ q) : (W.setCell ⟨q, off, none⟩ v).heap[l]? = W.heap[l]? := Below.heap_setCell _ _ _ _ hne
/-- How long the path is. -/
def plen (q : Nat) (W : World) : Nat := match W.cell? ⟨q, 0, none⟩ with
  | some (.slice _ n _) => n
  | _ => 0
theorem RJ.plen (h : RJ w W k b o c b2 ps ys lp i j f y) : plen k.p W = i := by
  obtain ⟨u, hu, ho⟩ := h.p
  obtain ⟨a, c', rfl⟩ := ho.lst.shape
  simp only [Go.Proofs.YtmccabenfdigdaaGreatDoor.plen, hu.c1.1, pathN_length]
theorem RJ.said (h : RJ w W k b o c b2 ps ys lp i j f y) (hk : k.ok w.heap.size) (hb0 : b < w.heap.size) (hb2 : b2 < w.heap.size) (hg : W.grownBy X (some k.n)) {f' : Nat} (hn : SB X k.n b2 (ys.drop f')) : RJ w X k b o c b2 ps ys lp i j f' y := by
  have hk' := hk
  unfold Bk.ok at hk'
  have hl : k.l < W.heap.size := (Array.getElem?_eq_some_iff.1 h.l).1
  exact h.gr hk hb0 hb2 (.inr (.inr (.inr rfl))) hg (h.s.kept hg (by simp; omega)) (h.t.kept hg (by simp; omega)) hn ((hg.block _ hl (by simp; omega)).trans h.l)
theorem RJ.drew (h : RJ w W k b o c b2 ps ys lp i j f y) : RJ w W.drew k b o c b2 ps ys lp i j f y := ⟨h.a, h.s, h.p, h.r, h.n, h.t, h.re, h.d, h.l, h.bel.drew, h.sz⟩
/-- The iterator's own state is stored anew. -/
theorem RJ.setT (h : RJ w W k b o c b2 ps ys lp i j f y) (hk : k.ok w.heap.size) (hb0 : b < w.heap.size) (hb2 : b2 < w.heap.size) {z : St} {j' : Nat} (hz : stN ps ys j' = z) :
    RJ w (((W.setCell ⟨k.t, 0, none⟩ (.string z.nm)).setCell ⟨k.t, 1, none⟩ (.int .i64 z.now)).setCell ⟨k.t, 2, none⟩ (.int .i64 z.left)) k b o c b2 ps ys lp i j' f y := by
  have hk' := hk
  unfold Bk.ok at hk'
  have hl : k.l < W.heap.size := (Array.getElem?_eq_some_iff.1 h.l).1
  have hg : W.grownBy (((W.setCell ⟨k.t, 0, none⟩ (.string z.nm)).setCell ⟨k.t, 1, none⟩ (.int .i64 z.now)).setCell ⟨k.t, 2, none⟩ (.int .i64 z.left)) (some k.t) := grown_copies k.t [.string z.nm, .int .i64 z.now, .int .i64 z.left] 0 W W (some k.t) (World.grownBy.refl' W) rfl
  exact h.gr hk hb0 hb2 (.inr (.inl rfl)) hg (h.s.kept hg (by simp; omega)) (by rw [hz]; exact h.t.copy3 _ _ _) (h.n.kept hg (by omega) (by omega)) ((hg.block _ hl (by simp; omega)).trans h.l)
theorem said_head (ys : List Sy) (i : Nat) : (ys.drop i).head?.getD Sy.late = ys[i]?.getD Sy.late := by simp [List.head?_drop]
theorem said_tail (ys : List Sy) (i : Nat) : (ys.drop i).tail = ys.drop (i + 1) := by simp [List.tail_drop]
end Go.Proofs.YtmccabenfdigdaaGreatDoor

/- Runs by the program: the path grows by a name. -/
namespace Go.Proofs.YtmccabenfdigdaaGreatDoor
open Go Go.RowKit

theorem CB.blk {w w' : World} {b : Nat} {cs : List Value} (h : CB w b cs) (hb : w'.heap[b]? = w.heap[b]?) (hz : w.heap.size ≤ w'.heap.size) : CB w' b cs := by
  refine ⟨fun j v hv => ?_, fun j hj => ?_, Nat.lt_of_lt_of_le h.2.2 hz⟩
  · rw [World.cell?_of_block (w := w) (a := ⟨b, 0 + j, none⟩) hb]; exact h.1 j v hv
  · rw [World.cell?_of_block (w := w) (a := ⟨b, 0 + j, none⟩) hb, World.frozen?_of_block (w := w) (a := ⟨b, 0 + j, none⟩) hb]; exact h.2.1 j hj
theorem SB.blk {w w' : World} {q b2 : Nat} {ys : List Sy} (h : SB w q b2 ys) (hq : w'.heap[q]? = w.heap[q]?) (hb2 : w'.heap[b2]? = w.heap[b2]?) (hz : w.heap.size ≤ w'.heap.size) : SB w' q b2 ys := by
  obtain ⟨a, c, k, h1, h2, h3⟩ := h
  refine ⟨a, c, k.blk hq hz, h1, h2, ?_⟩
  rcases h3 with h3 | ⟨o, ha, hs⟩
  · exact .inl h3
  · exact .inr ⟨o, ha, fun i p hp j v hv => by rw [World.cell?_of_block (w := w) (a := ⟨b2, o + i * 2 + j, none⟩) hb2]; exact hs i p hp j v hv⟩
variable {w W X : World} {k : Bk} {b o c b2 : Nat} {ps : List Ph} {ys : List Sy} {lp : Loop} {i j f : Nat} {y : St}
theorem RJ.app (h : RJ w W k b o c b2 ps ys lp i j f y) (hk : k.ok w.heap.size) (hb0 : b < w.heap.size) (hb2 : b2 < w.heap.size) {u v' : Value} (hu : CB W k.p [u]) (ho : OwnT W k.z u (pathN ps ys i)) {o' : Obj} {X3 : World} (hg : (W.alloc o').grownBy X3 u.ownBlock) (hO : OwnT X3 k.z v' (pathN ps ys (i + 1))) :
    RJ w (X3.setCell ⟨k.p, 0, none⟩ v') k b o c b2 ps ys lp (i + 1) j f y := by
  have hA := h.up hk hb0 hb2 ((Below.refl W.heap.size W).alloc (Nat.le_refl _) o')
  have hoA : OwnT (W.alloc o') k.z u (pathN ps ys i) := ho.up ((Below.refl W.heap.size W).alloc (Nat.le_refl _) o')
  unfold Bk.ok at hk
  have hz3 : (W.alloc o').heap.size ≤ (X3.setCell ⟨k.p, 0, none⟩ v').heap.size := by have := hg.size; simp at this ⊢; omega
  have key : ∀ q, q < k.z → q ≠ k.p → (X3.setCell ⟨k.p, 0, none⟩ v').heap[q]? = (W.alloc o').heap[q]? := fun q hq hne => by
    rw [heap_set _ _ _ _ _ hne]
    exact hg.block q (Nat.lt_of_lt_of_le hq hA.sz) (own_ne hoA hq)
  have hP3 : CB X3 k.p [u] := ((hu.up ((Below.refl W.heap.size W).alloc (Nat.le_refl _) o') hu.2.2).own hoA hg (by omega))
  have hgp : X3.grownBy (X3.setCell ⟨k.p, 0, none⟩ v') (some k.p) := ⟨rfl, rfl, rfl, by simp, fun i _ hr => Below.heap_setCell _ _ _ _ (fun e => hr (by rw [e]))⟩
  have hB3 := below_own hA.bel hoA hg (by omega)
  refine ⟨hA.a.blk (key _ (by omega) (by omega)) hz3, hA.s.blk (key _ (by omega) (by omega)) hz3, ⟨v', hP3.set (j := 0) (by simp), hO.set hgp (by omega)⟩, hA.r.blk (key _ (by omega) (by omega)) hz3, hA.n.blk (key _ (by omega) (by omega)) (key _ (by omega) (by omega)) hz3, hA.t.blk (key _ (by omega) (by omega)) hz3, ?_, (key _ (by omega) (by omega)).trans hA.d, (key _ (by omega) (by omega)).trans hA.l, hB3.setCell (p := ⟨k.p, 0, none⟩) (by show _ ≤ k.p; omega) _, Nat.le_trans hA.sz hz3⟩
  intro i' p hp j' v hv
  rw [World.cell?_of_block (w := W.alloc o') (a := ⟨b, o + i' * 8 + j', none⟩) (key b (by omega) (by omega))]
  exact hA.re i' p hp j' v hv
end Go.Proofs.YtmccabenfdigdaaGreatDoor
