/- Runs by the program: what lies where while RecRun runs. -/
import Derived.Test.YtcofjoacehacjaaGreatDoorWh2
import Derived.Test.YtcofjoacehacjaaGreatDoorRf
import Derived.Test.YtcofjoacehacjaaGreatDoorWr3
namespace Go.Proofs.YtcofjoacehacjaaGreatDoor
open Go Go.RowKit

/-- The blocks, one behind the other: the result, s, path, the box of r, the two of the loop, the box of the says, the iterator's own s; behind them all the path's row. -/
structure Bk where
  a : Nat
  s : Nat
  p : Nat
  r : Nat
  d : Nat
  l : Nat
  n : Nat
  t : Nat
  z : Nat
def Bk.ok (k : Bk) (B : Nat) : Prop := B ≤ k.a ∧ k.a < k.s ∧ k.s < k.p ∧ k.p < k.r ∧ k.r < k.d ∧ k.d < k.l ∧ k.l < k.n ∧ k.n < k.t ∧ k.t < k.z
/-- The path has i names, the iterator is at j; s holds y. -/
structure RJ (w W : World) (k : Bk) (b o c b2 : Nat) (ps : List Ph) (ys : List Sy) (lp : Loop) (i j h : Nat) (y : St) : Prop where
  a : CB W k.a St.none.cells
  s : CB W k.s y.cells
  p : ∃ u, CB W k.p [u] ∧ OwnT W k.z u (pathN ps ys i)
  r : CB W k.r [.slice (some ⟨b, o, none⟩) ps.length c]
  n : SB W k.n b2 (ys.drop h)
  t : CB W k.t (stN ps ys j).cells
  re : RecAt W b o ps
  d : W.heap[k.d]? = some (.deferred (some []))
  l : W.heap[k.l]? = some (.loop lp)
  bel : Below w.heap.size w W
  sz : k.z ≤ W.heap.size
variable {w W X : World} {k : Bk} {b o c b2 : Nat} {ps : List Ph} {ys : List Sy} {lp : Loop} {i j f : Nat} {y : St}
theorem RJ.up (h : RJ w W k b o c b2 ps ys lp i j f y) (_hk : k.ok w.heap.size) (hb0 : b < w.heap.size) (hb2 : b2 < w.heap.size) (hb : Below W.heap.size W X) : RJ w X k b o c b2 ps ys lp i j f y := by
  have hz := h.bel.size
  have hl : k.l < W.heap.size := (Array.getElem?_eq_some_iff.1 h.l).1
  have hd : k.d < W.heap.size := (Array.getElem?_eq_some_iff.1 h.d).1
  obtain ⟨u, hu, ho⟩ := h.p
  exact ⟨h.a.up hb h.a.2.2, h.s.up hb h.s.2.2, ⟨u, hu.up hb hu.2.2, ho.up hb⟩, h.r.up hb h.r.2.2, h.n.up hb (by omega), h.t.up hb h.t.2.2, h.re.up hb (by omega), (hb.block _ hd).trans h.d, (hb.block _ hl).trans h.l, up_trans h.bel hb, Nat.le_trans h.sz hb.size⟩
/-- A block of cells is stored into, or another object put; what it was is told apart. -/
theorem RJ.gr (h : RJ w W k b o c b2 ps ys lp i j f y) (hk : k.ok w.heap.size) (hb0 : b < w.heap.size) (_hb2 : b2 < w.heap.size) {q : Nat} (hq : q = k.s ∨ q = k.t ∨ q = k.l ∨ q = k.n) (hg : W.grownBy X (some q)) {y' : St} {j' f' : Nat} {lp' : Loop}
    (hs : CB X k.s y'.cells) (ht : CB X k.t (stN ps ys j').cells) (hn : SB X k.n b2 (ys.drop f')) (hl : X.heap[k.l]? = some (.loop lp')) : RJ w X k b o c b2 ps ys lp' i j' f' y' := by
  unfold Bk.ok at hk
  have hd : k.d < W.heap.size := (Array.getElem?_eq_some_iff.1 h.d).1
  obtain ⟨u, hu, ho⟩ := h.p
  refine ⟨h.a.kept hg (by simp; omega), hs, ⟨u, hu.kept hg (by simp; omega), own_grown ho hg (by omega)⟩, h.r.kept hg (by simp; omega), hn, ht, ?_, (hg.block _ hd (by simp; omega)).trans h.d, hl, ?_, Nat.le_trans h.sz hg.size⟩
  · exact fun i' p hp j' v hv => hg.cell (h.re i' p hp j' v hv) (by simp; omega)
  · exact below_gr h.bel hg (by omega)
theorem heap_set (W : World) (q off l : Nat) (v : Value) (hne : l ≠ q) : (W.setCell ⟨q, off, none⟩ v).heap[l]? = W.heap[l]? := Below.heap_setCell _ _ _ _ hne
/-- How long the path is. -/
def plen (q : Nat) (W : World) : Nat := match W.cell? ⟨q, 0, none⟩ with
  | some (.slice _ n _) => n
  | _ => 0
theorem RJ.plen (h : RJ w W k b o c b2 ps ys lp i j f y) : plen k.p W = i := by
  obtain ⟨u, hu, ho⟩ := h.p
  obtain ⟨a, c', rfl⟩ := ho.lst.shape
  simp only [Go.Proofs.YtcofjoacehacjaaGreatDoor.plen, hu.c1.1, pathN_length]
theorem RJ.said (h : RJ w W k b o c b2 ps ys lp i j f y) (hk : k.ok w.heap.size) (hb0 : b < w.heap.size) (hb2 : b2 < w.heap.size) (hg : W.grownBy X (some k.n)) {f' : Nat} (hn : SB X k.n b2 (ys.drop f')) : RJ w X k b o c b2 ps ys lp i j f' y := by
  have hk' := hk
  unfold Bk.ok at hk'
  have hl : k.l < W.heap.size := (Array.getElem?_eq_some_iff.1 h.l).1
  exact h.gr hk hb0 hb2 (.inr (.inr (.inr rfl))) hg (h.s.kept hg (by simp; omega)) (h.t.kept hg (by simp; omega)) hn ((hg.block _ hl (by simp; omega)).trans h.l)
theorem RJ.drew (h : RJ w W k b o c b2 ps ys lp i j f y) : RJ w W.drew k b o c b2 ps ys lp i j f y := ⟨h.a, h.s, h.p, h.r, h.n, h.t, h.re, h.d, h.l, h.bel.drew, h.sz⟩
/-- The iterator's own state is stored anew. -/
theorem RJ.setT (h : RJ w W k b o c b2 ps ys lp i j f y) (hk : k.ok w.heap.size) (hb0 : b < w.heap.size) (hb2 : b2 < w.heap.size) {z : St} {j' : Nat} (hz : stN ps ys j' = z) :
    RJ w (((W.setCell ⟨k.t, 0, none⟩ (.string z.nm)).setCell ⟨k.t, 1, none⟩ (.int .i64 z.now)).setCell ⟨k.t, 2, none⟩ (.int .i64 z.left)) k b o c b2 ps ys lp i j' f y := by
  have hk' := hk
  unfold Bk.ok at hk'
  have hl : k.l < W.heap.size := (Array.getElem?_eq_some_iff.1 h.l).1
  have hg : W.grownBy (((W.setCell ⟨k.t, 0, none⟩ (.string z.nm)).setCell ⟨k.t, 1, none⟩ (.int .i64 z.now)).setCell ⟨k.t, 2, none⟩ (.int .i64 z.left)) (some k.t) := grown_copies k.t [.string z.nm, .int .i64 z.now, .int .i64 z.left] 0 W W (some k.t) (World.grownBy.refl' W) rfl
  exact h.gr hk hb0 hb2 (.inr (.inl rfl)) hg (h.s.kept hg (by simp; omega)) (by rw [hz]; exact h.t.copy3 _ _ _) (h.n.kept hg (by omega) (by omega)) ((hg.block _ hl (by simp; omega)).trans h.l)
theorem said_head (ys : List Sy) (i : Nat) : (ys.drop i).head?.getD Sy.late = ys[i]?.getD Sy.late := by simp [List.head?_drop]
theorem said_tail (ys : List Sy) (i : Nat) : (ys.drop i).tail = ys.drop (i + 1) := by simp [List.tail_drop]
end Go.Proofs.YtcofjoacehacjaaGreatDoor
