/- Runs by the program: the path grows by a name. -/
import Derived.Test.YtcofjoacehacjaaGreatDoorWh3
namespace Go.Proofs.YtcofjoacehacjaaGreatDoor
open Go Go.RowKit

theorem CB.blk {w w' : World} {b : Nat} {cs : List Value} (h : CB w b cs) (hb : w'.heap[b]? = w.heap[b]?) (hz : w.heap.size ≤ w'.heap.size) : CB w' b cs := by
  refine ⟨fun j v hv => ?_, fun j hj => ?_, Nat.lt_of_lt_of_le h.2.2 hz⟩
  · rw [World.cell?_of_block (w := w) (a := ⟨b, 0 + j, none⟩) hb]; exact h.1 j v hv
  · rw [World.cell?_of_block (w := w) (a := ⟨b, 0 + j, none⟩) hb, World.frozen?_of_block (w := w) (a := ⟨b, 0 + j, none⟩) hb]; exact h.2.1 j hj
theorem SB.blk {w w' : World} {q b2 : Nat} {ys : List Sy} (h : SB w q b2 ys) (hq : w'.heap[q]? = w.heap[q]?) (hb2 : w'.heap[b2]? = w.heap[b2]?) (hz : w.heap.size ≤ w'.heap.size) : SB w' q b2 ys := by
  obtain ⟨a, c, k, h1, h2, h3⟩ := h
  refine ⟨a, c, k.blk hq hz, h1, h2, ?_⟩
  rcases h3 with h3 | ⟨o, ha, hs⟩
  · exact .inl h3
  · exact .inr ⟨o, ha, fun i p hp j v hv => by rw [World.cell?_of_block (w := w) (a := ⟨b2, o + i * 2 + j, none⟩) hb2]; exact hs i p hp j v hv⟩
variable {w W X : World} {k : Bk} {b o c b2 : Nat} {ps : List Ph} {ys : List Sy} {lp : Loop} {i j f : Nat} {y : St}
theorem RJ.app (h : RJ w W k b o c b2 ps ys lp i j f y) (hk : k.ok w.heap.size) (hb0 : b < w.heap.size) (hb2 : b2 < w.heap.size) {u v' : Value} (hu : CB W k.p [u]) (ho : OwnT W k.z u (pathN ps ys i)) {o' : Obj} {X3 : World} (hg : (W.alloc o').grownBy X3 u.ownBlock) (hO : OwnT X3 k.z v' (pathN ps ys (i + 1))) :
    RJ w (X3.setCell ⟨k.p, 0, none⟩ v') k b o c b2 ps ys lp (i + 1) j f y := by
  have hA := h.up hk hb0 hb2 ((Below.refl W.heap.size W).alloc (Nat.le_refl _) o')
  have hoA : OwnT (W.alloc o') k.z u (pathN ps ys i) := ho.up ((Below.refl W.heap.size W).alloc (Nat.le_refl _) o')
  unfold Bk.ok at hk
  have hz3 : (W.alloc o').heap.size ≤ (X3.setCell ⟨k.p, 0, none⟩ v').heap.size := by have := hg.size; simp at this ⊢; omega
  have key : ∀ q, q < k.z → q ≠ k.p → (X3.setCell ⟨k.p, 0, none⟩ v').heap[q]? = (W.alloc o').heap[q]? := fun q hq hne => by
    rw [heap_set _ _ _ _ _ hne]
    exact hg.block q (Nat.lt_of_lt_of_le hq hA.sz) (own_ne hoA hq)
  have hP3 : CB X3 k.p [u] := ((hu.up ((Below.refl W.heap.size W).alloc (Nat.le_refl _) o') hu.2.2).own hoA hg (by omega))
  have hgp : X3.grownBy (X3.setCell ⟨k.p, 0, none⟩ v') (some k.p) := ⟨rfl, rfl, rfl, by simp, fun i _ hr => Below.heap_setCell _ _ _ _ (fun e => hr (by rw [e]))⟩
  have hB3 := below_own hA.bel hoA hg (by omega)
  refine ⟨hA.a.blk (key _ (by omega) (by omega)) hz3, hA.s.blk (key _ (by omega) (by omega)) hz3, ⟨v', hP3.set (j := 0) (by simp), hO.set hgp (by omega)⟩, hA.r.blk (key _ (by omega) (by omega)) hz3, hA.n.blk (key _ (by omega) (by omega)) (key _ (by omega) (by omega)) hz3, hA.t.blk (key _ (by omega) (by omega)) hz3, ?_, (key _ (by omega) (by omega)).trans hA.d, (key _ (by omega) (by omega)).trans hA.l, hB3.setCell (p := ⟨k.p, 0, none⟩) (by show _ ≤ k.p; omega) _, Nat.le_trans hA.sz hz3⟩
  intro i' p hp j' v hv
  rw [World.cell?_of_block (w := W.alloc o') (a := ⟨b, o + i' * 8 + j', none⟩) (key b (by omega) (by omega))]
  exact hA.re i' p hp j' v hv
end Go.Proofs.YtcofjoacehacjaaGreatDoor
