/- Functions that end with a struct in their result's block. -/
import Derived.Test.YtkgbdjdgcacblaaGreatDoorJ0
import Derived.Test.YtkgbdjdgcacblaaGreatDoorJ1
namespace Go.Proofs.YtkgbdjdgcacblaaGreatDoor
open Go.RowKit
/-- A function that ends so, with a struct of three (two; three and a second result) in its result's block, stored whole. -/
theorem end_cb3 {P : Program} {fn : Func} {q : Tmp} {T : TypeId} (h : fn.results = #[.cell q T]) {d : TypeDesc} (hu : P.underlying T = some d) (hd : d.isRow = true) (hi : (P.info? T).map (·.size) = some 3) {R : Ending → World → Prop} {tmps : Array Value} {w : World} {rk : Nat} {y0 y1 y2 x0 x1 x2 : Value}
    (k : CB w rk [y0, y1, y2]) (ht : tmps.getD q undef = .pointer (some ⟨rk, 0, none⟩)) (hR : R (.returned (.agg #[x0, x1, x2])) (((w.setCell ⟨rk, 0, none⟩ x0).setCell ⟨rk, 1, none⟩ x1).setCell ⟨rk, 2, none⟩ x2)) :
    bodyPost P fn R .ret { tmps := tmps, defers := [] } (((w.setCell ⟨rk, 0, none⟩ x0).setCell ⟨rk, 1, none⟩ x1).setCell ⟨rk, 2, none⟩ x2) :=
  bodyPost_ret (ret_cb (cs := [x0, x1, x2]) h hu hd hi ht (k.copy3 x0 x1 x2)) rfl hR
theorem end_cb2 {P : Program} {fn : Func} {q : Tmp} {T : TypeId} (h : fn.results = #[.cell q T]) {d : TypeDesc} (hu : P.underlying T = some d) (hd : d.isRow = true) (hi : (P.info? T).map (·.size) = some 2) {R : Ending → World → Prop} {tmps : Array Value} {w : World} {rk : Nat} {y0 y1 x0 x1 : Value}
    (k : CB w rk [y0, y1]) (ht : tmps.getD q undef = .pointer (some ⟨rk, 0, none⟩)) (hR : R (.returned (.agg #[x0, x1])) ((w.setCell ⟨rk, 0, none⟩ x0).setCell ⟨rk, 1, none⟩ x1)) :
    bodyPost P fn R .ret { tmps := tmps, defers := [] } ((w.setCell ⟨rk, 0, none⟩ x0).setCell ⟨rk, 1, none⟩ x1) :=
  bodyPost_ret (ret_cb (cs := [x0, x1]) h hu hd hi ht (k.copy2 x0 x1)) rfl hR
theorem end_cb3b {P : Program} {fn : Func} {q q2 : Tmp} {T : TypeId} (h : fn.results = #[.cell q T, .tmp q2]) {d : TypeDesc} (hu : P.underlying T = some d) (hd : d.isRow = true) (hi : (P.info? T).map (·.size) = some 3) {R : Ending → World → Prop} {tmps : Array Value} {w : World} {rk : Nat} {y0 y1 y2 x0 x1 x2 v : Value}
    (k : CB w rk [y0, y1, y2]) (ht : tmps.getD q undef = .pointer (some ⟨rk, 0, none⟩)) (hv : tmps.getD q2 undef = v) (hR : R (.returned (.tuple #[.agg #[x0, x1, x2], v])) (((w.setCell ⟨rk, 0, none⟩ x0).setCell ⟨rk, 1, none⟩ x1).setCell ⟨rk, 2, none⟩ x2)) :
    bodyPost P fn R .ret { tmps := tmps, defers := [] } (((w.setCell ⟨rk, 0, none⟩ x0).setCell ⟨rk, 1, none⟩ x1).setCell ⟨rk, 2, none⟩ x2) :=
  bodyPost_ret (ret_cb2 (cs := [x0, x1, x2]) h hu hd hi ht hv (k.copy3 x0 x1 x2)) rfl hR
end Go.Proofs.YtkgbdjdgcacblaaGreatDoor

/- The specification's copy of a book (chapter 11). -/
namespace Go.Proofs.YtkgbdjdgcacblaaGreatDoor
open Go.RowKit

theorem infoBat1 : (Tryz.prog.info? 45).map (fun i => (i.zero, i.size, i.bytes)) = some (some (.agg #[.string ⟨#[]⟩, .slice none 0 0, .slice none 0 0]), 3, 64) := by kernel_rfl
/-- A batch and the two slices of its lists. -/
abbrev Bv := Ba × Value × Value
def rowB (p : Bv) : List Value := [.string p.1.nm, p.2.1, p.2.2]
def rowsB : List Bv → List Value
  | [] => []
  | p :: r => rowB p ++ rowsB r
theorem rowsB_length : ∀ ps : List Bv, (rowsB ps).length = ps.length * 3
  | [] => rfl
  | p :: r => by rw [rowsB, List.length_append, rowsB_length r, List.length_cons]; simp [rowB]; omega
theorem rowsB_snoc (p : Bv) : ∀ ps : List Bv, rowsB (ps ++ [p]) = rowsB ps ++ rowB p
  | [] => by simp [rowsB]
  | q :: r => by rw [List.cons_append, rowsB, rowsB, rowsB_snoc p r, List.append_assoc]
/-- Batches in a row of their own, their lists too. -/
def BsW (w : World) (base : Nat) (v : Value) (ps : List Bv) : Prop := w.ownsRow base 45 3 v ps.length (rowsB ps) ∧ ∀ p ∈ ps, OwnT w base p.2.1 p.1.has ∧ OwnT w base p.2.2 p.1.needs ∧ p.1.nm.size ≤ maxLen
theorem BsW.up {w w' : World} {base : Nat} {v : Value} {ps : List Bv} (h : BsW w base v ps) (hb : Below w.heap.size w w') : BsW w' base v ps :=
  ⟨own_up h.1 hb, fun p hp => ⟨(h.2 p hp).1.up hb, (h.2 p hp).2.1.up hb, (h.2 p hp).2.2⟩⟩
theorem own_apart2 {w : World} {base base' e e' s s' n n' : Nat} {v v' : Value} {xs xs' : List Value} (h : w.ownsRow base e s v n xs) (h' : w.ownsRow base' e' s' v' n' xs') (hne : e ≠ e') : ∀ g, v.ownBlock = some g → some g ≠ v'.ownBlock := fun g hg hg' => by
  rcases h.2 with ⟨rfl, _⟩ | ⟨g1, cap, cur, rfl, _, hh, _⟩
  · simp [Value.ownBlock] at hg
  · rcases h'.2 with ⟨rfl, _⟩ | ⟨g2, cap', cur', rfl, _, hh', _⟩
    · simp [Value.ownBlock] at hg'
    · simp [Value.ownBlock] at hg hg'
      subst hg hg'
      rw [hh] at hh'
      simp at hh'
      exact hne hh'.2
theorem own_keep2 {w w' : World} {base e s n : Nat} {v : Value} {xs : List Value} {r : Option Nat} (h : w.ownsRow base e s v n xs) (hg : w.grownBy w' r) (hne : ∀ g, v.ownBlock = some g → some g ≠ r) : w'.ownsRow base e s v n xs := by
  refine ⟨h.1, ?_⟩
  rcases h.2 with h0 | ⟨g, cap, cur, hv, hb, hh, q⟩
  · exact .inl h0
  · refine .inr ⟨g, cap, cur, hv, hb, ?_, q⟩
    rw [hg.block g (Array.getElem?_eq_some_iff.1 hh).1 (hne g (by rw [hv]; rfl))]; exact hh
/-- One more batch. -/
theorem bsW_app {wr Wl w' : World} {base : Nat} {xv v' hu nu : Value} {ps : List Bv} {x : Ba} {o' : Obj} (hW : BsW wr base xv ps) (hb : Below wr.heap.size wr Wl) (hoh : OwnT Wl base hu x.has) (hon : OwnT Wl base nu x.needs) (hz : x.nm.size ≤ maxLen)
    (hgr : (Wl.alloc o').grownBy w' xv.ownBlock) (hown : w'.ownsRow base 45 3 v' (ps.length + 1) (rowsB ps ++ [.string x.nm, hu, nu])) : BsW w' base v' (ps ++ [(x, hu, nu)]) := by
  have ha : Below Wl.heap.size Wl (Wl.alloc o') := (Below.refl _ _).alloc (Nat.le_refl _) _
  have hrow := own_up (own_up hW.1 hb) ha
  refine ⟨by rw [List.length_append, rowsB_snoc]; exact hown, fun p hp => ?_⟩
  rcases List.mem_append.1 hp with h | h
  · obtain ⟨q1, q2, q3⟩ := hW.2 p h
    have r1 := (q1.up hb).up ha
    have r2 := (q2.up hb).up ha
    exact ⟨own_keep2 r1 hgr (own_apart2 r1 hrow (by decide)), own_keep2 r2 hgr (own_apart2 r2 hrow (by decide)), q3⟩
  · obtain rfl : p = (x, hu, nu) := by simpa using h
    have r1 := hoh.up ha
    have r2 := hon.up ha
    exact ⟨own_keep2 r1 hgr (own_apart2 r1 hrow (by decide)), own_keep2 r2 hgr (own_apart2 r2 hrow (by decide)), hz⟩
theorem hnew3 (w : World) (x y z : Value) (ty : TypeId) {j : Nat} {v : Value} (h : [x, y, z][j]? = some v) : (w.alloc (.cells #[x, y, z] ty)).cell? ((⟨w.heap.size, 0, none⟩ : Addr).add j) = some v := by
  have := (cb_alloc w [x, y, z] ty).1 j v h
  rw [Addr.add_mid]; exact this
theorem BaAt.batch' {w : World} {b o : Nat} {x : Ba} (h : BaAt w b o x) : x.nm.size ≤ maxLen := by
  obtain ⟨_, _, _, _, _, h3⟩ := h; exact h3
end Go.Proofs.YtkgbdjdgcacblaaGreatDoor
