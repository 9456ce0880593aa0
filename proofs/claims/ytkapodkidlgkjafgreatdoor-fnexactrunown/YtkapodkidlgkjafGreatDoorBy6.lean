/- Structs of six cells in blocks of their own. -/
import Derived.Test.YtkapodkidlgkjafGreatDoorJ25
namespace Go.Proofs.YtkapodkidlgkjafGreatDoor
open Go.RowKit

theorem CB.c6 {w : World} {b : Nat} {x0 x1 x2 x3 x4 x5 : Value} (h : CB w b [x0, x1, x2, x3, x4, x5]) :
    w.cell? ⟨b, 0, none⟩ = some x0 ∧ w.cell? ⟨b, 1, none⟩ = some x1 ∧ w.cell? ⟨b, 2, none⟩ = some x2 ∧ w.cell? ⟨b, 3, none⟩ = some x3 ∧ w.cell? ⟨b, 4, none⟩ = some x4 ∧ w.cell? ⟨b, 5, none⟩ = some x5 :=
  ⟨h.1 0 _ rfl, h.1 1 _ rfl, h.1 2 _ rfl, h.1 3 _ rfl, h.1 4 _ rfl, h.1 5 _ rfl⟩

theorem CB.copy6 {w : World} {b : Nat} {y0 y1 y2 y3 y4 y5 : Value} (h : CB w b [y0, y1, y2, y3, y4, y5]) (x0 x1 x2 x3 x4 x5 : Value) :
    CB ((((((w.setCell ⟨b, 0, none⟩ x0).setCell ⟨b, 1, none⟩ x1).setCell ⟨b, 2, none⟩ x2).setCell ⟨b, 3, none⟩ x3).setCell ⟨b, 4, none⟩ x4).setCell ⟨b, 5, none⟩ x5) b [x0, x1, x2, x3, x4, x5] := h.copy [x0, x1, x2, x3, x4, x5] rfl
theorem CB.f6 {w : World} {b : Nat} {x0 x1 x2 x3 x4 x5 : Value} (h : CB w b [x0, x1, x2, x3, x4, x5]) :
    w.frozen? ⟨b, 0, none⟩ = false ∧ w.frozen? ⟨b, 1, none⟩ = false ∧ w.frozen? ⟨b, 2, none⟩ = false ∧ w.frozen? ⟨b, 3, none⟩ = false ∧ w.frozen? ⟨b, 4, none⟩ = false ∧ w.frozen? ⟨b, 5, none⟩ = false :=
  ⟨(h.2.1 0 (by simp)).2, (h.2.1 1 (by simp)).2, (h.2.1 2 (by simp)).2, (h.2.1 3 (by simp)).2, (h.2.1 4 (by simp)).2, (h.2.1 5 (by simp)).2⟩
theorem end_cb6 {P : Program} {fn : Func} {q : Tmp} {T : TypeId} (h : fn.results = #[.cell q T]) {d : TypeDesc} (hu : P.underlying T = some d) (hd : d.isRow = true) (hi : (P.info? T).map (·.size) = some 6) {R : Ending → World → Prop} {tmps : Array Value} {w : World} {rk : Nat} {y0 y1 y2 y3 y4 y5 x0 x1 x2 x3 x4 x5 : Value}
    (k : CB w rk [y0, y1, y2, y3, y4, y5]) (ht : tmps.getD q undef = .pointer (some ⟨rk, 0, none⟩)) (hR : R (.returned (.agg #[x0, x1, x2, x3, x4, x5])) ((((((w.setCell ⟨rk, 0, none⟩ x0).setCell ⟨rk, 1, none⟩ x1).setCell ⟨rk, 2, none⟩ x2).setCell ⟨rk, 3, none⟩ x3).setCell ⟨rk, 4, none⟩ x4).setCell ⟨rk, 5, none⟩ x5)) :
    bodyPost P fn R .ret { tmps := tmps, defers := [] } ((((((w.setCell ⟨rk, 0, none⟩ x0).setCell ⟨rk, 1, none⟩ x1).setCell ⟨rk, 2, none⟩ x2).setCell ⟨rk, 3, none⟩ x3).setCell ⟨rk, 4, none⟩ x4).setCell ⟨rk, 5, none⟩ x5) :=
  bodyPost_ret (ret_cb (cs := [x0, x1, x2, x3, x4, x5]) h hu hd hi ht (k.copy6 x0 x1 x2 x3 x4 x5)) rfl hR
theorem end_cb6b {P : Program} {fn : Func} {q q2 : Tmp} {T : TypeId} (h : fn.results = #[.cell q T, .tmp q2]) {d : TypeDesc} (hu : P.underlying T = some d) (hd : d.isRow = true) (hi : (P.info? T).map (·.size) = some 6) {R : Ending → World → Prop} {tmps : Array Value} {w : World} {rk : Nat} {y0 y1 y2 y3 y4 y5 x0 x1 x2 x3 x4 x5 v : Value}
    (k : CB w rk [y0, y1, y2, y3, y4, y5]) (ht : tmps.getD q undef = .pointer (some ⟨rk, 0, none⟩)) (hv : tmps.getD q2 undef = v) (hR : R (.returned (.tuple #[.agg #[x0, x1, x2, x3, x4, x5], v])) ((((((w.setCell ⟨rk, 0, none⟩ x0).setCell ⟨rk, 1, none⟩ x1).setCell ⟨rk, 2, none⟩ x2).setCell ⟨rk, 3, none⟩ x3).setCell ⟨rk, 4, none⟩ x4).setCell ⟨rk, 5, none⟩ x5)) :
    bodyPost P fn R .ret { tmps := tmps, defers := [] } ((((((w.setCell ⟨rk, 0, none⟩ x0).setCell ⟨rk, 1, none⟩ x1).setCell ⟨rk, 2, none⟩ x2).setCell ⟨rk, 3, none⟩ x3).setCell ⟨rk, 4, none⟩ x4).setCell ⟨rk, 5, none⟩ x5) :=
  bodyPost_ret (ret_cb2 (cs := [x0, x1, x2, x3, x4, x5]) h hu hd hi ht hv (k.copy6 x0 x1 x2 x3 x4 x5)) rfl hR
theorem below_set6 {B : Nat} {a w : World} {b : Nat} (h : Below B a w) (hb : B ≤ b) (x0 x1 x2 x3 x4 x5 : Value) : Below B a ((((((w.setCell ⟨b, 0, none⟩ x0).setCell ⟨b, 1, none⟩ x1).setCell ⟨b, 2, none⟩ x2).setCell ⟨b, 3, none⟩ x3).setCell ⟨b, 4, none⟩ x4).setCell ⟨b, 5, none⟩ x5) :=
  (((((h.setCell (p := ⟨b, 0, none⟩) hb x0).setCell (p := ⟨b, 1, none⟩) hb x1).setCell (p := ⟨b, 2, none⟩) hb x2).setCell (p := ⟨b, 3, none⟩) hb x3).setCell (p := ⟨b, 4, none⟩) hb x4).setCell (p := ⟨b, 5, none⟩) hb x5
theorem own_set6 {w : World} {base b : Nat} {u x0 x1 x2 x3 x4 x5 : Value} {ss : List ByteArray} (h : OwnT w base u ss) (hb : b < base) : OwnT ((((((w.setCell ⟨b, 0, none⟩ x0).setCell ⟨b, 1, none⟩ x1).setCell ⟨b, 2, none⟩ x2).setCell ⟨b, 3, none⟩ x3).setCell ⟨b, 4, none⟩ x4).setCell ⟨b, 5, none⟩ x5) base u ss :=
  own_grown h (grown_setCell (rb := b) (grown_setCell (rb := b) (grown_setCell (rb := b) (grown_setCell (rb := b) (grown_setCell (rb := b) (grown_setCell (rb := b) (grown_refl w _) _) _) _) _) _) _) hb
end Go.Proofs.YtkapodkidlgkjafGreatDoor
