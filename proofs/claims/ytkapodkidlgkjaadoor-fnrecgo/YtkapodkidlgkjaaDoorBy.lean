/- Functions that end with a struct in their result's block. -/
import Derived.Test.YtkapodkidlgkjaaDoorGx
namespace Go.Proofs.YtkapodkidlgkjaaDoor
open Go.RowKit
/-- A function that ends so, with a struct of three (two; three and a second result) in its result's block, stored whole. -/
theorem end_cb3 {P : Program} {fn : Func} {q : Tmp} {T : TypeId} (h : fn.results = #[.cell q T]) {d : TypeDesc} (hu : P.underlying T = some d) (hd : d.isRow = true) (hi : (P.info? T).map (·.size) = some 3) {R : Ending → World → Prop} {tmps : Array Value} {w : World} {rk : Nat} {y0 y1 y2 x0 x1 x2 : Value}
    (k : CB w rk [y0, y1, y2]) (ht : tmps.getD q undef = .pointer (some ⟨rk, 0, none⟩)) (hR : R (.returned (.agg #[x0, x1, x2])) (((w.setCell ⟨rk, 0, none⟩ x0).setCell ⟨rk, 1, none⟩ x1).setCell ⟨rk, 2, none⟩ x2)) :
    bodyPost P fn R .ret { tmps := tmps, defers := [] } (((w.setCell ⟨rk, 0, none⟩ x0).setCell ⟨rk, 1, none⟩ x1).setCell ⟨rk, 2, none⟩ x2) :=
  bodyPost_ret (ret_cb (cs := [x0, x1, x2]) h hu hd hi ht (k.copy3 x0 x1 x2)) rfl hR
theorem end_cb2 {P : Program} {fn : Func} {q : Tmp} {T : TypeId} (h : fn.results = #[.cell q T]) {d : TypeDesc} (hu : P.underlying T = some d) (hd : d.isRow = true) (hi : (P.info? T).map (·.size) = some 2) {R : Ending → World → Prop} {tmps : Array Value} {w : World} {rk : Nat} {y0 y1 x0 x1 : Value}
    (k : CB w rk [y0, y1]) (ht : tmps.getD q undef = .pointer (some ⟨rk, 0, none⟩)) (hR : R (.returned (.agg #[x0, x1])) ((w.setCell ⟨rk, 0, none⟩ x0).setCell ⟨rk, 1, none⟩ x1)) :
    bodyPost P fn R .ret { tmps := tmps, defers := [] } ((w.setCell ⟨rk, 0, none⟩ x0).setCell ⟨rk, 1, none⟩ x1) :=
  bodyPost_ret (ret_cb (cs := [x0, x1]) h hu hd hi ht (k.copy2 x0 x1)) rfl hR
theorem end_cb3b {P : Program} {fn : Func} {q q2 : Tmp} {T : TypeId} (h : fn.results = #[.cell q T, .tmp q2]) {d : TypeDesc} (hu : P.underlying T = some d) (hd : d.isRow = true) (hi : (P.info? T).map (·.size) = some 3) {R : Ending → World → Prop} {tmps : Array Value} {w : World} {rk : Nat} {y0 y1 y2 x0 x1 x2 v : Value}
    (k : CB w rk [y0, y1, y2]) (ht : tmps.getD q undef = .pointer (some ⟨rk, 0, none⟩)) (hv : tmps.getD q2 undef = v) (hR : R (.returned (.tuple #[.agg #[x0, x1, x2], v])) (((w.setCell ⟨rk, 0, none⟩ x0).setCell ⟨rk, 1, none⟩ x1).setCell ⟨rk, 2, none⟩ x2)) :
    bodyPost P fn R .ret { tmps := tmps, defers := [] } (((w.setCell ⟨rk, 0, none⟩ x0).setCell ⟨rk, 1, none⟩ x1).setCell ⟨rk, 2, none⟩ x2) :=
  bodyPost_ret (ret_cb2 (cs := [x0, x1, x2]) h hu hd hi ht hv (k.copy3 x0 x1 x2)) rfl hR
end Go.Proofs.YtkapodkidlgkjaaDoor
