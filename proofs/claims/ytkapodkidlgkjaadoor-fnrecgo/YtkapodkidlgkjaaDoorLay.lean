/- What the row's list gives: the table of the ends' names; a world for the witness. -/
import Derived.Test.YtkapodkidlgkjaaDoorLay0
import Derived.Test.YtkapodkidlgkjaaDoorRows
import Derived.Test.YtkapodkidlgkjaaDoorWa
import Derived.ProofKit
import Derived.OpenShut
import Derived.OpenVars
import Derived.LaidLaws
import Derived.Lib.LaidTab
import Derived.ChangeBears2
import Derived.Deep.DeepHandedRow
namespace Go.Proofs.YtkapodkidlgkjaaDoor
open Go.ChangeShapes Go.WideShapes Go.ChangeAt Go.RowKit

theorem gN : Tryd.prog.globalNamed "loop.example/maltrun/impl.recEndNames" = some 0 := by kernel_rfl
theorem gNType : (Tryd.prog.globals[0]?).map (·.type) = some 82 := by kernel_rfl
theorem cellsEnds : Tryd.prog.cellsOf 82 = 3 := by kernel_rfl
def cells3 : Array Value := #[.string ⟨#[103, 111, 111, 100]⟩, .string ⟨#[115, 97, 118, 101, 100]⟩, .string ⟨#[115, 99, 114, 97, 112, 112, 101, 100]⟩]

theorem ends_of_laid {W : World} (h : laidMet Tryd.prog [("loop.example/maltrun/impl.recEndNames", Rows.laid_loop_example_maltrun_impl_recEndNames)] W) : W.var? Tryd.prog "loop.example/maltrun/impl.recEndNames" = some cells3 := by
  obtain ⟨ps, ⟨g, t, cs, fuel, p, q, hg, ht, hvar, hd, _, _⟩, _⟩ := h
  obtain rfl := Option.some.inj (gN.symm.trans hg)
  obtain rfl := Option.some.inj (gNType.symm.trans ht)
  rw [hvar]
  congr 1
  obtain ⟨l⟩ := cs
  cases fuel with
  | zero => simp [DataW.trod] at hd
  | succ fuel =>
    simp only [DataW.trod, Tryd.underlying82, cellsEnds, cellsString] at hd
    split at hd
    · rename_i hl
      obtain ⟨c0, c1, c2, rfl⟩ : ∃ c0 c1 c2, l = [c0, c1, c2] := by
        match l, hl with
        | [a, b, c], _ => exact ⟨a, b, c, rfl⟩
      have e : List.range 3 = [0, 1, 2] := rfl
      rw [e] at hd
      simp only [Option.map_eq_some_iff, List.mapM_cons, List.mapM_nil, Option.bind_eq_bind, Option.bind_eq_some_iff, Option.pure_def, Option.some.injEq] at hd
      obtain ⟨xs, ⟨y0, h0, _, ⟨y1, h1, _, ⟨y2, h2, _, rfl, rfl⟩, rfl⟩, rfl⟩, hx⟩ := hd
      obtain ⟨n0, rfl, rfl, _⟩ := str_of_trod h0
      obtain ⟨n1, rfl, rfl, _⟩ := str_of_trod h1
      obtain ⟨n2, rfl, rfl, _⟩ := str_of_trod h2
      simp [Rows.laid_loop_example_maltrun_impl_recEndNames] at hx
      obtain ⟨⟨e0, e1, e2⟩, _⟩ := hx
      rw [ba_of_list e0, ba_of_list e1, ba_of_list e2]
      rfl
    · cases hd

theorem Ends.of_laid {W : World} (h : laidMet Tryd.prog [("loop.example/maltrun/impl.recEndNames", Rows.laid_loop_example_maltrun_impl_recEndNames)] W) : Ends W := by
  have hv := ends_of_laid h
  have hc := fun i => World.var?_cell gN hv i
  refine ⟨hc 0, hc 1, hc 2, ?_⟩
  rcases Nat.lt_or_ge 0 W.heap.size with h' | h'
  · exact h'
  · unfold World.var? at hv
    rw [gN] at hv
    simp only [Option.bind_some] at hv
    rw [Array.getElem?_eq_none h'] at hv; cases hv

noncomputable def laidWorld (os : Os) : World :=
  { World.holding Tryd.prog os ⟨#[], #[], []⟩ with heap := (World.holding Tryd.prog os ⟨#[], #[], []⟩).heap.modify 0 fun
      | .cells _ t frozen => .cells cells3 t frozen
      | o => o }
theorem laid_met (os : Os) (args : Array Value) : laidMet Tryd.prog [("loop.example/maltrun/impl.recEndNames", Rows.laid_loop_example_maltrun_impl_recEndNames)] ((laidWorld os).forCall (fun _ _ => 0) ⟨#[], args, []⟩).memory :=
  laidMet_of_run (ps := [.cell 0 0, .cell 0 1, .cell 0 2]) 8 (by kernel_rfl) (by kernel_rfl) (by kernel_rfl)
end Go.Proofs.YtkapodkidlgkjaaDoor
