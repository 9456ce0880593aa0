/- What the row's list gives: the tables of the ends' names, of the kinds' words, of the powers of ten; a world for the witness. -/
import Derived.Test.YtkfclahdofjhjahDoorLay
import Derived.Test.YtkfclahdofjhjahDoorWp3
import Derived.Stop.LaidErr
namespace Go.Proofs.YtkfclahdofjhjahDoor
open Go.ChangeShapes Go.WideShapes Go.ChangeAt Go.RowKit

theorem gK : Tryd.prog.globalNamed "loop.example/maltrun/impl.recKindWords" = some 1 := by kernel_rfl
theorem gKType : (Tryd.prog.globals[1]?).map (·.type) = some 102 := by kernel_rfl
theorem cellsKinds : Tryd.prog.cellsOf 102 = 6 := by kernel_rfl
def cells6 : Array Value := #[.string ⟨#[]⟩, .string (kindS 1), .string (kindS 2), .string (kindS 3), .string (kindS 4), .string (kindS 5)]

theorem ends_head {W : World} {rest : List (String × DataW Unit)} (h : laidMet Tryd.prog (("loop.example/maltrun/impl.recEndNames", Rows.laid_loop_example_maltrun_impl_recEndNames) :: rest) W) : Ends W := by
  apply Ends.of_laid
  obtain ⟨ps, ⟨g, t, cs, fuel, p, q, hg, ht, hvar, hd, hq, rfl⟩, hnd, hrows⟩ := h
  exact ⟨_, ⟨g, t, cs, fuel, p, [], hg, ht, hvar, hd, rfl, rfl⟩, List.Nodup.sublist (by rw [List.append_nil]; exact List.sublist_append_left _ _) hnd, fun b off hm => hrows b off (by rw [List.append_nil] at hm; exact List.mem_append_left _ hm)⟩
theorem kinds_head {W : World} {rest : List (String × DataW Unit)} (h : laidMet Tryd.prog (("loop.example/maltrun/impl.recKindWords", Rows.laid_loop_example_maltrun_impl_recKindWords) :: rest) W) : W.var? Tryd.prog "loop.example/maltrun/impl.recKindWords" = some cells6 := by
  obtain ⟨ps, ⟨g, t, cs, fuel, p, q, hg, ht, hvar, hd, _, _⟩, _⟩ := h
  obtain rfl := Option.some.inj (gK.symm.trans hg)
  obtain rfl := Option.some.inj (gKType.symm.trans ht)
  rw [hvar]
  congr 1
  obtain ⟨l⟩ := cs
  cases fuel with
  | zero => simp [DataW.trod] at hd
  | succ fuel =>
    simp only [DataW.trod, Tryd.underlying102, cellsKinds, cellsString] at hd
    split at hd
    · rename_i hl
      obtain ⟨c0, c1, c2, c3, c4, c5, rfl⟩ : ∃ c0 c1 c2 c3 c4 c5, l = [c0, c1, c2, c3, c4, c5] := by
        match l, hl with
        | [a, b, c, d, e, f], _ => exact ⟨a, b, c, d, e, f, rfl⟩
      have e : List.range 6 = [0, 1, 2, 3, 4, 5] := rfl
      rw [e] at hd
      simp only [Option.map_eq_some_iff, List.mapM_cons, List.mapM_nil, Option.bind_eq_bind, Option.bind_eq_some_iff, Option.pure_def, Option.some.injEq] at hd
      obtain ⟨xs, ⟨y0, h0, _, ⟨y1, h1, _, ⟨y2, h2, _, ⟨y3, h3, _, ⟨y4, h4, _, ⟨y5, h5, _, rfl, rfl⟩, rfl⟩, rfl⟩, rfl⟩, rfl⟩, rfl⟩, hx⟩ := hd
      obtain ⟨n0, rfl, rfl, _⟩ := str_of_trod h0
      obtain ⟨n1, rfl, rfl, _⟩ := str_of_trod h1
      obtain ⟨n2, rfl, rfl, _⟩ := str_of_trod h2
      obtain ⟨n3, rfl, rfl, _⟩ := str_of_trod h3
      obtain ⟨n4, rfl, rfl, _⟩ := str_of_trod h4
      obtain ⟨n5, rfl, rfl, _⟩ := str_of_trod h5
      simp [Rows.laid_loop_example_maltrun_impl_recKindWords] at hx
      obtain ⟨⟨e0, e1, e2, e3, e4, e5⟩, _⟩ := hx
      rw [ba_of_list e1, ba_of_list e2, ba_of_list e3, ba_of_list e4, ba_of_list e5, show n0 = ⟨#[]⟩ from by cases n0; simp_all]
      rfl
    · cases hd
theorem tabs_of {W : World} (hk : W.var? Tryd.prog "loop.example/maltrun/impl.recKindWords" = some cells6) (ht : Lib.TabIs Tryd.prog W "internal/strconv.uint64pow10" .u64 Lib.pow10Tab) : Tabs W := by
  have hc := fun i => World.var?_cell gK hk i
  refine ⟨hc 1, hc 2, hc 3, hc 4, hc 5, ?_, ht⟩
  rcases Nat.lt_or_ge 1 W.heap.size with h' | h'
  · exact h'
  · unfold World.var? at hk
    rw [gK] at hk
    simp only [Option.bind_some] at hk
    rw [Array.getElem?_eq_none h'] at hk; cases hk
theorem both_of_laid {W : World} (h : laidMet Tryd.prog Rows.fnExactRecPrintRow.laid W) : Ends W ∧ Tabs W := by
  have h3 := h.tail.tail
  refine ⟨ends_head h3.tail, tabs_of (kinds_head h3.tail.tail) ?_⟩
  exact Lib.tabIs_of_head (zs := Lib.pow10Tab) (g := 3) (by kernel_rfl) (by kernel_rfl) Tryd.underlying149 Tryd.underlying143 (by kernel_rfl) (by kernel_rfl) h3
end Go.Proofs.YtkfclahdofjhjahDoor
