/- What the row's list gives: the table of the ends' names; a world for the witness. -/
import Derived.Test.YtlkpgiifdclijaaGreatDoorJ39
import Derived.Test.YtlkpgiifdclijaaGreatDoorRows
import Derived.Test.YtlkpgiifdclijaaGreatDoorJ4
import Derived.ProofKit
import Derived.OpenShut
import Derived.OpenVars
import Derived.LaidLaws
import Derived.Lib.LaidTab
import Derived.ChangeBears2
import Derived.Deep.DeepHandedRow
import Derived.Test.YtlkpgiifdclijaaGreatDoorJ34
namespace Go.Proofs.YtlkpgiifdclijaaGreatDoor
open Go.ChangeShapes Go.WideShapes Go.ChangeAt Go.RowKit

theorem gN : Tryz.prog.globalNamed "loop.example/maltrun/impl.recEndNames" = some 0 := by kernel_rfl
theorem gNType : (Tryz.prog.globals[0]?).map (·.type) = some 194 := by kernel_rfl
theorem cellsEnds : Tryz.prog.cellsOf 194 = 3 := by kernel_rfl
def cells3 : Array Value := #[.string ⟨#[103, 111, 111, 100]⟩, .string ⟨#[115, 97, 118, 101, 100]⟩, .string ⟨#[115, 99, 114, 97, 112, 112, 101, 100]⟩]

theorem ends_of_laid {W : World} (h : laidMet Tryz.prog [("loop.example/maltrun/impl.recEndNames", Rows.laid_loop_example_maltrun_impl_recEndNames)] W) : W.var? Tryz.prog "loop.example/maltrun/impl.recEndNames" = some cells3 := by
  obtain ⟨ps, ⟨g, t, cs, fuel, p, q, hg, ht, hvar, hd, _, _⟩, _⟩ := h
  obtain rfl := Option.some.inj (gN.symm.trans hg)
  obtain rfl := Option.some.inj (gNType.symm.trans ht)
  rw [hvar]
  congr 1
  obtain ⟨l⟩ := cs
  cases fuel with
  | zero => simp [DataW.trod] at hd
  | succ fuel =>
    simp only [DataW.trod, Tryz.underlying194, cellsEnds, cellsString] at hd
    split at hd
    · rename_i hl
      obtain ⟨c0, c1, c2, rfl⟩ : ∃ c0 c1 c2, l = [c0, c1, c2] := by
        match l, hl with
        | [a, b, c], _ => exact ⟨a, b, c, rfl⟩
      have e : List.range 3 = [0, 1, 2] := rfl
      rw [e] at hd
      simp only [Option.map_eq_some_iff, List.mapM_cons, List.mapM_nil, Option.bind_eq_bind, Option.bind_eq_some_iff, Option.pure_def, Option.some.injEq] at hd
      obtain ⟨xs, ⟨y0, h0, _, ⟨y1, h1, _, ⟨y2, h2, _, rfl, rfl⟩, rfl⟩, rfl⟩, hx⟩ := hd
      obtain ⟨n0, rfl, rfl, _⟩ := str_of_trod h0
      obtain ⟨n1, rfl, rfl, _⟩ := str_of_trod h1
      obtain ⟨n2, rfl, rfl, _⟩ := str_of_trod h2
      simp [Rows.laid_loop_example_maltrun_impl_recEndNames] at hx
      obtain ⟨⟨e0, e1, e2⟩, _⟩ := hx
      rw [ba_of_list e0, ba_of_list e1, ba_of_list e2]
      rfl
    · cases hd

theorem Ends.of_laid {W : World} (h : laidMet Tryz.prog [("loop.example/maltrun/impl.recEndNames", Rows.laid_loop_example_maltrun_impl_recEndNames)] W) : Ends W := by
  have hv := ends_of_laid h
  have hc := fun i => World.var?_cell gN hv i
  refine ⟨hc 0, hc 1, hc 2, ?_⟩
  rcases Nat.lt_or_ge 0 W.heap.size with h' | h'
  · exact h'
  · unfold World.var? at hv
    rw [gN] at hv
    simp only [Option.bind_some] at hv
    rw [Array.getElem?_eq_none h'] at hv; cases hv

noncomputable def laidWorld (os : Os) : World :=
  { World.holding Tryz.prog os ⟨#[], #[], []⟩ with heap := (World.holding Tryz.prog os ⟨#[], #[], []⟩).heap.modify 0 fun
      | .cells _ t frozen => .cells cells3 t frozen
      | o => o }
theorem laid_met (os : Os) (args : Array Value) : laidMet Tryz.prog [("loop.example/maltrun/impl.recEndNames", Rows.laid_loop_example_maltrun_impl_recEndNames)] ((laidWorld os).forCall (fun _ _ => 0) ⟨#[], args, []⟩).memory :=
  laidMet_of_run (ps := [.cell 0 0, .cell 0 1, .cell 0 2]) 8 (by kernel_rfl) (by kernel_rfl) (by kernel_rfl)
end Go.Proofs.YtlkpgiifdclijaaGreatDoor

/- A phase that can be read, opened. -/
namespace Go.Proofs.YtlkpgiifdclijaaGreatDoor
open Go.ChangeShapes Go.WideShapes Go.ChangeAt Go.RowKit

theorem cellsPhase : Tryz.prog.cellsOf 150 = 8 := by kernel_rfl

/-- A phase that can be read: its eight cells. -/
theorem trod_phase {H : Type} {enc : TypeId × Value → H} {w : World} {base : Nat} {sp : Nat → Bool} {held : Bool} {fuel : Nat} {cs : List Value} {x : DataW H × List MemPlace}
    (h : DataW.trod enc Tryz.prog w base sp held fuel 150 cs = some x) :
    ∃ (nm : ByteArray) (k : Int) (a b : ByteArray) (n wi : Int) (t e : ByteArray), cs = [.string nm, .int .i64 k, .string a, .string b, .int .i64 n, .int .i64 wi, .string t, .string e] ∧ x.2 = [] ∧
      nm.size ≤ maxLen ∧ a.size ≤ maxLen ∧ b.size ≤ maxLen ∧ t.size ≤ maxLen ∧ e.size ≤ maxLen := by
  obtain ⟨xs, m, _, rfl, hl, hlen, hf⟩ := DataW.trod_struct Tryz.underlying150 h
  rw [cellsPhase] at hl
  obtain ⟨c0, c1, c2, c3, c4, c5, c6, c7, rfl⟩ := list8 hl
  obtain ⟨y0, y1, y2, y3, y4, y5, y6, y7, rfl⟩ := list8 (hlen.trans rfl : xs.length = 8)
  have h0 : DataW.trod enc Tryz.prog w base sp held m 9 (([c0, c1, c2, c3, c4, c5, c6, c7].drop 0).take (Tryz.prog.cellsOf 9)) = some y0 := hf 0 { name := "Name", type := 9, offset := 0, embedded := false, tag := "", pkgPath := "", byteOffset := 0 } rfl
  have h1 : DataW.trod enc Tryz.prog w base sp held m 3 (([c0, c1, c2, c3, c4, c5, c6, c7].drop 1).take (Tryz.prog.cellsOf 3)) = some y1 := hf 1 { name := "Kind", type := 3, offset := 1, embedded := false, tag := "", pkgPath := "", byteOffset := 16 } rfl
  have h2 : DataW.trod enc Tryz.prog w base sp held m 9 (([c0, c1, c2, c3, c4, c5, c6, c7].drop 2).take (Tryz.prog.cellsOf 9)) = some y2 := hf 2 { name := "A", type := 9, offset := 2, embedded := false, tag := "", pkgPath := "", byteOffset := 24 } rfl
  have h3 : DataW.trod enc Tryz.prog w base sp held m 9 (([c0, c1, c2, c3, c4, c5, c6, c7].drop 3).take (Tryz.prog.cellsOf 9)) = some y3 := hf 3 { name := "B", type := 9, offset := 3, embedded := false, tag := "", pkgPath := "", byteOffset := 40 } rfl
  have h4 : DataW.trod enc Tryz.prog w base sp held m 3 (([c0, c1, c2, c3, c4, c5, c6, c7].drop 4).take (Tryz.prog.cellsOf 3)) = some y4 := hf 4 { name := "N", type := 3, offset := 4, embedded := false, tag := "", pkgPath := "", byteOffset := 56 } rfl
  have h5 : DataW.trod enc Tryz.prog w base sp held m 3 (([c0, c1, c2, c3, c4, c5, c6, c7].drop 5).take (Tryz.prog.cellsOf 3)) = some y5 := hf 5 { name := "Within", type := 3, offset := 5, embedded := false, tag := "", pkgPath := "", byteOffset := 64 } rfl
  have h6 : DataW.trod enc Tryz.prog w base sp held m 9 (([c0, c1, c2, c3, c4, c5, c6, c7].drop 6).take (Tryz.prog.cellsOf 9)) = some y6 := hf 6 { name := "Then", type := 9, offset := 6, embedded := false, tag := "", pkgPath := "", byteOffset := 72 } rfl
  have h7 : DataW.trod enc Tryz.prog w base sp held m 9 (([c0, c1, c2, c3, c4, c5, c6, c7].drop 7).take (Tryz.prog.cellsOf 9)) = some y7 := hf 7 { name := "Else", type := 9, offset := 7, embedded := false, tag := "", pkgPath := "", byteOffset := 88 } rfl
  clear hf h
  rw [cellsString] at h0 h2 h3 h6 h7
  rw [cellsInt] at h1 h4 h5
  simp only [List.drop_succ_cons, List.drop_zero, List.take_succ_cons, List.take_zero] at h0 h1 h2 h3 h4 h5 h6 h7
  obtain ⟨nm, rfl, rfl, z0⟩ := str_of_trod h0
  obtain ⟨k, rfl, rfl, _⟩ := int_of_trod h1
  obtain ⟨a, rfl, rfl, z2⟩ := str_of_trod h2
  obtain ⟨b, rfl, rfl, z3⟩ := str_of_trod h3
  obtain ⟨n, rfl, rfl, _⟩ := int_of_trod h4
  obtain ⟨wi, rfl, rfl, _⟩ := int_of_trod h5
  obtain ⟨t, rfl, rfl, z6⟩ := str_of_trod h6
  obtain ⟨e, rfl, rfl, z7⟩ := str_of_trod h7
  exact ⟨nm, k, a, b, n, wi, t, e, rfl, rfl, z0, z2, z3, z6, z7⟩

end Go.Proofs.YtlkpgiifdclijaaGreatDoor

/- A slice of phases that can be read, opened. -/
namespace Go.Proofs.YtlkpgiifdclijaaGreatDoor
open Go.ChangeShapes Go.WideShapes Go.ChangeAt Go.RowKit

theorem src_of_trod {H : Type} {enc : TypeId × Value → H} {W : World} {base : Nat} {sp : Nat → Bool} {held : Bool} {v : Value} {d : DataW H} {p : List MemPlace} (hv : ∃ a l c, v = .slice a l c)
    (h : DataW.Trod enc Tryz.prog W base sp held 68 v d p) : ∃ ps, Src W v ps ∧ Sized ps := by
  obtain ⟨a0, l0, k0, rfl⟩ := hv
  obtain ⟨fuel, hf⟩ := h
  rcases DataW.trod_slice Tryz.underlying68 hf with ⟨hcs, _⟩ | ⟨a, len, cap, elems, rest, n, _, hcs, _, hb, hl, hm, hlen, hel, _, _⟩
  · have : Value.slice a0 l0 k0 = .slice none 0 0 := by simpa [Value.cells] using hcs
    rw [this]
    exact ⟨[], .inl ⟨_, _, rfl, rfl⟩, fun p hp => by simp at hp⟩
  · have : Value.slice a0 l0 k0 = .slice (some a) len cap := by simpa [Value.cells] using hcs
    rw [this]
    clear this hcs hf
    rw [cellsPhase] at hel
    have each : ∀ i, i < len → ∃ q : Ph, W.cells? base (a.add (i * 8)) 8 = some q.cells ∧ (q.nm.size ≤ maxLen ∧ q.a.size ≤ maxLen ∧ q.b.size ≤ maxLen ∧ q.t.size ≤ maxLen ∧ q.e.size ≤ maxLen) := by
      intro i hi
      have h1 := hel i hi
      rw [List.getElem?_eq_getElem (by omega)] at h1
      obtain ⟨cs, hc, ht⟩ := Option.bind_eq_some_iff.1 h1
      obtain ⟨nm, k, a', b', n', wi, t, e, rfl, _, z0, z2, z3, z6, z7⟩ := trod_phase ht
      exact ⟨⟨nm, k, a', b', n', wi, t, e⟩, hc, z0, z2, z3, z6, z7⟩
    obtain ⟨ps, hpl, hps⟩ := list_of len _ each
    rcases Nat.eq_zero_or_pos len with h0 | h0
    · subst h0
      exact ⟨[], .inl ⟨_, _, rfl, rfl⟩, fun p hp => by simp at hp⟩
    · obtain ⟨b, o, spot⟩ := a
      have hs : spot = none := by
        obtain ⟨q, hq, _⟩ := each 0 h0
        unfold World.cells? at hq
        split at hq
        · obtain ⟨x, _, hc⟩ := Lib.mapM_at hq 0 0 (by simp)
          simpa [Addr.add] using World.cell?_spot hc
        · cases hq
      subst hs
      have hra : RecAt W b o ps := by
        intro i q hq
        have := (hps i q hq).1
        rw [Addr.add_mid] at this
        exact rangeAt_of_cells this
      subst hpl
      refine ⟨ps, .inr ⟨b, o, cap, rfl, hra, ?_, by omega⟩, fun q hq => ?_⟩
      · have := hra 0 ps[0] (by simp [h0]) 0 _ rfl
        exact World.block_lt_of_cell? W _ this
      · obtain ⟨i, hi, rfl⟩ := List.getElem_of_mem hq
        exact (hps i ps[i] (by simp [hi])).2
end Go.Proofs.YtlkpgiifdclijaaGreatDoor
