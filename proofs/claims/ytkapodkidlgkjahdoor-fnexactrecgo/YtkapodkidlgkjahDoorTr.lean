/- Where a run is, and how a phase went, that can be read: opened. -/
import Derived.Test.YtkapodkidlgkjahDoorLay0
import Derived.Test.YtkapodkidlgkjahDoorLay
import Derived.Test.YtkapodkidlgkjahDoorRn
namespace Go.Proofs.YtkapodkidlgkjahDoor
open Go.ChangeShapes Go.WideShapes Go.ChangeAt Go.RowKit

theorem cellsState : Tryd.prog.cellsOf 35 = 3 := by kernel_rfl
theorem cellsSay : Tryd.prog.cellsOf 37 = 2 := by kernel_rfl
theorem trod_state {H : Type} {enc : TypeId × Value → H} {w : World} {base : Nat} {sp : Nat → Bool} {held : Bool} {fuel : Nat} {cs : List Value} {x : DataW H × List MemPlace}
    (h : DataW.trod enc Tryd.prog w base sp held fuel 35 cs = some x) : ∃ s : St, cs = [.string s.nm, .int .i64 s.now, .int .i64 s.left] ∧ s.nm.size ≤ maxLen := by
  obtain ⟨xs, m, _, rfl, hl, hlen, hf⟩ := DataW.trod_struct Tryd.underlying35 h
  rw [cellsState] at hl
  obtain ⟨c0, c1, c2, rfl⟩ := list3 hl
  obtain ⟨y0, y1, y2, rfl⟩ := list3 (hlen.trans rfl : xs.length = 3)
  have h0 : DataW.trod enc Tryd.prog w base sp held m 9 (([c0, c1, c2].drop 0).take (Tryd.prog.cellsOf 9)) = some y0 := hf 0 { name := "At", type := 9, offset := 0, embedded := false, tag := "", pkgPath := "", byteOffset := 0 } rfl
  have h1 : DataW.trod enc Tryd.prog w base sp held m 3 (([c0, c1, c2].drop 1).take (Tryd.prog.cellsOf 3)) = some y1 := hf 1 { name := "Now", type := 3, offset := 1, embedded := false, tag := "", pkgPath := "", byteOffset := 16 } rfl
  have h2 : DataW.trod enc Tryd.prog w base sp held m 3 (([c0, c1, c2].drop 2).take (Tryd.prog.cellsOf 3)) = some y2 := hf 2 { name := "Left", type := 3, offset := 2, embedded := false, tag := "", pkgPath := "", byteOffset := 24 } rfl
  clear hf h
  rw [cellsString] at h0
  rw [cellsInt] at h1 h2
  simp only [List.drop_succ_cons, List.drop_zero, List.take_succ_cons, List.take_zero] at h0 h1 h2
  obtain ⟨nm, rfl, rfl, z0⟩ := str_of_trod h0
  obtain ⟨n, rfl, rfl, _⟩ := int_of_trod h1
  obtain ⟨l, rfl, rfl, _⟩ := int_of_trod h2
  exact ⟨⟨nm, n, l⟩, rfl, z0⟩
theorem trod_say {H : Type} {enc : TypeId × Value → H} {w : World} {base : Nat} {sp : Nat → Bool} {held : Bool} {fuel : Nat} {cs : List Value} {x : DataW H × List MemPlace}
    (h : DataW.trod enc Tryd.prog w base sp held fuel 37 cs = some x) : ∃ y : Sy, cs = [.int .i64 y.t, .bool y.well] ∧ (Lit.int .i64 y.t).wf = true := by
  obtain ⟨xs, m, _, rfl, hl, hlen, hf⟩ := DataW.trod_struct Tryd.underlying37 h
  rw [cellsSay] at hl
  obtain ⟨c0, c1, rfl⟩ := list2 hl
  obtain ⟨y0, y1, rfl⟩ := list2 (hlen.trans rfl : xs.length = 2)
  have h0 : DataW.trod enc Tryd.prog w base sp held m 3 (([c0, c1].drop 0).take (Tryd.prog.cellsOf 3)) = some y0 := hf 0 { name := "Ticks", type := 3, offset := 0, embedded := false, tag := "", pkgPath := "", byteOffset := 0 } rfl
  have h1 : DataW.trod enc Tryd.prog w base sp held m 4 (([c0, c1].drop 1).take (Tryd.prog.cellsOf 4)) = some y1 := hf 1 { name := "Well", type := 4, offset := 1, embedded := false, tag := "", pkgPath := "", byteOffset := 8 } rfl
  clear hf h
  rw [cellsInt] at h0
  rw [cellsBool] at h1
  simp only [List.drop_succ_cons, List.drop_zero, List.take_succ_cons, List.take_zero] at h0 h1
  obtain ⟨n, rfl, rfl, z0⟩ := int_of_trod h0
  obtain ⟨b, rfl, rfl⟩ := bool_of_trod h1
  exact ⟨⟨n, b⟩, rfl, z0⟩
end Go.Proofs.YtkapodkidlgkjahDoor
