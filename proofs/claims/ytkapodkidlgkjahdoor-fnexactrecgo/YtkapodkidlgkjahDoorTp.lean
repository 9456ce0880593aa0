/- A phase that can be read, opened. -/
import Derived.Test.YtkapodkidlgkjahDoorLay0
import Derived.Test.YtkapodkidlgkjahDoorLay
namespace Go.Proofs.YtkapodkidlgkjahDoor
open Go.ChangeShapes Go.WideShapes Go.ChangeAt Go.RowKit

theorem cellsPhase : Tryd.prog.cellsOf 60 = 8 := by kernel_rfl

/-- A phase that can be read: its eight cells. -/
theorem trod_phase {H : Type} {enc : TypeId × Value → H} {w : World} {base : Nat} {sp : Nat → Bool} {held : Bool} {fuel : Nat} {cs : List Value} {x : DataW H × List MemPlace}
    (h : DataW.trod enc Tryd.prog w base sp held fuel 60 cs = some x) :
    ∃ (nm : ByteArray) (k : Int) (a b : ByteArray) (n wi : Int) (t e : ByteArray), cs = [.string nm, .int .i64 k, .string a, .string b, .int .i64 n, .int .i64 wi, .string t, .string e] ∧ x.2 = [] ∧
      nm.size ≤ maxLen ∧ a.size ≤ maxLen ∧ b.size ≤ maxLen ∧ t.size ≤ maxLen ∧ e.size ≤ maxLen := by
  obtain ⟨xs, m, _, rfl, hl, hlen, hf⟩ := DataW.trod_struct Tryd.underlying60 h
  rw [cellsPhase] at hl
  obtain ⟨c0, c1, c2, c3, c4, c5, c6, c7, rfl⟩ := list8 hl
  obtain ⟨y0, y1, y2, y3, y4, y5, y6, y7, rfl⟩ := list8 (hlen.trans rfl : xs.length = 8)
  have h0 : DataW.trod enc Tryd.prog w base sp held m 9 (([c0, c1, c2, c3, c4, c5, c6, c7].drop 0).take (Tryd.prog.cellsOf 9)) = some y0 := hf 0 { name := "Name", type := 9, offset := 0, embedded := false, tag := "", pkgPath := "", byteOffset := 0 } rfl
  have h1 : DataW.trod enc Tryd.prog w base sp held m 3 (([c0, c1, c2, c3, c4, c5, c6, c7].drop 1).take (Tryd.prog.cellsOf 3)) = some y1 := hf 1 { name := "Kind", type := 3, offset := 1, embedded := false, tag := "", pkgPath := "", byteOffset := 16 } rfl
  have h2 : DataW.trod enc Tryd.prog w base sp held m 9 (([c0, c1, c2, c3, c4, c5, c6, c7].drop 2).take (Tryd.prog.cellsOf 9)) = some y2 := hf 2 { name := "A", type := 9, offset := 2, embedded := false, tag := "", pkgPath := "", byteOffset := 24 } rfl
  have h3 : DataW.trod enc Tryd.prog w base sp held m 9 (([c0, c1, c2, c3, c4, c5, c6, c7].drop 3).take (Tryd.prog.cellsOf 9)) = some y3 := hf 3 { name := "B", type := 9, offset := 3, embedded := false, tag := "", pkgPath := "", byteOffset := 40 } rfl
  have h4 : DataW.trod enc Tryd.prog w base sp held m 3 (([c0, c1, c2, c3, c4, c5, c6, c7].drop 4).take (Tryd.prog.cellsOf 3)) = some y4 := hf 4 { name := "N", type := 3, offset := 4, embedded := false, tag := "", pkgPath := "", byteOffset := 56 } rfl
  have h5 : DataW.trod enc Tryd.prog w base sp held m 3 (([c0, c1, c2, c3, c4, c5, c6, c7].drop 5).take (Tryd.prog.cellsOf 3)) = some y5 := hf 5 { name := "Within", type := 3, offset := 5, embedded := false, tag := "", pkgPath := "", byteOffset := 64 } rfl
  have h6 : DataW.trod enc Tryd.prog w base sp held m 9 (([c0, c1, c2, c3, c4, c5, c6, c7].drop 6).take (Tryd.prog.cellsOf 9)) = some y6 := hf 6 { name := "Then", type := 9, offset := 6, embedded := false, tag := "", pkgPath := "", byteOffset := 72 } rfl
  have h7 : DataW.trod enc Tryd.prog w base sp held m 9 (([c0, c1, c2, c3, c4, c5, c6, c7].drop 7).take (Tryd.prog.cellsOf 9)) = some y7 := hf 7 { name := "Else", type := 9, offset := 7, embedded := false, tag := "", pkgPath := "", byteOffset := 88 } rfl
  clear hf h
  rw [cellsString] at h0 h2 h3 h6 h7
  rw [cellsInt] at h1 h4 h5
  simp only [List.drop_succ_cons, List.drop_zero, List.take_succ_cons, List.take_zero] at h0 h1 h2 h3 h4 h5 h6 h7
  obtain ⟨nm, rfl, rfl, z0⟩ := str_of_trod h0
  obtain ⟨k, rfl, rfl, _⟩ := int_of_trod h1
  obtain ⟨a, rfl, rfl, z2⟩ := str_of_trod h2
  obtain ⟨b, rfl, rfl, z3⟩ := str_of_trod h3
  obtain ⟨n, rfl, rfl, _⟩ := int_of_trod h4
  obtain ⟨wi, rfl, rfl, _⟩ := int_of_trod h5
  obtain ⟨t, rfl, rfl, z6⟩ := str_of_trod h6
  obtain ⟨e, rfl, rfl, z7⟩ := str_of_trod h7
  exact ⟨nm, k, a, b, n, wi, t, e, rfl, rfl, z0, z2, z3, z6, z7⟩

end Go.Proofs.YtkapodkidlgkjahDoor
