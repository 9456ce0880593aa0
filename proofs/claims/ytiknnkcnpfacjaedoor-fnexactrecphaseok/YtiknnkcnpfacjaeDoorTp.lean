/- A phase that can be read, opened. -/
import Derived.Test.YtiknnkcnpfacjaeDoorLay
namespace Go.Proofs.YtiknnkcnpfacjaeDoor
open Go.ChangeShapes Go.WideShapes Go.ChangeAt Go.RowKit

theorem cellsPhase : Tryd.prog.cellsOf 23 = 8 := by kernel_rfl

/-- A phase that can be read: its eight cells. -/
theorem trod_phase {H : Type} {enc : TypeId × Value → H} {w : World} {base : Nat} {sp : Nat → Bool} {held : Bool} {fuel : Nat} {cs : List Value} {x : DataW H × List MemPlace}
    (h : DataW.trod enc Tryd.prog w base sp held fuel 23 cs = some x) :
    ∃ (nm : ByteArray) (k : Int) (a b : ByteArray) (n wi : Int) (t e : ByteArray), cs = [.string nm, .int .i64 k, .string a, .string b, .int .i64 n, .int .i64 wi, .string t, .string e] ∧ x.2 = [] ∧
      nm.size ≤ maxLen ∧ a.size ≤ maxLen ∧ b.size ≤ maxLen ∧ t.size ≤ maxLen ∧ e.size ≤ maxLen := by
  obtain ⟨xs, m, _, rfl, hl, hlen, hf⟩ := DataW.trod_struct Tryd.underlying23 h
  rw [cellsPhase] at hl
  match cs, hl, xs, hlen with
  | [c0, c1, c2, c3, c4, c5, c6, c7], _, [y0, y1, y2, y3, y4, y5, y6, y7], _ =>
    have h0 := hf 0 _ rfl
    have h1 := hf 1 _ rfl
    have h2 := hf 2 _ rfl
    have h3 := hf 3 _ rfl
    have h4 := hf 4 _ rfl
    have h5 := hf 5 _ rfl
    have h6 := hf 6 _ rfl
    have h7 := hf 7 _ rfl
    clear hf h
    simp only [List.getElem?_cons_succ, List.getElem?_cons_zero] at h0 h1 h2 h3 h4 h5 h6 h7
    obtain ⟨nm, rfl, rfl, z0⟩ := str_of_trod h0
    obtain ⟨k, rfl, rfl, _⟩ := int_of_trod h1
    obtain ⟨a, rfl, rfl, z2⟩ := str_of_trod h2
    obtain ⟨b, rfl, rfl, z3⟩ := str_of_trod h3
    obtain ⟨n, rfl, rfl, _⟩ := int_of_trod h4
    obtain ⟨wi, rfl, rfl, _⟩ := int_of_trod h5
    obtain ⟨t, rfl, rfl, z6⟩ := str_of_trod h6
    obtain ⟨e, rfl, rfl, z7⟩ := str_of_trod h7
    exact ⟨nm, k, a, b, n, wi, t, e, rfl, rfl, z0, z2, z3, z6, z7⟩

end Go.Proofs.YtiknnkcnpfacjaeDoor
