/- A code that can be read, opened. -/
import Derived.Test.YtkapodkidlgkjaaDoorLay
import Derived.Test.YtkapodkidlgkjaaDoorDp0
import Derived.OpenShut
import Derived.Deep.MidRow
namespace Go.Proofs.YtkapodkidlgkjaaDoor
open Go.ChangeShapes Go.WideShapes Go.ChangeAt Go.RowKit

theorem cellsByte : Tryd.prog.cellsOf 5 = 1 := by kernel_rfl
theorem bytes_of_trod {H : Type} {enc : TypeId × Value → H} {W : World} {base : Nat} {sp : Nat → Bool} {held : Bool} {v : Value} {d : DataW H} {p : List MemPlace} (hv : ∃ a l c, v = .slice a l c)
    (h : DataW.Trod enc Tryd.prog W base sp held 22 v d p) : ∃ (a : Option Addr) (l c : Nat), v = .slice a l c ∧ BytesAt W W.heap.size (.slice a l c) l ∧ l ≤ c ∧ c ≤ maxLen := by
  obtain ⟨a0, l0, k0, rfl⟩ := hv
  obtain ⟨fuel, hf⟩ := h
  rcases open_ints Tryd.underlying22 Tryd.underlying5 cellsByte hf with ⟨hcs, _⟩ | ⟨a, len, cap, zs, hcs, _, hl, hm, hz, _, hcell, hwf⟩
  · have : Value.slice a0 l0 k0 = .slice none 0 0 := by simpa [Value.cells] using hcs
    rw [this]
    exact ⟨none, 0, 0, rfl, ⟨none, 0, rfl, .inl rfl⟩, Nat.le_refl _, Nat.zero_le _⟩
  · have : Value.slice a0 l0 k0 = .slice (some a) len cap := by simpa [Value.cells] using hcs
    rw [this]
    refine ⟨some a, len, cap, rfl, ⟨some a, cap, rfl, ?_⟩, hl, hm⟩
    rcases Nat.eq_zero_or_pos len with h0 | h0
    · exact .inl h0
    · have hlz : len ≤ zs.length := by rw [hz]; split <;> omega
      obtain ⟨b, o, spot⟩ := a
      have c0 := hcell 0 (by omega)
      have hs : spot = none := by simpa [Addr.add] using World.cell?_spot c0
      subst hs
      refine .inr ⟨b, o, fun i => zs.getD i 0, rfl, World.block_lt_of_cell? W _ c0, fun i hi => ⟨?_, ?_⟩⟩
      · have := hcell i (by omega)
        rwa [Addr.add_mid] at this
      · have := range_u8 hwf i
        simpa [List.getD_eq_getElem?_getD] using this
end Go.Proofs.YtkapodkidlgkjaaDoor
