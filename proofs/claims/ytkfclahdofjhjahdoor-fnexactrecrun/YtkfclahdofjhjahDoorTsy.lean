/- A slice of says that can be read, opened. -/
import Derived.Test.YtkfclahdofjhjahDoorTs
import Derived.Test.YtkfclahdofjhjahDoorTr
import Derived.Test.YtkfclahdofjhjahDoorLawRs
namespace Go.Proofs.YtkfclahdofjhjahDoor
open Go.ChangeShapes Go.WideShapes Go.ChangeAt Go.RowKit

theorem says_of_trod {H : Type} {enc : TypeId × Value → H} {W : World} {base : Nat} {sp : Nat → Bool} {held : Bool} {v : Value} {d : DataW H} {p : List MemPlace} (hv : ∃ a l c, v = .slice a l c)
    (h : DataW.Trod enc Tryd.prog W base sp held 45 v d p) : ∃ ys, SaySrc W v ys := by
  obtain ⟨a0, l0, k0, rfl⟩ := hv
  obtain ⟨fuel, hf⟩ := h
  rcases DataW.trod_slice Tryd.underlying45 hf with ⟨hcs, _⟩ | ⟨a, len, cap, elems, rest, n, _, hcs, _, hb, hl, hm, hlen, hel, _, _⟩
  · have : Value.slice a0 l0 k0 = .slice none 0 0 := by simpa [Value.cells] using hcs
    rw [this]
    exact ⟨[], .inl ⟨_, _, rfl, rfl⟩⟩
  · have : Value.slice a0 l0 k0 = .slice (some a) len cap := by simpa [Value.cells] using hcs
    rw [this]
    clear this hcs hf
    rw [cellsSay] at hel
    have each : ∀ i, i < len → ∃ q : Sy, W.cells? base (a.add (i * 2)) 2 = some q.cellsR := by
      intro i hi
      have h1 := hel i hi
      rw [List.getElem?_eq_getElem (by omega)] at h1
      obtain ⟨cs, hc, ht⟩ := Option.bind_eq_some_iff.1 h1
      obtain ⟨y, rfl, _⟩ := trod_say ht
      exact ⟨y, hc⟩
    obtain ⟨ys, hpl, hps⟩ := list_of len _ each
    rcases Nat.eq_zero_or_pos len with h0 | h0
    · subst h0
      exact ⟨[], .inl ⟨_, _, rfl, rfl⟩⟩
    · obtain ⟨b, o, spot⟩ := a
      have hs : spot = none := by
        obtain ⟨q, hq⟩ := each 0 h0
        unfold World.cells? at hq
        split at hq
        · obtain ⟨x, _, hc⟩ := Lib.mapM_at hq 0 0 (by simp)
          simpa [Addr.add] using World.cell?_spot hc
        · cases hq
      subst hs
      have hra : SayAt W b o ys := by
        intro i q hq
        have := hps i q hq
        rw [Addr.add_mid] at this
        exact rangeAt_of_cells this
      subst hpl
      refine ⟨ys, .inr ⟨b, o, cap, rfl, hra, ?_, by omega⟩⟩
      have := hra 0 ys[0] (by simp [h0]) 0 _ rfl
      exact World.block_lt_of_cell? W _ this
end Go.Proofs.YtkfclahdofjhjahDoor
