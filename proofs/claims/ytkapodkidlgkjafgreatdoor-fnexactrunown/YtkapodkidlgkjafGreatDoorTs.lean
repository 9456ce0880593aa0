/- A slice of phases that can be read, opened. -/
import Derived.Test.YtkapodkidlgkjafGreatDoorLay0
import Derived.Test.YtkapodkidlgkjafGreatDoorJ46
import Derived.Test.YtkapodkidlgkjafGreatDoorWs
namespace Go.Proofs.YtkapodkidlgkjafGreatDoor
open Go.ChangeShapes Go.WideShapes Go.ChangeAt Go.RowKit

theorem src_of_trod {H : Type} {enc : TypeId × Value → H} {W : World} {base : Nat} {sp : Nat → Bool} {held : Bool} {v : Value} {d : DataW H} {p : List MemPlace} (hv : ∃ a l c, v = .slice a l c)
    (h : DataW.Trod enc Tryz.prog W base sp held 22 v d p) : ∃ ps, Src W v ps ∧ Sized ps := by
  obtain ⟨a0, l0, k0, rfl⟩ := hv
  obtain ⟨fuel, hf⟩ := h
  rcases DataW.trod_slice Tryz.underlying22 hf with ⟨hcs, _⟩ | ⟨a, len, cap, elems, rest, n, _, hcs, _, hb, hl, hm, hlen, hel, _, _⟩
  · have : Value.slice a0 l0 k0 = .slice none 0 0 := by simpa [Value.cells] using hcs
    rw [this]
    exact ⟨[], .inl ⟨_, _, rfl, rfl⟩, fun p hp => by simp at hp⟩
  · have : Value.slice a0 l0 k0 = .slice (some a) len cap := by simpa [Value.cells] using hcs
    rw [this]
    clear this hcs hf
    rw [cellsPhase] at hel
    have each : ∀ i, i < len → ∃ q : Ph, W.cells? base (a.add (i * 8)) 8 = some q.cells ∧ (q.nm.size ≤ maxLen ∧ q.a.size ≤ maxLen ∧ q.b.size ≤ maxLen ∧ q.t.size ≤ maxLen ∧ q.e.size ≤ maxLen) := by
      intro i hi
      have h1 := hel i hi
      rw [List.getElem?_eq_getElem (by omega)] at h1
      obtain ⟨cs, hc, ht⟩ := Option.bind_eq_some_iff.1 h1
      obtain ⟨nm, k, a', b', n', wi, t, e, rfl, _, z0, z2, z3, z6, z7⟩ := trod_phase ht
      exact ⟨⟨nm, k, a', b', n', wi, t, e⟩, hc, z0, z2, z3, z6, z7⟩
    obtain ⟨ps, hpl, hps⟩ := list_of len _ each
    rcases Nat.eq_zero_or_pos len with h0 | h0
    · subst h0
      exact ⟨[], .inl ⟨_, _, rfl, rfl⟩, fun p hp => by simp at hp⟩
    · obtain ⟨b, o, spot⟩ := a
      have hs : spot = none := by
        obtain ⟨q, hq, _⟩ := each 0 h0
        unfold World.cells? at hq
        split at hq
        · obtain ⟨x, _, hc⟩ := Lib.mapM_at hq 0 0 (by simp)
          simpa [Addr.add] using World.cell?_spot hc
        · cases hq
      subst hs
      have hra : RecAt W b o ps := by
        intro i q hq
        have := (hps i q hq).1
        rw [Addr.add_mid] at this
        exact rangeAt_of_cells this
      subst hpl
      refine ⟨ps, .inr ⟨b, o, cap, rfl, hra, ?_, by omega⟩, fun q hq => ?_⟩
      · have := hra 0 ps[0] (by simp [h0]) 0 _ rfl
        exact World.block_lt_of_cell? W _ this
      · obtain ⟨i, hi, rfl⟩ := List.getElem_of_mem hq
        exact (hps i ps[i] (by simp [hi])).2
end Go.Proofs.YtkapodkidlgkjafGreatDoor
