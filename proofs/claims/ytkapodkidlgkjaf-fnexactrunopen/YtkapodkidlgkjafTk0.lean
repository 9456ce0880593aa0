/- A list of texts that can be read: opened. -/
import Derived.Test.YtkapodkidlgkjafLay0
import Derived.Test.YtkapodkidlgkjafKl
namespace Go.Proofs.Ytkapodkidlgkjaf
open Go.ChangeShapes Go.WideShapes Go.ChangeAt Go.RowKit

theorem cellsStrS : Try.prog.cellsOf 22 = 1 := by kernel_rfl

theorem spot_none {W : World} {base n : Nat} {a : Addr} {cs : List Value} (hn : 0 < n) (h : W.cells? base a n = some cs) : a.spot = none := by
  unfold World.cells? at h
  split at h
  · obtain ⟨x, _, hc⟩ := Lib.mapM_at h 0 0 (by simp [hn])
    simpa [Addr.add] using World.cell?_spot hc
  · cases h

theorem ls_of_trod {H : Type} {enc : TypeId × Value → H} {W : World} {base : Nat} {sp : Nat → Bool} {held : Bool} {fuel : Nat} {v : Value} {x : DataW H × List MemPlace}
    (h : DataW.trod enc Try.prog W base sp held fuel 22 [v] = some x) : ∃ ss, Ls W v ss := by
  rcases DataW.trod_slice Try.underlying22 h with ⟨hcs, _⟩ | ⟨a, len, cap, elems, rest, n, _, hcs, _, hb, hl, hm, hlen, hel, _, _⟩
  · obtain rfl : v = .slice none 0 0 := by simpa using hcs
    exact ⟨[], Ls.nil _ _ _⟩
  · obtain rfl : v = .slice (some a) len cap := by simpa using hcs
    clear hcs h
    rw [cellsString] at hel
    have each : ∀ i, i < len → ∃ q : ByteArray, W.cells? base (a.add (i * 1)) 1 = some [.string q] ∧ q.size ≤ maxLen := by
      intro i hi
      have h1 := hel i hi
      rw [List.getElem?_eq_getElem (by omega)] at h1
      obtain ⟨cs, hc, ht⟩ := Option.bind_eq_some_iff.1 h1
      obtain ⟨s, rfl, -, hs⟩ := DataW.trod_string Try.underlying9 ht
      exact ⟨s, hc, hs⟩
    obtain ⟨ss, hpl, hps⟩ := list_of len _ each
    rcases Nat.eq_zero_or_pos len with h0 | h0
    · subst h0
      exact ⟨[], Ls.nil _ _ _⟩
    · obtain ⟨b, o, spot⟩ := a
      have hs : spot = none := by
        obtain ⟨q, hq, _⟩ := each 0 h0
        simpa [Addr.add] using spot_none (by omega) hq
      subst hs
      have hra : StrsAt W b o ss := by
        intro i q hq
        have := (hps i q hq).1
        rw [Addr.add_mid, Nat.mul_one] at this
        exact rangeAt_of_cells this 0 _ rfl
      subst hpl
      refine ⟨ss, _, cap, rfl, by omega, fun s hs => ?_, fun _ => ⟨b, o, rfl, hra, ?_⟩⟩
      · obtain ⟨i, hi, rfl⟩ := List.getElem_of_mem hs
        exact (hps i ss[i] (by simp [hi])).2
      · exact World.block_lt_of_cell? W _ (hra 0 ss[0] (by simp [h0]))
end Go.Proofs.Ytkapodkidlgkjaf
