/- A phase that can be read, opened. -/
import Derived.Test.YtialglmnfchfmafGreatDoorJ42
import Derived.Test.YtialglmnfchfmafGreatDoorJ37
import Derived.Test.YtialglmnfchfmafGreatDoorLawU2
import Derived.Test.YtialglmnfchfmafGreatDoorJ21
namespace Go.Proofs.YtialglmnfchfmafGreatDoor
open Go.ChangeShapes Go.WideShapes Go.ChangeAt Go.RowKit

theorem cellsPhase : Tryz.prog.cellsOf 97 = 8 := by kernel_rfl

/-- A phase that can be read: its eight cells. -/
theorem trod_phase {H : Type} {enc : TypeId × Value → H} {w : World} {base : Nat} {sp : Nat → Bool} {held : Bool} {fuel : Nat} {cs : List Value} {x : DataW H × List MemPlace}
    (h : DataW.trod enc Tryz.prog w base sp held fuel 97 cs = some x) :
    ∃ (nm : ByteArray) (k : Int) (a b : ByteArray) (n wi : Int) (t e : ByteArray), cs = [.string nm, .int .i64 k, .string a, .string b, .int .i64 n, .int .i64 wi, .string t, .string e] ∧ x.2 = [] ∧
      nm.size ≤ maxLen ∧ a.size ≤ maxLen ∧ b.size ≤ maxLen ∧ t.size ≤ maxLen ∧ e.size ≤ maxLen := by
  obtain ⟨xs, m, _, rfl, hl, hlen, hf⟩ := DataW.trod_struct Tryz.underlying97 h
  rw [cellsPhase] at hl
  obtain ⟨c0, c1, c2, c3, c4, c5, c6, c7, rfl⟩ := list8 hl
  obtain ⟨y0, y1, y2, y3, y4, y5, y6, y7, rfl⟩ := list8 (hlen.trans rfl : xs.length = 8)
  have h0 : DataW.trod enc Tryz.prog w base sp held m 9 (([c0, c1, c2, c3, c4, c5, c6, c7].drop 0).take (Tryz.prog.cellsOf 9)) = some y0 := hf 0 { name := "Name", type := 9, offset := 0, embedded := false, tag := "", pkgPath := "", byteOffset := 0 } rfl
  have h1 : DataW.trod enc Tryz.prog w base sp held m 3 (([c0, c1, c2, c3, c4, c5, c6, c7].drop 1).take (Tryz.prog.cellsOf 3)) = some y1 := hf 1 { name := "Kind", type := 3, offset := 1, embedded := false, tag := "", pkgPath := "", byteOffset := 16 } rfl
  have h2 : DataW.trod enc Tryz.prog w base sp held m 9 (([c0, c1, c2, c3, c4, c5, c6, c7].drop 2).take (Tryz.prog.cellsOf 9)) = some y2 := hf 2 { name := "A", type := 9, offset := 2, embedded := false, tag := "", pkgPath := "", byteOffset := 24 } rfl
  have h3 : DataW.trod enc Tryz.prog w base sp held m 9 (([c0, c1, c2, c3, c4, c5, c6, c7].drop 3).take (Tryz.prog.cellsOf 9)) = some y3 := hf 3 { name := "B", type := 9, offset := 3, embedded := false, tag := "", pkgPath := "", byteOffset := 40 } rfl
  have h4 : DataW.trod enc Tryz.prog w base sp held m 3 (([c0, c1, c2, c3, c4, c5, c6, c7].drop 4).take (Tryz.prog.cellsOf 3)) = some y4 := hf 4 { name := "N", type := 3, offset := 4, embedded := false, tag := "", pkgPath := "", byteOffset := 56 } rfl
  have h5 : DataW.trod enc Tryz.prog w base sp held m 3 (([c0, c1, c2, c3, c4, c5, c6, c7].drop 5).take (Tryz.prog.cellsOf 3)) = some y5 := hf 5 { name := "Within", type := 3, offset := 5, embedded := false, tag := "", pkgPath := "", byteOffset := 64 } rfl
  have h6 : DataW.trod enc Tryz.prog w base sp held m 9 (([c0, c1, c2, c3, c4, c5, c6, c7].drop 6).take (Tryz.prog.cellsOf 9)) = some y6 := hf 6 { name := "Then", type := 9, offset := 6, embedded := false, tag := "", pkgPath := "", byteOffset := 72 } rfl
  have h7 : DataW.trod enc Tryz.prog w base sp held m 9 (([c0, c1, c2, c3, c4, c5, c6, c7].drop 7).take (Tryz.prog.cellsOf 9)) = some y7 := hf 7 { name := "Else", type := 9, offset := 7, embedded := false, tag := "", pkgPath := "", byteOffset := 88 } rfl
  clear hf h
  rw [cellsString] at h0 h2 h3 h6 h7
  rw [cellsInt] at h1 h4 h5
  simp only [List.drop_succ_cons, List.drop_zero, List.take_succ_cons, List.take_zero] at h0 h1 h2 h3 h4 h5 h6 h7
  obtain ⟨nm, rfl, rfl, z0⟩ := str_of_trod h0
  obtain ⟨k, rfl, rfl, _⟩ := int_of_trod h1
  obtain ⟨a, rfl, rfl, z2⟩ := str_of_trod h2
  obtain ⟨b, rfl, rfl, z3⟩ := str_of_trod h3
  obtain ⟨n, rfl, rfl, _⟩ := int_of_trod h4
  obtain ⟨wi, rfl, rfl, _⟩ := int_of_trod h5
  obtain ⟨t, rfl, rfl, z6⟩ := str_of_trod h6
  obtain ⟨e, rfl, rfl, z7⟩ := str_of_trod h7
  exact ⟨nm, k, a, b, n, wi, t, e, rfl, rfl, z0, z2, z3, z6, z7⟩

end Go.Proofs.YtialglmnfchfmafGreatDoor

/- A slice of phases that can be read, opened. -/
namespace Go.Proofs.YtialglmnfchfmafGreatDoor
open Go.ChangeShapes Go.WideShapes Go.ChangeAt Go.RowKit

theorem src_of_trod {H : Type} {enc : TypeId × Value → H} {W : World} {base : Nat} {sp : Nat → Bool} {held : Bool} {v : Value} {d : DataW H} {p : List MemPlace} (hv : ∃ a l c, v = .slice a l c)
    (h : DataW.Trod enc Tryz.prog W base sp held 22 v d p) : ∃ ps, Src W v ps ∧ Sized ps := by
  obtain ⟨a0, l0, k0, rfl⟩ := hv
  obtain ⟨fuel, hf⟩ := h
  rcases DataW.trod_slice Tryz.underlying22 hf with ⟨hcs, _⟩ | ⟨a, len, cap, elems, rest, n, _, hcs, _, hb, hl, hm, hlen, hel, _, _⟩
  · have : Value.slice a0 l0 k0 = .slice none 0 0 := by simpa [Value.cells] using hcs
    rw [this]
    exact ⟨[], .inl ⟨_, _, rfl, rfl⟩, fun p hp => by simp at hp⟩
  · have : Value.slice a0 l0 k0 = .slice (some a) len cap := by simpa [Value.cells] using hcs
    rw [this]
    clear this hcs hf
    rw [cellsPhase] at hel
    have each : ∀ i, i < len → ∃ q : Ph, W.cells? base (a.add (i * 8)) 8 = some q.cells ∧ (q.nm.size ≤ maxLen ∧ q.a.size ≤ maxLen ∧ q.b.size ≤ maxLen ∧ q.t.size ≤ maxLen ∧ q.e.size ≤ maxLen) := by
      intro i hi
      have h1 := hel i hi
      rw [List.getElem?_eq_getElem (by omega)] at h1
      obtain ⟨cs, hc, ht⟩ := Option.bind_eq_some_iff.1 h1
      obtain ⟨nm, k, a', b', n', wi, t, e, rfl, _, z0, z2, z3, z6, z7⟩ := trod_phase ht
      exact ⟨⟨nm, k, a', b', n', wi, t, e⟩, hc, z0, z2, z3, z6, z7⟩
    obtain ⟨ps, hpl, hps⟩ := list_of len _ each
    rcases Nat.eq_zero_or_pos len with h0 | h0
    · subst h0
      exact ⟨[], .inl ⟨_, _, rfl, rfl⟩, fun p hp => by simp at hp⟩
    · obtain ⟨b, o, spot⟩ := a
      have hs : spot = none := by
        obtain ⟨q, hq, _⟩ := each 0 h0
        unfold World.cells? at hq
        split at hq
        · obtain ⟨x, _, hc⟩ := Lib.mapM_at hq 0 0 (by simp)
          simpa [Addr.add] using World.cell?_spot hc
        · cases hq
      subst hs
      have hra : RecAt W b o ps := by
        intro i q hq
        have := (hps i q hq).1
        rw [Addr.add_mid] at this
        exact rangeAt_of_cells this
      subst hpl
      refine ⟨ps, .inr ⟨b, o, cap, rfl, hra, ?_, by omega⟩, fun q hq => ?_⟩
      · have := hra 0 ps[0] (by simp [h0]) 0 _ rfl
        exact World.block_lt_of_cell? W _ this
      · obtain ⟨i, hi, rfl⟩ := List.getElem_of_mem hq
        exact (hps i ps[i] (by simp [hi])).2
end Go.Proofs.YtialglmnfchfmafGreatDoor

/- A batch that can be read: opened. -/
namespace Go.Proofs.YtialglmnfchfmafGreatDoor
open Go.ChangeShapes Go.WideShapes Go.ChangeAt Go.RowKit

theorem cellsSlot : Tryz.prog.cellsOf 100 = 2 := by kernel_rfl
theorem cellsRb : Tryz.prog.cellsOf 25 = 6 := by kernel_rfl
theorem cellsPhS : Tryz.prog.cellsOf 22 = 1 := by kernel_rfl
theorem cellsSlS : Tryz.prog.cellsOf 23 = 1 := by kernel_rfl
theorem list6 {α : Type} {l : List α} (h : l.length = 6) : ∃ a b c d e f, l = [a, b, c, d, e, f] := by
  match l, h with
  | [a, b, c, d, e, f], _ => exact ⟨a, b, c, d, e, f, rfl⟩
theorem trod_slot {H : Type} {enc : TypeId × Value → H} {w : World} {base : Nat} {sp : Nat → Bool} {held : Bool} {fuel : Nat} {cs : List Value} {x : DataW H × List MemPlace}
    (h : DataW.trod enc Tryz.prog w base sp held fuel 100 cs = some x) : ∃ y : Sl, cs = y.cells ∧ y.s.size ≤ maxLen ∧ y.t.size ≤ maxLen := by
  obtain ⟨xs, m, _, rfl, hl, hlen, hf⟩ := DataW.trod_struct Tryz.underlying100 h
  rw [cellsSlot] at hl
  obtain ⟨c0, c1, rfl⟩ := list2 hl
  obtain ⟨y0, y1, rfl⟩ := list2 (hlen.trans rfl : xs.length = 2)
  have h0 : DataW.trod enc Tryz.prog w base sp held m 9 (([c0, c1].drop 0).take (Tryz.prog.cellsOf 9)) = some y0 := hf 0 { name := "Slot", type := 9, offset := 0, embedded := false, tag := "", pkgPath := "", byteOffset := 0 } rfl
  have h1 : DataW.trod enc Tryz.prog w base sp held m 9 (([c0, c1].drop 1).take (Tryz.prog.cellsOf 9)) = some y1 := hf 1 { name := "Thing", type := 9, offset := 1, embedded := false, tag := "", pkgPath := "", byteOffset := 16 } rfl
  clear hf h
  rw [cellsString] at h0 h1
  simp only [List.drop_succ_cons, List.drop_zero, List.take_succ_cons, List.take_zero] at h0 h1
  obtain ⟨s, rfl, rfl, z0⟩ := str_of_trod h0
  obtain ⟨t, rfl, rfl, z1⟩ := str_of_trod h1
  exact ⟨⟨s, t⟩, rfl, z0, z1⟩
theorem slots_of_trod {H : Type} {enc : TypeId × Value → H} {W : World} {base : Nat} {sp : Nat → Bool} {held : Bool} {fuel : Nat} {v : Value} {x : DataW H × List MemPlace}
    (h : DataW.trod enc Tryz.prog W base sp held fuel 23 [v] = some x) : ∃ l, SlSrc W v l ∧ SlZ l := by
  rcases DataW.trod_slice Tryz.underlying23 h with ⟨hcs, _⟩ | ⟨a, len, cap, elems, rest, n, _, hcs, _, hb, hl, hm, hlen, hel, _, _⟩
  · obtain rfl : v = .slice none 0 0 := by simpa using hcs
    exact ⟨[], .inl ⟨_, _, rfl, rfl⟩, fun y hy => by simp at hy⟩
  · obtain rfl : v = .slice (some a) len cap := by simpa using hcs
    clear hcs h
    rw [cellsSlot] at hel
    have each : ∀ i, i < len → ∃ y : Sl, W.cells? base (a.add (i * 2)) 2 = some y.cells ∧ y.s.size ≤ maxLen ∧ y.t.size ≤ maxLen := by
      intro i hi
      have h1 := hel i hi
      rw [List.getElem?_eq_getElem (by omega)] at h1
      obtain ⟨cs, hc, ht⟩ := Option.bind_eq_some_iff.1 h1
      obtain ⟨y, rfl, r⟩ := trod_slot ht
      exact ⟨y, hc, r⟩
    obtain ⟨l, hpl, hps⟩ := list_of len _ each
    rcases Nat.eq_zero_or_pos len with h0 | h0
    · subst h0
      exact ⟨[], .inl ⟨_, _, rfl, rfl⟩, fun y hy => by simp at hy⟩
    · obtain ⟨b, o, spot⟩ := a
      have hs : spot = none := by
        obtain ⟨q, hq, _⟩ := each 0 h0
        unfold World.cells? at hq
        split at hq
        · obtain ⟨x, _, hc⟩ := Lib.mapM_at hq 0 0 (by simp)
          simpa [Addr.add] using World.cell?_spot hc
        · cases hq
      subst hs
      have hra : SlAt W b o l := by
        intro i q hq
        have := (hps i q hq).1
        rw [Addr.add_mid] at this
        exact rangeAt_of_cells this
      subst hpl
      refine ⟨l, .inr ⟨b, o, cap, rfl, hra, ?_, by omega⟩, fun y hy => ?_⟩
      · have := hra 0 l[0] (by simp [h0]) 0 _ rfl
        exact World.block_lt_of_cell? W _ this
      · obtain ⟨i, hi, rfl⟩ := List.getElem_of_mem hy
        exact (hps i l[i] (by simp [hi])).2
theorem rb_of_trod {H : Type} {enc : TypeId × Value → H} {w : World} {base : Nat} {sp : Nat → Bool} {held : Bool} {fuel : Nat} {cs : List Value} {x : DataW H × List MemPlace}
    (h : DataW.trod enc Tryz.prog w base sp held fuel 25 cs = some x) : ∃ (y : Rb) (rv sv : Value), cs = [.string y.nm, rv, sv, .string y.ad, .int .i64 y.si, .int .i64 y.st] ∧ RbSrc w y rv sv := by
  obtain ⟨xs, m, _, rfl, hl, hlen, hf⟩ := DataW.trod_struct Tryz.underlying25 h
  rw [cellsRb] at hl
  obtain ⟨c0, c1, c2, c3, c4, c5, rfl⟩ := list6 hl
  obtain ⟨y0, y1, y2, y3, y4, y5, rfl⟩ := list6 (hlen.trans rfl : xs.length = 6)
  have h0 : DataW.trod enc Tryz.prog w base sp held m 9 (([c0, c1, c2, c3, c4, c5].drop 0).take (Tryz.prog.cellsOf 9)) = some y0 := hf 0 { name := "Name", type := 9, offset := 0, embedded := false, tag := "", pkgPath := "", byteOffset := 0 } rfl
  have h1 : DataW.trod enc Tryz.prog w base sp held m 22 (([c0, c1, c2, c3, c4, c5].drop 1).take (Tryz.prog.cellsOf 22)) = some y1 := hf 1 { name := "Recipe", type := 22, offset := 1, embedded := false, tag := "", pkgPath := "", byteOffset := 16 } rfl
  have h2 : DataW.trod enc Tryz.prog w base sp held m 23 (([c0, c1, c2, c3, c4, c5].drop 2).take (Tryz.prog.cellsOf 23)) = some y2 := hf 2 { name := "Slots", type := 23, offset := 2, embedded := false, tag := "", pkgPath := "", byteOffset := 40 } rfl
  have h3 : DataW.trod enc Tryz.prog w base sp held m 9 (([c0, c1, c2, c3, c4, c5].drop 3).take (Tryz.prog.cellsOf 9)) = some y3 := hf 3 { name := "At", type := 9, offset := 3, embedded := false, tag := "", pkgPath := "", byteOffset := 64 } rfl
  have h4 : DataW.trod enc Tryz.prog w base sp held m 3 (([c0, c1, c2, c3, c4, c5].drop 4).take (Tryz.prog.cellsOf 3)) = some y4 := hf 4 { name := "Since", type := 3, offset := 4, embedded := false, tag := "", pkgPath := "", byteOffset := 80 } rfl
  have h5 : DataW.trod enc Tryz.prog w base sp held m 3 (([c0, c1, c2, c3, c4, c5].drop 5).take (Tryz.prog.cellsOf 3)) = some y5 := hf 5 { name := "Start", type := 3, offset := 5, embedded := false, tag := "", pkgPath := "", byteOffset := 88 } rfl
  clear hf h
  rw [cellsString] at h0 h3
  rw [cellsInt] at h4 h5
  rw [cellsPhS] at h1
  rw [cellsSlS] at h2
  simp only [List.drop_succ_cons, List.drop_zero, List.take_succ_cons, List.take_zero] at h0 h1 h2 h3 h4 h5
  obtain ⟨nm, rfl, rfl, z0⟩ := str_of_trod h0
  obtain ⟨ad, rfl, rfl, z3⟩ := str_of_trod h3
  obtain ⟨si, rfl, rfl, _⟩ := int_of_trod h4
  obtain ⟨st, rfl, rfl, _⟩ := int_of_trod h5
  obtain ⟨l, l2, zl⟩ := slots_of_trod h2
  have hsh : ∃ a l c, c1 = .slice a l c := by
    rcases DataW.trod_slice Tryz.underlying22 h1 with ⟨hcs, _⟩ | ⟨a, len, cap, elems, rest, n, _, hcs, _⟩
    · exact ⟨_, _, _, by simpa using hcs⟩
    · exact ⟨_, _, _, by simpa using hcs⟩
  obtain ⟨ps, l1, zp⟩ := src_of_trod (enc := enc) (base := base) (sp := sp) (held := held) (v := c1) (d := y1.1) (p := y1.2) hsh ⟨m, by
    obtain ⟨a, l, c, rfl⟩ := hsh
    simpa [Value.cells] using h1⟩
  exact ⟨⟨nm, ps, l, ad, si, st⟩, c1, c2, rfl, ⟨l1, l2, zp, zl, z0, z3⟩⟩
end Go.Proofs.YtialglmnfchfmafGreatDoor

/- A book, a list of texts that can be read: opened. -/
namespace Go.Proofs.YtialglmnfchfmafGreatDoor
open Go.ChangeShapes Go.WideShapes Go.ChangeAt Go.RowKit

theorem cellsBatch : Tryz.prog.cellsOf 168 = 3 := by kernel_rfl
theorem cellsBook : Tryz.prog.cellsOf 41 = 2 := by kernel_rfl
theorem cellsStrS : Tryz.prog.cellsOf 27 = 1 := by kernel_rfl
theorem cellsBatchS : Tryz.prog.cellsOf 39 = 1 := by kernel_rfl

theorem spot_none {W : World} {base n : Nat} {a : Addr} {cs : List Value} (hn : 0 < n) (h : W.cells? base a n = some cs) : a.spot = none := by
  unfold World.cells? at h
  split at h
  · obtain ⟨x, _, hc⟩ := Lib.mapM_at h 0 0 (by simp [hn])
    simpa [Addr.add] using World.cell?_spot hc
  · cases h

theorem ls_of_trod {H : Type} {enc : TypeId × Value → H} {W : World} {base : Nat} {sp : Nat → Bool} {held : Bool} {fuel : Nat} {v : Value} {x : DataW H × List MemPlace}
    (h : DataW.trod enc Tryz.prog W base sp held fuel 27 [v] = some x) : ∃ ss, Ls W v ss := by
  rcases DataW.trod_slice Tryz.underlying27 h with ⟨hcs, _⟩ | ⟨a, len, cap, elems, rest, n, _, hcs, _, hb, hl, hm, hlen, hel, _, _⟩
  · obtain rfl : v = .slice none 0 0 := by simpa using hcs
    exact ⟨[], Ls.nil _ _ _⟩
  · obtain rfl : v = .slice (some a) len cap := by simpa using hcs
    clear hcs h
    rw [cellsString] at hel
    have each : ∀ i, i < len → ∃ q : ByteArray, W.cells? base (a.add (i * 1)) 1 = some [.string q] ∧ q.size ≤ maxLen := by
      intro i hi
      have h1 := hel i hi
      rw [List.getElem?_eq_getElem (by omega)] at h1
      obtain ⟨cs, hc, ht⟩ := Option.bind_eq_some_iff.1 h1
      obtain ⟨s, rfl, -, hs⟩ := DataW.trod_string Tryz.underlying9 ht
      exact ⟨s, hc, hs⟩
    obtain ⟨ss, hpl, hps⟩ := list_of len _ each
    rcases Nat.eq_zero_or_pos len with h0 | h0
    · subst h0
      exact ⟨[], Ls.nil _ _ _⟩
    · obtain ⟨b, o, spot⟩ := a
      have hs : spot = none := by
        obtain ⟨q, hq, _⟩ := each 0 h0
        simpa [Addr.add] using spot_none (by omega) hq
      subst hs
      have hra : StrsAt W b o ss := by
        intro i q hq
        have := (hps i q hq).1
        rw [Addr.add_mid, Nat.mul_one] at this
        exact rangeAt_of_cells this 0 _ rfl
      subst hpl
      refine ⟨ss, _, cap, rfl, by omega, fun s hs => ?_, fun _ => ⟨b, o, rfl, hra, ?_⟩⟩
      · obtain ⟨i, hi, rfl⟩ := List.getElem_of_mem hs
        exact (hps i ss[i] (by simp [hi])).2
      · exact World.block_lt_of_cell? W _ (hra 0 ss[0] (by simp [h0]))

theorem ba_of_trod {H : Type} {enc : TypeId × Value → H} {w : World} {base : Nat} {sp : Nat → Bool} {held : Bool} {fuel : Nat} {cs : List Value} {x : DataW H × List MemPlace}
    (h : DataW.trod enc Tryz.prog w base sp held fuel 168 cs = some x) : ∃ (y : Ba) (hv nv : Value), cs = [.string y.nm, hv, nv] ∧ Ls w hv y.has ∧ Ls w nv y.needs ∧ y.nm.size ≤ maxLen := by
  obtain ⟨xs, m, _, rfl, hl, hlen, hf⟩ := DataW.trod_struct Tryz.underlying168 h
  rw [cellsBatch] at hl
  obtain ⟨c0, c1, c2, rfl⟩ := list3 hl
  obtain ⟨y0, y1, y2, rfl⟩ := list3 (hlen.trans rfl : xs.length = 3)
  have h0 : DataW.trod enc Tryz.prog w base sp held m 9 (([c0, c1, c2].drop 0).take (Tryz.prog.cellsOf 9)) = some y0 := hf 0 { name := "Name", type := 9, offset := 0, embedded := false, tag := "", pkgPath := "", byteOffset := 0 } rfl
  have h1 : DataW.trod enc Tryz.prog w base sp held m 27 (([c0, c1, c2].drop 1).take (Tryz.prog.cellsOf 27)) = some y1 := hf 1 { name := "Has", type := 27, offset := 1, embedded := false, tag := "", pkgPath := "", byteOffset := 16 } rfl
  have h2 : DataW.trod enc Tryz.prog w base sp held m 27 (([c0, c1, c2].drop 2).take (Tryz.prog.cellsOf 27)) = some y2 := hf 2 { name := "Needs", type := 27, offset := 2, embedded := false, tag := "", pkgPath := "", byteOffset := 40 } rfl
  clear hf h
  rw [cellsString] at h0
  rw [cellsStrS] at h1 h2
  simp only [List.drop_succ_cons, List.drop_zero, List.take_succ_cons, List.take_zero] at h0 h1 h2
  obtain ⟨nm, rfl, rfl, z0⟩ := str_of_trod h0
  obtain ⟨has, l1⟩ := ls_of_trod h1
  obtain ⟨needs, l2⟩ := ls_of_trod h2
  exact ⟨⟨nm, has, needs⟩, c1, c2, rfl, l1, l2, z0⟩

theorem bs_of_trod {H : Type} {enc : TypeId × Value → H} {W : World} {base : Nat} {sp : Nat → Bool} {held : Bool} {fuel : Nat} {v : Value} {x : DataW H × List MemPlace}
    (h : DataW.trod enc Tryz.prog W base sp held fuel 39 [v] = some x) : ∃ bs, Bs W v bs := by
  rcases DataW.trod_slice Tryz.underlying39 h with ⟨hcs, _⟩ | ⟨a, len, cap, elems, rest, n, _, hcs, _, hb, hl, hm, hlen, hel, _, _⟩
  · obtain rfl : v = .slice none 0 0 := by simpa using hcs
    exact ⟨[], _, _, rfl, by simp, fun h => by simp at h⟩
  · obtain rfl : v = .slice (some a) len cap := by simpa using hcs
    clear hcs h
    rw [cellsBatch] at hel
    have each : ∀ i, i < len → ∃ y : Ba, ∃ hv nv : Value, W.cells? base (a.add (i * 3)) 3 = some [.string y.nm, hv, nv] ∧ Ls W hv y.has ∧ Ls W nv y.needs ∧ y.nm.size ≤ maxLen := by
      intro i hi
      have h1 := hel i hi
      rw [List.getElem?_eq_getElem (by omega)] at h1
      obtain ⟨cs, hc, ht⟩ := Option.bind_eq_some_iff.1 h1
      obtain ⟨y, hv, nv, rfl, r⟩ := ba_of_trod ht
      exact ⟨y, hv, nv, hc, r⟩
    obtain ⟨bs, hpl, hps⟩ := list_of len _ each
    rcases Nat.eq_zero_or_pos len with h0 | h0
    · subst h0
      exact ⟨[], _, _, rfl, by simp, fun h => by simp at h⟩
    · obtain ⟨b, o, spot⟩ := a
      have hs : spot = none := by
        obtain ⟨q, hv, nv, hq, _⟩ := each 0 h0
        simpa [Addr.add] using spot_none (by omega) hq
      subst hs
      have hra : BsAt W b o bs := by
        intro i q hq
        obtain ⟨hv, nv, this, r⟩ := hps i q hq
        rw [Addr.add_mid] at this
        exact ⟨hv, nv, rangeAt_of_cells this, r⟩
      subst hpl
      refine ⟨bs, _, cap, rfl, by omega, fun _ => ⟨b, o, rfl, hra, ?_⟩⟩
      obtain ⟨hv, nv, hr, -⟩ := hra 0 bs[0] (by simp [h0])
      exact World.block_lt_of_cell? W _ (hr 0 _ rfl)

theorem bk_of_trod {H : Type} {enc : TypeId × Value → H} {w : World} {base : Nat} {sp : Nat → Bool} {held : Bool} {fuel : Nat} {cs : List Value} {x : DataW H × List MemPlace}
    (h : DataW.trod enc Tryz.prog w base sp held fuel 41 cs = some x) : ∃ (b : Bk), BkV w (.agg cs.toArray) b := by
  obtain ⟨xs, m, _, rfl, hl, hlen, hf⟩ := DataW.trod_struct Tryz.underlying41 h
  rw [cellsBook] at hl
  obtain ⟨c0, c1, rfl⟩ := list2 hl
  obtain ⟨y0, y1, rfl⟩ := list2 (hlen.trans rfl : xs.length = 2)
  have h0 : DataW.trod enc Tryz.prog w base sp held m 27 (([c0, c1].drop 0).take (Tryz.prog.cellsOf 27)) = some y0 := hf 0 { name := "Things", type := 27, offset := 0, embedded := false, tag := "", pkgPath := "", byteOffset := 0 } rfl
  have h1 : DataW.trod enc Tryz.prog w base sp held m 39 (([c0, c1].drop 1).take (Tryz.prog.cellsOf 39)) = some y1 := hf 1 { name := "Batches", type := 39, offset := 1, embedded := false, tag := "", pkgPath := "", byteOffset := 24 } rfl
  clear hf h
  rw [cellsStrS] at h0
  rw [cellsBatchS] at h1
  simp only [List.drop_succ_cons, List.drop_zero, List.take_succ_cons, List.take_zero] at h0 h1
  obtain ⟨ts, l0⟩ := ls_of_trod h0
  obtain ⟨bs, l1⟩ := bs_of_trod h1
  exact ⟨⟨ts, bs⟩, c0, c1, rfl, l0, l1⟩
end Go.Proofs.YtialglmnfchfmafGreatDoor
