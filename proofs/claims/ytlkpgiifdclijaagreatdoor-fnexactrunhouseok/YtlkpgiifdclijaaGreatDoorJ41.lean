/- A batch that can be read: opened. -/
import Derived.Test.YtlkpgiifdclijaaGreatDoorJ40
import Derived.Test.YtlkpgiifdclijaaGreatDoorJ36
import Derived.Test.YtlkpgiifdclijaaGreatDoorJ39
import Derived.Test.YtlkpgiifdclijaaGreatDoorJ21
namespace Go.Proofs.YtlkpgiifdclijaaGreatDoor
open Go.ChangeShapes Go.WideShapes Go.ChangeAt Go.RowKit

theorem cellsSlot : Tryz.prog.cellsOf 152 = 2 := by kernel_rfl
theorem cellsRb : Tryz.prog.cellsOf 71 = 6 := by kernel_rfl
theorem cellsPhS : Tryz.prog.cellsOf 68 = 1 := by kernel_rfl
theorem cellsSlS : Tryz.prog.cellsOf 69 = 1 := by kernel_rfl
theorem list6 {α : Type} {l : List α} (h : l.length = 6) : ∃ a b c d e f, l = [a, b, c, d, e, f] := by
  match l, h with
  | [a, b, c, d, e, f], _ => exact ⟨a, b, c, d, e, f, rfl⟩
theorem trod_slot {H : Type} {enc : TypeId × Value → H} {w : World} {base : Nat} {sp : Nat → Bool} {held : Bool} {fuel : Nat} {cs : List Value} {x : DataW H × List MemPlace}
    (h : DataW.trod enc Tryz.prog w base sp held fuel 152 cs = some x) : ∃ y : Sl, cs = y.cells ∧ y.s.size ≤ maxLen ∧ y.t.size ≤ maxLen := by
  obtain ⟨xs, m, _, rfl, hl, hlen, hf⟩ := DataW.trod_struct Tryz.underlying152 h
  rw [cellsSlot] at hl
  obtain ⟨c0, c1, rfl⟩ := list2 hl
  obtain ⟨y0, y1, rfl⟩ := list2 (hlen.trans rfl : xs.length = 2)
  have h0 : DataW.trod enc Tryz.prog w base sp held m 9 (([c0, c1].drop 0).take (Tryz.prog.cellsOf 9)) = some y0 := hf 0 { name := "Slot", type := 9, offset := 0, embedded := false, tag := "", pkgPath := "", byteOffset := 0 } rfl
  have h1 : DataW.trod enc Tryz.prog w base sp held m 9 (([c0, c1].drop 1).take (Tryz.prog.cellsOf 9)) = some y1 := hf 1 { name := "Thing", type := 9, offset := 1, embedded := false, tag := "", pkgPath := "", byteOffset := 16 } rfl
  clear hf h
  rw [cellsString] at h0 h1
  simp only [List.drop_succ_cons, List.drop_zero, List.take_succ_cons, List.take_zero] at h0 h1
  obtain ⟨s, rfl, rfl, z0⟩ := str_of_trod h0
  obtain ⟨t, rfl, rfl, z1⟩ := str_of_trod h1
  exact ⟨⟨s, t⟩, rfl, z0, z1⟩
theorem slots_of_trod {H : Type} {enc : TypeId × Value → H} {W : World} {base : Nat} {sp : Nat → Bool} {held : Bool} {fuel : Nat} {v : Value} {x : DataW H × List MemPlace}
    (h : DataW.trod enc Tryz.prog W base sp held fuel 69 [v] = some x) : ∃ l, SlSrc W v l ∧ SlZ l := by
  rcases DataW.trod_slice Tryz.underlying69 h with ⟨hcs, _⟩ | ⟨a, len, cap, elems, rest, n, _, hcs, _, hb, hl, hm, hlen, hel, _, _⟩
  · obtain rfl : v = .slice none 0 0 := by simpa using hcs
    exact ⟨[], .inl ⟨_, _, rfl, rfl⟩, fun y hy => by simp at hy⟩
  · obtain rfl : v = .slice (some a) len cap := by simpa using hcs
    clear hcs h
    rw [cellsSlot] at hel
    have each : ∀ i, i < len → ∃ y : Sl, W.cells? base (a.add (i * 2)) 2 = some y.cells ∧ y.s.size ≤ maxLen ∧ y.t.size ≤ maxLen := by
      intro i hi
      have h1 := hel i hi
      rw [List.getElem?_eq_getElem (by omega)] at h1
      obtain ⟨cs, hc, ht⟩ := Option.bind_eq_some_iff.1 h1
      obtain ⟨y, rfl, r⟩ := trod_slot ht
      exact ⟨y, hc, r⟩
    obtain ⟨l, hpl, hps⟩ := list_of len _ each
    rcases Nat.eq_zero_or_pos len with h0 | h0
    · subst h0
      exact ⟨[], .inl ⟨_, _, rfl, rfl⟩, fun y hy => by simp at hy⟩
    · obtain ⟨b, o, spot⟩ := a
      have hs : spot = none := by
        obtain ⟨q, hq, _⟩ := each 0 h0
        unfold World.cells? at hq
        split at hq
        · obtain ⟨x, _, hc⟩ := Lib.mapM_at hq 0 0 (by simp)
          simpa [Addr.add] using World.cell?_spot hc
        · cases hq
      subst hs
      have hra : SlAt W b o l := by
        intro i q hq
        have := (hps i q hq).1
        rw [Addr.add_mid] at this
        exact rangeAt_of_cells this
      subst hpl
      refine ⟨l, .inr ⟨b, o, cap, rfl, hra, ?_, by omega⟩, fun y hy => ?_⟩
      · have := hra 0 l[0] (by simp [h0]) 0 _ rfl
        exact World.block_lt_of_cell? W _ this
      · obtain ⟨i, hi, rfl⟩ := List.getElem_of_mem hy
        exact (hps i l[i] (by simp [hi])).2
theorem rb_of_trod {H : Type} {enc : TypeId × Value → H} {w : World} {base : Nat} {sp : Nat → Bool} {held : Bool} {fuel : Nat} {cs : List Value} {x : DataW H × List MemPlace}
    (h : DataW.trod enc Tryz.prog w base sp held fuel 71 cs = some x) : ∃ (y : Rb) (rv sv : Value), cs = [.string y.nm, rv, sv, .string y.ad, .int .i64 y.si, .int .i64 y.st] ∧ RbSrc w y rv sv := by
  obtain ⟨xs, m, _, rfl, hl, hlen, hf⟩ := DataW.trod_struct Tryz.underlying71 h
  rw [cellsRb] at hl
  obtain ⟨c0, c1, c2, c3, c4, c5, rfl⟩ := list6 hl
  obtain ⟨y0, y1, y2, y3, y4, y5, rfl⟩ := list6 (hlen.trans rfl : xs.length = 6)
  have h0 : DataW.trod enc Tryz.prog w base sp held m 9 (([c0, c1, c2, c3, c4, c5].drop 0).take (Tryz.prog.cellsOf 9)) = some y0 := hf 0 { name := "Name", type := 9, offset := 0, embedded := false, tag := "", pkgPath := "", byteOffset := 0 } rfl
  have h1 : DataW.trod enc Tryz.prog w base sp held m 68 (([c0, c1, c2, c3, c4, c5].drop 1).take (Tryz.prog.cellsOf 68)) = some y1 := hf 1 { name := "Recipe", type := 68, offset := 1, embedded := false, tag := "", pkgPath := "", byteOffset := 16 } rfl
  have h2 : DataW.trod enc Tryz.prog w base sp held m 69 (([c0, c1, c2, c3, c4, c5].drop 2).take (Tryz.prog.cellsOf 69)) = some y2 := hf 2 { name := "Slots", type := 69, offset := 2, embedded := false, tag := "", pkgPath := "", byteOffset := 40 } rfl
  have h3 : DataW.trod enc Tryz.prog w base sp held m 9 (([c0, c1, c2, c3, c4, c5].drop 3).take (Tryz.prog.cellsOf 9)) = some y3 := hf 3 { name := "At", type := 9, offset := 3, embedded := false, tag := "", pkgPath := "", byteOffset := 64 } rfl
  have h4 : DataW.trod enc Tryz.prog w base sp held m 3 (([c0, c1, c2, c3, c4, c5].drop 4).take (Tryz.prog.cellsOf 3)) = some y4 := hf 4 { name := "Since", type := 3, offset := 4, embedded := false, tag := "", pkgPath := "", byteOffset := 80 } rfl
  have h5 : DataW.trod enc Tryz.prog w base sp held m 3 (([c0, c1, c2, c3, c4, c5].drop 5).take (Tryz.prog.cellsOf 3)) = some y5 := hf 5 { name := "Start", type := 3, offset := 5, embedded := false, tag := "", pkgPath := "", byteOffset := 88 } rfl
  clear hf h
  rw [cellsString] at h0 h3
  rw [cellsInt] at h4 h5
  rw [cellsPhS] at h1
  rw [cellsSlS] at h2
  simp only [List.drop_succ_cons, List.drop_zero, List.take_succ_cons, List.take_zero] at h0 h1 h2 h3 h4 h5
  obtain ⟨nm, rfl, rfl, z0⟩ := str_of_trod h0
  obtain ⟨ad, rfl, rfl, z3⟩ := str_of_trod h3
  obtain ⟨si, rfl, rfl, _⟩ := int_of_trod h4
  obtain ⟨st, rfl, rfl, _⟩ := int_of_trod h5
  obtain ⟨l, l2, zl⟩ := slots_of_trod h2
  have hsh : ∃ a l c, c1 = .slice a l c := by
    rcases DataW.trod_slice Tryz.underlying68 h1 with ⟨hcs, _⟩ | ⟨a, len, cap, elems, rest, n, _, hcs, _⟩
    · exact ⟨_, _, _, by simpa using hcs⟩
    · exact ⟨_, _, _, by simpa using hcs⟩
  obtain ⟨ps, l1, zp⟩ := src_of_trod (enc := enc) (base := base) (sp := sp) (held := held) (v := c1) (d := y1.1) (p := y1.2) hsh ⟨m, by
    obtain ⟨a, l, c, rfl⟩ := hsh
    simpa [Value.cells] using h1⟩
  exact ⟨⟨nm, ps, l, ad, si, st⟩, c1, c2, rfl, ⟨l1, l2, zp, zl, z0, z3⟩⟩
end Go.Proofs.YtlkpgiifdclijaaGreatDoor

/- A list of texts that can be read: opened. -/
namespace Go.Proofs.YtlkpgiifdclijaaGreatDoor
open Go.ChangeShapes Go.WideShapes Go.ChangeAt Go.RowKit

theorem cellsStrS : Tryz.prog.cellsOf 22 = 1 := by kernel_rfl

theorem spot_none {W : World} {base n : Nat} {a : Addr} {cs : List Value} (hn : 0 < n) (h : W.cells? base a n = some cs) : a.spot = none := by
  unfold World.cells? at h
  split at h
  · obtain ⟨x, _, hc⟩ := Lib.mapM_at h 0 0 (by simp [hn])
    simpa [Addr.add] using World.cell?_spot hc
  · cases h

theorem ls_of_trod {H : Type} {enc : TypeId × Value → H} {W : World} {base : Nat} {sp : Nat → Bool} {held : Bool} {fuel : Nat} {v : Value} {x : DataW H × List MemPlace}
    (h : DataW.trod enc Tryz.prog W base sp held fuel 22 [v] = some x) : ∃ ss, Ls W v ss := by
  rcases DataW.trod_slice Tryz.underlying22 h with ⟨hcs, _⟩ | ⟨a, len, cap, elems, rest, n, _, hcs, _, hb, hl, hm, hlen, hel, _, _⟩
  · obtain rfl : v = .slice none 0 0 := by simpa using hcs
    exact ⟨[], Ls.nil _ _ _⟩
  · obtain rfl : v = .slice (some a) len cap := by simpa using hcs
    clear hcs h
    rw [cellsString] at hel
    have each : ∀ i, i < len → ∃ q : ByteArray, W.cells? base (a.add (i * 1)) 1 = some [.string q] ∧ q.size ≤ maxLen := by
      intro i hi
      have h1 := hel i hi
      rw [List.getElem?_eq_getElem (by omega)] at h1
      obtain ⟨cs, hc, ht⟩ := Option.bind_eq_some_iff.1 h1
      obtain ⟨s, rfl, -, hs⟩ := DataW.trod_string Tryz.underlying9 ht
      exact ⟨s, hc, hs⟩
    obtain ⟨ss, hpl, hps⟩ := list_of len _ each
    rcases Nat.eq_zero_or_pos len with h0 | h0
    · subst h0
      exact ⟨[], Ls.nil _ _ _⟩
    · obtain ⟨b, o, spot⟩ := a
      have hs : spot = none := by
        obtain ⟨q, hq, _⟩ := each 0 h0
        simpa [Addr.add] using spot_none (by omega) hq
      subst hs
      have hra : StrsAt W b o ss := by
        intro i q hq
        have := (hps i q hq).1
        rw [Addr.add_mid, Nat.mul_one] at this
        exact rangeAt_of_cells this 0 _ rfl
      subst hpl
      refine ⟨ss, _, cap, rfl, by omega, fun s hs => ?_, fun _ => ⟨b, o, rfl, hra, ?_⟩⟩
      · obtain ⟨i, hi, rfl⟩ := List.getElem_of_mem hs
        exact (hps i ss[i] (by simp [hi])).2
      · exact World.block_lt_of_cell? W _ (hra 0 ss[0] (by simp [h0]))
end Go.Proofs.YtlkpgiifdclijaaGreatDoor

/- A book, a list of texts that can be read: opened. -/
namespace Go.Proofs.YtlkpgiifdclijaaGreatDoor
open Go.ChangeShapes Go.WideShapes Go.ChangeAt Go.RowKit

theorem cellsBatch : Tryz.prog.cellsOf 105 = 3 := by kernel_rfl
theorem cellsBook : Tryz.prog.cellsOf 25 = 2 := by kernel_rfl
theorem cellsBatchS : Tryz.prog.cellsOf 23 = 1 := by kernel_rfl

theorem ba_of_trod {H : Type} {enc : TypeId × Value → H} {w : World} {base : Nat} {sp : Nat → Bool} {held : Bool} {fuel : Nat} {cs : List Value} {x : DataW H × List MemPlace}
    (h : DataW.trod enc Tryz.prog w base sp held fuel 105 cs = some x) : ∃ (y : Ba) (hv nv : Value), cs = [.string y.nm, hv, nv] ∧ Ls w hv y.has ∧ Ls w nv y.needs ∧ y.nm.size ≤ maxLen := by
  obtain ⟨xs, m, _, rfl, hl, hlen, hf⟩ := DataW.trod_struct Tryz.underlying105 h
  rw [cellsBatch] at hl
  obtain ⟨c0, c1, c2, rfl⟩ := list3 hl
  obtain ⟨y0, y1, y2, rfl⟩ := list3 (hlen.trans rfl : xs.length = 3)
  have h0 : DataW.trod enc Tryz.prog w base sp held m 9 (([c0, c1, c2].drop 0).take (Tryz.prog.cellsOf 9)) = some y0 := hf 0 { name := "Name", type := 9, offset := 0, embedded := false, tag := "", pkgPath := "", byteOffset := 0 } rfl
  have h1 : DataW.trod enc Tryz.prog w base sp held m 22 (([c0, c1, c2].drop 1).take (Tryz.prog.cellsOf 22)) = some y1 := hf 1 { name := "Has", type := 22, offset := 1, embedded := false, tag := "", pkgPath := "", byteOffset := 16 } rfl
  have h2 : DataW.trod enc Tryz.prog w base sp held m 22 (([c0, c1, c2].drop 2).take (Tryz.prog.cellsOf 22)) = some y2 := hf 2 { name := "Needs", type := 22, offset := 2, embedded := false, tag := "", pkgPath := "", byteOffset := 40 } rfl
  clear hf h
  rw [cellsString] at h0
  rw [cellsStrS] at h1 h2
  simp only [List.drop_succ_cons, List.drop_zero, List.take_succ_cons, List.take_zero] at h0 h1 h2
  obtain ⟨nm, rfl, rfl, z0⟩ := str_of_trod h0
  obtain ⟨has, l1⟩ := ls_of_trod h1
  obtain ⟨needs, l2⟩ := ls_of_trod h2
  exact ⟨⟨nm, has, needs⟩, c1, c2, rfl, l1, l2, z0⟩

theorem bs_of_trod {H : Type} {enc : TypeId × Value → H} {W : World} {base : Nat} {sp : Nat → Bool} {held : Bool} {fuel : Nat} {v : Value} {x : DataW H × List MemPlace}
    (h : DataW.trod enc Tryz.prog W base sp held fuel 23 [v] = some x) : ∃ bs, Bs W v bs := by
  rcases DataW.trod_slice Tryz.underlying23 h with ⟨hcs, _⟩ | ⟨a, len, cap, elems, rest, n, _, hcs, _, hb, hl, hm, hlen, hel, _, _⟩
  · obtain rfl : v = .slice none 0 0 := by simpa using hcs
    exact ⟨[], _, _, rfl, by simp, fun h => by simp at h⟩
  · obtain rfl : v = .slice (some a) len cap := by simpa using hcs
    clear hcs h
    rw [cellsBatch] at hel
    have each : ∀ i, i < len → ∃ y : Ba, ∃ hv nv : Value, W.cells? base (a.add (i * 3)) 3 = some [.string y.nm, hv, nv] ∧ Ls W hv y.has ∧ Ls W nv y.needs ∧ y.nm.size ≤ maxLen := by
      intro i hi
      have h1 := hel i hi
      rw [List.getElem?_eq_getElem (by omega)] at h1
      obtain ⟨cs, hc, ht⟩ := Option.bind_eq_some_iff.1 h1
      obtain ⟨y, hv, nv, rfl, r⟩ := ba_of_trod ht
      exact ⟨y, hv, nv, hc, r⟩
    obtain ⟨bs, hpl, hps⟩ := list_of len _ each
    rcases Nat.eq_zero_or_pos len with h0 | h0
    · subst h0
      exact ⟨[], _, _, rfl, by simp, fun h => by simp at h⟩
    · obtain ⟨b, o, spot⟩ := a
      have hs : spot = none := by
        obtain ⟨q, hv, nv, hq, _⟩ := each 0 h0
        simpa [Addr.add] using spot_none (by omega) hq
      subst hs
      have hra : BsAt W b o bs := by
        intro i q hq
        obtain ⟨hv, nv, this, r⟩ := hps i q hq
        rw [Addr.add_mid] at this
        exact ⟨hv, nv, rangeAt_of_cells this, r⟩
      subst hpl
      refine ⟨bs, _, cap, rfl, by omega, fun _ => ⟨b, o, rfl, hra, ?_⟩⟩
      obtain ⟨hv, nv, hr, -⟩ := hra 0 bs[0] (by simp [h0])
      exact World.block_lt_of_cell? W _ (hr 0 _ rfl)

theorem bk_of_trod {H : Type} {enc : TypeId × Value → H} {w : World} {base : Nat} {sp : Nat → Bool} {held : Bool} {fuel : Nat} {cs : List Value} {x : DataW H × List MemPlace}
    (h : DataW.trod enc Tryz.prog w base sp held fuel 25 cs = some x) : ∃ (b : Bk), BkV w (.agg cs.toArray) b := by
  obtain ⟨xs, m, _, rfl, hl, hlen, hf⟩ := DataW.trod_struct Tryz.underlying25 h
  rw [cellsBook] at hl
  obtain ⟨c0, c1, rfl⟩ := list2 hl
  obtain ⟨y0, y1, rfl⟩ := list2 (hlen.trans rfl : xs.length = 2)
  have h0 : DataW.trod enc Tryz.prog w base sp held m 22 (([c0, c1].drop 0).take (Tryz.prog.cellsOf 22)) = some y0 := hf 0 { name := "Things", type := 22, offset := 0, embedded := false, tag := "", pkgPath := "", byteOffset := 0 } rfl
  have h1 : DataW.trod enc Tryz.prog w base sp held m 23 (([c0, c1].drop 1).take (Tryz.prog.cellsOf 23)) = some y1 := hf 1 { name := "Batches", type := 23, offset := 1, embedded := false, tag := "", pkgPath := "", byteOffset := 24 } rfl
  clear hf h
  rw [cellsStrS] at h0
  rw [cellsBatchS] at h1
  simp only [List.drop_succ_cons, List.drop_zero, List.take_succ_cons, List.take_zero] at h0 h1
  obtain ⟨ts, l0⟩ := ls_of_trod h0
  obtain ⟨bs, l1⟩ := bs_of_trod h1
  exact ⟨⟨ts, bs⟩, c0, c1, rfl, l0, l1⟩
end Go.Proofs.YtlkpgiifdclijaaGreatDoor
