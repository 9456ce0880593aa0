/- A house that can be read: opened. -/
import Derived.Test.YtlkpgiifdclijaaGreatDoorJ41
import Derived.Test.YtlkpgiifdclijaaGreatDoorJ38
namespace Go.Proofs.YtlkpgiifdclijaaGreatDoor
open Go.ChangeShapes Go.WideShapes Go.ChangeAt Go.RowKit

theorem cellsHouse : Tryz.prog.cellsOf 29 = 6 := by kernel_rfl
theorem cellsDone : Tryz.prog.cellsOf 74 = 3 := by kernel_rfl
theorem cellsDoneS : Tryz.prog.cellsOf 27 = 1 := by kernel_rfl
theorem cellsRbS : Tryz.prog.cellsOf 26 = 1 := by kernel_rfl
theorem list5 {α : Type} {l : List α} (h : l.length = 5) : ∃ a b c d e, l = [a, b, c, d, e] := by
  match l, h with
  | [a, b, c, d, e], _ => exact ⟨a, b, c, d, e, rfl⟩
theorem trod_done {H : Type} {enc : TypeId × Value → H} {w : World} {base : Nat} {sp : Nat → Bool} {held : Bool} {fuel : Nat} {cs : List Value} {x : DataW H × List MemPlace}
    (h : DataW.trod enc Tryz.prog w base sp held fuel 74 cs = some x) : ∃ y : Done, cs = y.cells ∧ y.nm.size ≤ maxLen := by
  obtain ⟨xs, m, _, rfl, hl, hlen, hf⟩ := DataW.trod_struct Tryz.underlying74 h
  rw [cellsDone] at hl
  obtain ⟨c0, c1, c2, rfl⟩ := list3 hl
  obtain ⟨y0, y1, y2, rfl⟩ := list3 (hlen.trans rfl : xs.length = 3)
  have h0 : DataW.trod enc Tryz.prog w base sp held m 9 (([c0, c1, c2].drop 0).take (Tryz.prog.cellsOf 9)) = some y0 := hf 0 { name := "Name", type := 9, offset := 0, embedded := false, tag := "", pkgPath := "", byteOffset := 0 } rfl
  have h1 : DataW.trod enc Tryz.prog w base sp held m 3 (([c0, c1, c2].drop 1).take (Tryz.prog.cellsOf 3)) = some y1 := hf 1 { name := "End", type := 3, offset := 1, embedded := false, tag := "", pkgPath := "", byteOffset := 16 } rfl
  have h2 : DataW.trod enc Tryz.prog w base sp held m 3 (([c0, c1, c2].drop 2).take (Tryz.prog.cellsOf 3)) = some y2 := hf 2 { name := "Tick", type := 3, offset := 2, embedded := false, tag := "", pkgPath := "", byteOffset := 24 } rfl
  clear hf h
  rw [cellsString] at h0
  rw [cellsInt] at h1 h2
  simp only [List.drop_succ_cons, List.drop_zero, List.take_succ_cons, List.take_zero] at h0 h1 h2
  obtain ⟨nm, rfl, rfl, z0⟩ := str_of_trod h0
  obtain ⟨e, rfl, rfl, _⟩ := int_of_trod h1
  obtain ⟨t, rfl, rfl, _⟩ := int_of_trod h2
  exact ⟨⟨nm, e, t⟩, rfl, z0⟩
theorem dones_of_trod {H : Type} {enc : TypeId × Value → H} {W : World} {base : Nat} {sp : Nat → Bool} {held : Bool} {fuel : Nat} {v : Value} {x : DataW H × List MemPlace}
    (h : DataW.trod enc Tryz.prog W base sp held fuel 27 [v] = some x) : ∃ l, Dns W v l := by
  rcases DataW.trod_slice Tryz.underlying27 h with ⟨hcs, _⟩ | ⟨a, len, cap, elems, rest, n, _, hcs, _, hb, hl, hm, hlen, hel, _, _⟩
  · obtain rfl : v = .slice none 0 0 := by simpa using hcs
    exact ⟨[], _, _, rfl, by simp, fun h => by simp at h⟩
  · obtain rfl : v = .slice (some a) len cap := by simpa using hcs
    clear hcs h
    rw [cellsDone] at hel
    have each : ∀ i, i < len → ∃ y : Done, W.cells? base (a.add (i * 3)) 3 = some y.cells ∧ y.nm.size ≤ maxLen := by
      intro i hi
      have h1 := hel i hi
      rw [List.getElem?_eq_getElem (by omega)] at h1
      obtain ⟨cs, hc, ht⟩ := Option.bind_eq_some_iff.1 h1
      obtain ⟨y, rfl, r⟩ := trod_done ht
      exact ⟨y, hc, r⟩
    obtain ⟨l, hpl, hps⟩ := list_of len _ each
    rcases Nat.eq_zero_or_pos len with h0 | h0
    · subst h0
      exact ⟨[], _, _, rfl, by simp, fun h => by simp at h⟩
    · obtain ⟨b, o, spot⟩ := a
      have hs : spot = none := by
        obtain ⟨q, hq, _⟩ := each 0 h0
        simpa [Addr.add] using spot_none (by omega) hq
      subst hs
      have hra : DnsAt W b o l := by
        intro i q hq
        have := hps i q hq
        rw [Addr.add_mid] at this
        exact ⟨rangeAt_of_cells this.1, this.2⟩
      subst hpl
      exact ⟨l, _, cap, rfl, by omega, fun _ => ⟨b, o, rfl, hra, World.block_lt_of_cell? W _ ((hra 0 l[0] (by simp [h0])).1 0 _ rfl)⟩⟩
theorem rbs_of_trod {H : Type} {enc : TypeId × Value → H} {W : World} {base : Nat} {sp : Nat → Bool} {held : Bool} {fuel : Nat} {v : Value} {x : DataW H × List MemPlace}
    (h : DataW.trod enc Tryz.prog W base sp held fuel 26 [v] = some x) : ∃ l, RsSrc W v l := by
  rcases DataW.trod_slice Tryz.underlying26 h with ⟨hcs, _⟩ | ⟨a, len, cap, elems, rest, n, _, hcs, _, hb, hl, hm, hlen, hel, _, _⟩
  · obtain rfl : v = .slice none 0 0 := by simpa using hcs
    exact ⟨[], _, _, rfl, by simp, fun h => by simp at h⟩
  · obtain rfl : v = .slice (some a) len cap := by simpa using hcs
    clear hcs h
    rw [cellsRb] at hel
    have each : ∀ i, i < len → ∃ y : Rb, ∃ rv sv : Value, W.cells? base (a.add (i * 6)) 6 = some [.string y.nm, rv, sv, .string y.ad, .int .i64 y.si, .int .i64 y.st] ∧ RbSrc W y rv sv := by
      intro i hi
      have h1 := hel i hi
      rw [List.getElem?_eq_getElem (by omega)] at h1
      obtain ⟨cs, hc, ht⟩ := Option.bind_eq_some_iff.1 h1
      obtain ⟨y, rv, sv, rfl, r⟩ := rb_of_trod ht
      exact ⟨y, rv, sv, hc, r⟩
    obtain ⟨bs, hpl, hps⟩ := list_of len _ each
    rcases Nat.eq_zero_or_pos len with h0 | h0
    · subst h0
      exact ⟨[], _, _, rfl, by simp, fun h => by simp at h⟩
    · obtain ⟨b, o, spot⟩ := a
      have hs : spot = none := by
        obtain ⟨q, rv, sv, hq, _⟩ := each 0 h0
        simpa [Addr.add] using spot_none (by omega) hq
      subst hs
      have hra : RsAt W b o bs := by
        intro i q hq
        obtain ⟨rv, sv, this, r⟩ := hps i q hq
        rw [Addr.add_mid] at this
        exact ⟨rv, sv, rangeAt_of_cells this, r⟩
      subst hpl
      refine ⟨bs, _, cap, rfl, by omega, fun _ => ⟨b, o, rfl, hra, ?_⟩⟩
      obtain ⟨rv, sv, hr, -⟩ := hra 0 bs[0] (by simp [h0])
      exact World.block_lt_of_cell? W _ (hr 0 _ rfl)
theorem house_of_trod {H : Type} {enc : TypeId × Value → H} {w : World} {base : Nat} {sp : Nat → Bool} {held : Bool} {fuel : Nat} {cs : List Value} {x : DataW H × List MemPlace}
    (h : DataW.trod enc Tryz.prog w base sp held fuel 29 cs = some x) : ∃ (y : House) (tv bv xv dv : Value), cs = [.int .i64 y.now, .int .i64 y.last, tv, bv, xv, dv] ∧ HSrc w y tv bv xv dv := by
  obtain ⟨xs, m, _, rfl, hl, hlen, hf⟩ := DataW.trod_struct Tryz.underlying29 h
  rw [cellsHouse] at hl
  obtain ⟨c0, c1, c2, c3, c4, c5, rfl⟩ := list6 hl
  obtain ⟨y0, y1, y2, y3, y4, rfl⟩ := list5 (hlen.trans rfl : xs.length = 5)
  have h0 : DataW.trod enc Tryz.prog w base sp held m 3 (([c0, c1, c2, c3, c4, c5].drop 0).take (Tryz.prog.cellsOf 3)) = some y0 := hf 0 { name := "Now", type := 3, offset := 0, embedded := false, tag := "", pkgPath := "", byteOffset := 0 } rfl
  have h1 : DataW.trod enc Tryz.prog w base sp held m 3 (([c0, c1, c2, c3, c4, c5].drop 1).take (Tryz.prog.cellsOf 3)) = some y1 := hf 1 { name := "Last", type := 3, offset := 1, embedded := false, tag := "", pkgPath := "", byteOffset := 8 } rfl
  have h2 : DataW.trod enc Tryz.prog w base sp held m 25 (([c0, c1, c2, c3, c4, c5].drop 2).take (Tryz.prog.cellsOf 25)) = some y2 := hf 2 { name := "Share", type := 25, offset := 2, embedded := false, tag := "", pkgPath := "", byteOffset := 16 } rfl
  have h3 : DataW.trod enc Tryz.prog w base sp held m 26 (([c0, c1, c2, c3, c4, c5].drop 4).take (Tryz.prog.cellsOf 26)) = some y3 := hf 3 { name := "Batches", type := 26, offset := 4, embedded := false, tag := "", pkgPath := "", byteOffset := 64 } rfl
  have h4 : DataW.trod enc Tryz.prog w base sp held m 27 (([c0, c1, c2, c3, c4, c5].drop 5).take (Tryz.prog.cellsOf 27)) = some y4 := hf 4 { name := "Dones", type := 27, offset := 5, embedded := false, tag := "", pkgPath := "", byteOffset := 88 } rfl
  clear hf h
  rw [cellsInt] at h0 h1
  rw [cellsBook] at h2
  rw [cellsRbS] at h3
  rw [cellsDoneS] at h4
  simp only [List.drop_succ_cons, List.drop_zero, List.take_succ_cons, List.take_zero] at h0 h1 h2 h3 h4
  obtain ⟨now, rfl, rfl, _⟩ := int_of_trod h0
  obtain ⟨last, rfl, rfl, _⟩ := int_of_trod h1
  obtain ⟨b, tv, bv, e, l1, l2⟩ := bk_of_trod h2
  obtain ⟨rfl, rfl⟩ : c2 = tv ∧ c3 = bv := by simpa using e
  obtain ⟨bs, l3⟩ := rbs_of_trod h3
  obtain ⟨ds, l4⟩ := dones_of_trod h4
  exact ⟨⟨now, last, b, bs, ds⟩, c2, c3, c4, c5, rfl, ⟨l1, l2, l3, l4⟩⟩
end Go.Proofs.YtlkpgiifdclijaaGreatDoor
