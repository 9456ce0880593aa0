/- The specification's batches (chapter 21): the things of slots, which is ok. -/
import Derived.Test.YtkapodkidlgkjafGreatDoorU3
import Derived.Test.YtkapodkidlgkjafGreatDoorSp3a
namespace Go.Proofs.YtkapodkidlgkjafGreatDoor
open Go.RowKit

/-- The thing of a slot. -/
theorem thing_any (x : Rb) (b o c g q d : Nat) (s : ByteArray) (w : World) (hl : SlAt w g q x.sl) (hg : g < w.heap.size) (hn : x.sl.length ≤ 1048576) :
    Calls Tryz.prog 94 #[.agg #[.string x.nm, .slice (some ⟨b, o, none⟩) x.ps.length c, .slice (some ⟨g, q, none⟩) x.sl.length d, .string x.ad, .int .i64 x.si, .int .i64 x.st], .string s] w fun e w' => e = .returned (.string (firstT x.sl s)) ∧ Below w.heap.size w w' := by
  have hC : CB (w.alloc (.cells #[.string x.nm, .slice (some ⟨b, o, none⟩) x.ps.length c, .slice (some ⟨g, q, none⟩) x.sl.length d, .string x.ad, .int .i64 x.si, .int .i64 x.st] 32)) w.heap.size [.string x.nm, .slice (some ⟨b, o, none⟩) x.ps.length c, .slice (some ⟨g, q, none⟩) x.sl.length d, .string x.ad, .int .i64 x.si, .int .i64 x.st] := cb_alloc w _ _
  have hB0 := (Below.refl w.heap.size w).alloc (Nat.le_refl _) (.cells #[.string x.nm, .slice (some ⟨b, o, none⟩) x.ps.length c, .slice (some ⟨g, q, none⟩) x.sl.length d, .string x.ad, .int .i64 x.si, .int .i64 x.st] 32)
  go_enter Tryz.func94, Tryz.ntmps94
  go_upto_region 1 with fail
  generalize w.alloc (.cells #[.string x.nm, .slice (some ⟨b, o, none⟩) x.ps.length c, .slice (some ⟨g, q, none⟩) x.sl.length d, .string x.ad, .int .i64 x.si, .int .i64 x.st] 32) = W1 at *
  obtain ⟨-, -, d2, -⟩ := hC.c6
  have hl1 := hl.up hB0 hg
  go_wp2_with fail
  go_loop [5] (fun i => ∃ k : Nat, k ≤ x.sl.length ∧ i = .int .i64 k ∧ ∀ (j : Nat) (y : Sl), j < k → x.sl[j]? = some y → (y.s.toList == s.toList) = false) (fun i => x.sl.length - (intOf i).toNat)
  case atStart => exact ⟨0, by omega, rfl, fun j y hj => by omega⟩
  case round =>
    obtain ⟨k, hk, rfl, hal⟩ := hrel
    have Hal : Hid (∀ (j : Nat) (y : Sl), j < k → x.sl[j]? = some y → (y.s.toList == s.toList) = false) := hal
    clear hal
    by_cases hp : k < x.sl.length
    · obtain ⟨c0, c1⟩ := hl1.cells k hp
      cases hq : ((x.sl[k]).s.toList == s.toList)
      · have Hq : Hid (∀ (j : Nat) (y : Sl), j < k + 1 → x.sl[j]? = some y → (y.s.toList == s.toList) = false) := fun j y hj hy => by
          rcases Nat.lt_or_ge j k with h' | h'
          · exact Hal.out j y h' hy
          · obtain rfl : j = k := by omega
            obtain ⟨_, rfl⟩ := List.getElem?_eq_some_iff.1 hy
            exact hq
        go_wp2
        go_round
        case rel => exact ⟨k + 1, by omega, by go_num, Hq.out⟩
        case measure => simp [intOf]; omega
      · have Hq : Hid (firstT x.sl s = (x.sl[k]).t) := firstT_hit hp Hal.out hq
        go_wp2
        go_ret
        exact ⟨by rw [Hq.out]; rfl, hB0⟩
    · have Hq : Hid (firstT x.sl s = ⟨#[]⟩) := firstT_none fun j y hy => Hal.out j y (by have := (List.getElem?_eq_some_iff.1 hy).1; omega) hy
      go_wp2
      go_ret
      exact ⟨by rw [Hq.out]; rfl, hB0⟩

theorem ht_drew {W w0 : World} {q g k : Nat} {x0 x1 x2 x3 x4 x5 y : Value} (h : Below W.heap.size W w0 ∧ w0.cell? ⟨q, 0, none⟩ = some x0 ∧ w0.cell? ⟨q, 1, none⟩ = some x1 ∧ w0.cell? ⟨q, 2, none⟩ = some x2 ∧ w0.cell? ⟨q, 3, none⟩ = some x3 ∧ w0.cell? ⟨q, 4, none⟩ = some x4 ∧ w0.cell? ⟨q, 5, none⟩ = some x5 ∧ w0.cell? ⟨g, k, none⟩ = some y) : Below W.heap.size W w0.drew ∧ w0.drew.cell? ⟨q, 0, none⟩ = some x0 ∧ w0.drew.cell? ⟨q, 1, none⟩ = some x1 ∧ w0.drew.cell? ⟨q, 2, none⟩ = some x2 ∧ w0.drew.cell? ⟨q, 3, none⟩ = some x3 ∧ w0.drew.cell? ⟨q, 4, none⟩ = some x4 ∧ w0.drew.cell? ⟨q, 5, none⟩ = some x5 ∧ w0.drew.cell? ⟨g, k, none⟩ = some y :=
  ⟨h.1.drew, h.2⟩
theorem ht_up {W w0 w1 : World} {q g k : Nat} {x0 x1 x2 x3 x4 x5 y : Value} (hq : q < W.heap.size) (hr : g < W.heap.size) (h : Below W.heap.size W w0 ∧ w0.cell? ⟨q, 0, none⟩ = some x0 ∧ w0.cell? ⟨q, 1, none⟩ = some x1 ∧ w0.cell? ⟨q, 2, none⟩ = some x2 ∧ w0.cell? ⟨q, 3, none⟩ = some x3 ∧ w0.cell? ⟨q, 4, none⟩ = some x4 ∧ w0.cell? ⟨q, 5, none⟩ = some x5 ∧ w0.cell? ⟨g, k, none⟩ = some y) (hB : Below w0.heap.size w0 w1) : Below W.heap.size W w1 ∧ w1.cell? ⟨q, 0, none⟩ = some x0 ∧ w1.cell? ⟨q, 1, none⟩ = some x1 ∧ w1.cell? ⟨q, 2, none⟩ = some x2 ∧ w1.cell? ⟨q, 3, none⟩ = some x3 ∧ w1.cell? ⟨q, 4, none⟩ = some x4 ∧ w1.cell? ⟨q, 5, none⟩ = some x5 ∧ w1.cell? ⟨g, k, none⟩ = some y := by
  obtain ⟨h1, a0, a1, a2, a3, a4, a5, a6⟩ := h
  have hl : q < w0.heap.size := Nat.lt_of_lt_of_le hq h1.size
  have hm : g < w0.heap.size := Nat.lt_of_lt_of_le hr h1.size
  exact ⟨up_trans h1 hB, (hB.cell (p := ⟨q, 0, none⟩) hl).trans a0, (hB.cell (p := ⟨q, 1, none⟩) hl).trans a1, (hB.cell (p := ⟨q, 2, none⟩) hl).trans a2, (hB.cell (p := ⟨q, 3, none⟩) hl).trans a3, (hB.cell (p := ⟨q, 4, none⟩) hl).trans a4, (hB.cell (p := ⟨q, 5, none⟩) hl).trans a5, (hB.cell (p := ⟨g, k, none⟩) hm).trans a6⟩
theorem thE_take (l : List Sl) (ss : List ByteArray) (k : Nat) (hk : k < ss.length) : thE l (ss.take (k + 1)) = insL (thE l (ss.take k)) (firstT l ss[k]) := by
  unfold thE bothL
  rw [List.take_succ_eq_append_getElem hk, List.map_append, List.foldl_append]; rfl
set_option maxHeartbeats 2000000 in
/-- The things of slots. -/
theorem things_any (x : Rb) (b o c g q d : Nat) (ss : List ByteArray) (v : Value) (w : World) (hl : SlAt w g q x.sl) (hg : g < w.heap.size) (hn : x.sl.length ≤ 1048576) (h : Txt w v ss) (hs : ss.length ≤ 900) :
    Calls Tryz.prog 36 #[.agg #[.string x.nm, .slice (some ⟨b, o, none⟩) x.ps.length c, .slice (some ⟨g, q, none⟩) x.sl.length d, .string x.ad, .int .i64 x.si, .int .i64 x.st], v] w fun e w' => (∃ u, e = .returned u ∧ Txt w' u (thE x.sl ss)) ∧ Below w.heap.size w w' := by
  obtain ⟨gs, cs, rfl, hS, hgs, hcs, -⟩ := h
  have hC : CB (w.alloc (.cells #[.string x.nm, .slice (some ⟨b, o, none⟩) x.ps.length c, .slice (some ⟨g, q, none⟩) x.sl.length d, .string x.ad, .int .i64 x.si, .int .i64 x.st] 32)) w.heap.size [.string x.nm, .slice (some ⟨b, o, none⟩) x.ps.length c, .slice (some ⟨g, q, none⟩) x.sl.length d, .string x.ad, .int .i64 x.si, .int .i64 x.st] := cb_alloc w _ _
  have hB0 := (Below.refl w.heap.size w).alloc (Nat.le_refl _) (.cells #[.string x.nm, .slice (some ⟨b, o, none⟩) x.ps.length c, .slice (some ⟨g, q, none⟩) x.sl.length d, .string x.ad, .int .i64 x.si, .int .i64 x.st] 32)
  go_enter Tryz.func36, Tryz.ntmps36
  go_upto_region 1 with fail
  generalize w.alloc (.cells #[.string x.nm, .slice (some ⟨b, o, none⟩) x.ps.length c, .slice (some ⟨g, q, none⟩) x.sl.length d, .string x.ad, .int .i64 x.si, .int .i64 x.st] 32) = W1 at *
  have hlt := hC.2.2
  have hT0 := txt_nil W1
  have hB1 := (Below.refl W1.heap.size W1).alloc (Nat.le_refl _) (.cells #[] 9)
  go_upto_region 2 with fail
  generalize hW2 : W1.alloc (.cells #[] 9) = W2 at *
  clear hW2
  go_wp2_with fail
  go_loopw [5, 6] (fun u i w' => ∃ k : Nat, k ≤ ss.length ∧ i = .int .i64 k ∧ Txt w' u (thE x.sl (ss.take k)) ∧ Below W1.heap.size W1 w') (fun _ i _ => ss.length - (intOf i).toNat)
  case atStart => exact ⟨0, by omega, rfl, hT0, hB1⟩
  case round =>
    obtain ⟨k, hk, rfl, hT, hB⟩ := hrel
    by_cases hp : k < ss.length
    · have hB2 := up_trans hB0 hB
      have c0 := (hB2.cell (p := ⟨gs, k, none⟩) hgs).trans (by have := hS k ss[k] (by simp); simpa using this)
      obtain ⟨d0, d1, d2, d3, d4, d5⟩ := (hC.up hB hlt).c6
      have hle := thE_len x.sl (ss.take k)
      rw [List.length_take] at hle
      have Ht := thE_take x.sl ss k hp
      have HT : Hid (thE x.sl (ss.take (k + 1)) = insL (thE x.sl (ss.take k)) (firstT x.sl ss[k])) := Ht
      clear Ht
      generalize ss[k] = s0 at *
      generalize thE x.sl (ss.take k) = tt at *
      have hq4 : w.heap.size < wr.heap.size := Nat.lt_of_lt_of_le hlt hB.size
      have hg4 : gs < wr.heap.size := Nat.lt_of_lt_of_le hgs hB2.size
      have hS0 : (fun w' => Below wr.heap.size wr w' ∧ w'.cell? ⟨w.heap.size, 0, none⟩ = some (.string x.nm) ∧ w'.cell? ⟨w.heap.size, 1, none⟩ = some (.slice (some ⟨b, o, none⟩) x.ps.length c) ∧ w'.cell? ⟨w.heap.size, 2, none⟩ = some (.slice (some ⟨g, q, none⟩) x.sl.length d) ∧ w'.cell? ⟨w.heap.size, 3, none⟩ = some (.string x.ad) ∧ w'.cell? ⟨w.heap.size, 4, none⟩ = some (.int .i64 x.si) ∧ w'.cell? ⟨w.heap.size, 5, none⟩ = some (.int .i64 x.st) ∧ w'.cell? ⟨gs, k, none⟩ = some (.string s0)) wr := ⟨Below.refl _ _, d0, d1, d2, d3, d4, d5, c0⟩
      have HL : Hid (∀ W, Below wr.heap.size wr W → Calls Tryz.prog 94 #[.agg #[.string x.nm, .slice (some ⟨b, o, none⟩) x.ps.length c, .slice (some ⟨g, q, none⟩) x.sl.length d, .string x.ad, .int .i64 x.si, .int .i64 x.st], .string s0] W fun e w' => e = .returned (.string (firstT x.sl s0)) ∧ Below W.heap.size W w') := fun W hW => thing_any x b o c g q d s0 W (hl.up (up_trans hB2 hW) hg) (Nat.lt_of_lt_of_le hg (up_trans hB2 hW).size) hn
      obtain ⟨gu, cu, hu, -⟩ := id hT
      subst hu
      clear d0 d1 d2 d3 d4 d5 c0
      go_wp2_with fail
      go_region_held (fun w' => Below wr.heap.size wr w' ∧ w'.cell? ⟨w.heap.size, 0, none⟩ = some (.string x.nm) ∧ w'.cell? ⟨w.heap.size, 1, none⟩ = some (.slice (some ⟨b, o, none⟩) x.ps.length c) ∧ w'.cell? ⟨w.heap.size, 2, none⟩ = some (.slice (some ⟨g, q, none⟩) x.sl.length d) ∧ w'.cell? ⟨w.heap.size, 3, none⟩ = some (.string x.ad) ∧ w'.cell? ⟨w.heap.size, 4, none⟩ = some (.int .i64 x.si) ∧ w'.cell? ⟨w.heap.size, 5, none⟩ = some (.int .i64 x.st) ∧ w'.cell? ⟨gs, k, none⟩ = some (.string s0)) (first | exact ht_drew hS0 | exact ht_up hq4 hg4 (by assumption) (by assumption))
        (first
          | (go_at_call 94; refine (HL.out _ (And.left (by assumption))).mono ?_; rintro e w3 ⟨rfl, hb3⟩; have hT3 := (hT.up (Below.refl _ _).drew).up hb3)
          | (go_at_call 93; refine (insert_any tt _ _ _ hT3 (by omega)).mono ?_; rintro e w4 ⟨⟨u4, rfl, hT4⟩, hb4⟩))
      rename_i hHeld
      have hB5 := up_trans hB hHeld.1
      rw [← HT.out] at hT4
      clear hHeld hS0 hT hT3 hb3 hb4 HL
      go_wp2_with fail
      go_roundw
      case rel => exact ⟨k + 1, by omega, by go_num, hT4, hB5⟩
      case measure => simp [intOf]; omega
    · have HK : Hid (∀ u, Txt wr u (thE x.sl (ss.take k)) → Txt wr u (thE x.sl ss)) := fun u h => by rwa [List.take_of_length_le (by omega)] at h
      go_wp2_with fail
      go_ret
      exact ⟨⟨_, rfl, HK.out _ hT⟩, up_trans hB0 hB⟩
end Go.Proofs.YtkapodkidlgkjafGreatDoor
