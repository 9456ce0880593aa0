/- The program's walk of a name (chapter 11). -/
import Derived.Test.YtnojjmkmkelbgaaGreatJ1
import Derived.Test.YtnojjmkmkelbgaaGreatJ15
import Derived.Test.YtnojjmkmkelbgaaGreatJ14
import Derived.Test.YtnojjmkmkelbgaaGreatJ4
import Derived.Test.YtnojjmkmkelbgaaGreatJ6
import Derived.Laws.OwnMore
import Derived.Test.YtnojjmkmkelbgaaGreatDn0
namespace Go.Proofs.YtnojjmkmkelbgaaGreat
open Go.RowKit

theorem shName_any (s : ByteArray) (w : World) (hs : s.size ≤ maxLen) :
    Calls Tryz.prog 52 #[.string s] w fun e w' => e = .returned (.bool (nameB s)) ∧ Below w.heap.size w w' := by
  unfold maxLen at hs
  by_cases h1 : 1 ≤ s.size
  case neg =>
    go_enter Tryz.func52, Tryz.ntmps52
    go_wp2
    go_ret
    exact ⟨ret_bool (by simp [nameB, h1]), Below.refl _ _⟩
  by_cases h2 : s.size ≤ 8
  case neg =>
    go_enter Tryz.func52, Tryz.ntmps52
    go_wp2
    go_ret
    exact ⟨ret_bool (by simp [nameB, h2]), Below.refl _ _⟩
  have hn : Hid (nameB s = allB s.data.toList) := by show nameB s = _; simp [nameB, h1, h2]
  go_enter Tryz.func52, Tryz.ntmps52
  go_wp2_with fail
  go_loopw [4] (fun _ w' => ∃ pos : Nat, w' = w.iter s pos ∧ pos ≤ s.size ∧ allB (s.data.toList.take pos) = true) (fun _ w' => s.size - w'.iterPos w.heap.size)
  case atStart => exact ⟨0, rfl, by omega, rfl⟩
  case round =>
    obtain ⟨pos, rfl, hle, hal⟩ := hrel
    have Hal : Hid (allB (s.data.toList.take pos) = true) := hal
    clear hal
    by_cases hp : pos < s.size
    · have hnx : ∀ ty, (Instr.next (.pointer (some ⟨w.heap.size, 0, none⟩)) true ty).run Tryz.prog (w.iter s pos) = _ := fun ty => run_next_any w s pos ty hp
      by_cases ha : (s[pos]'hp).toNat < 128
      · rw [decode_ascii s pos hp ha] at hnx
        by_cases hb : nbB (s[pos]'hp).toNat = true
        · have Hb : Hid (nbB (s[pos]'hp).toNat = true) := hb
          go_wp2_with (go_at_call 75; refine (rune_any _ _).mono ?_; rintro e w' ⟨rfl, rfl⟩)
          go_roundw
          case rel => exact ⟨pos + 1, rfl, by omega, by rw [allB_take s pos hp, Hal.out, Hb.out]; rfl⟩
          case measure => simp; omega
        · have hb' : nbB (s[pos]'hp).toNat = false := by simpa using hb
          have Hb : Hid (nbB (s[pos]'hp).toNat = false) := hb'
          clear hb
          go_wp2_with (go_at_call 75; refine (rune_any _ _).mono ?_; rintro e w' ⟨rfl, rfl⟩)
          go_ret
          exact ⟨ret_bool (by rw [hn.out, allB_no s pos hp Hb.out]), up_iter _ _ _⟩
      · have hi := decode_high s pos hp (by omega)
        have hb' : nbB (Utf8.decode s pos).1 = false := nbB_high _ hi.1
        have Hb : Hid (nbB (s[pos]'hp).toNat = false) := nbB_high _ (by omega)
        clear hi
        go_wp2_with (go_at_call 75; refine (rune_any _ _).mono ?_; rintro e w' ⟨rfl, rfl⟩)
        go_ret
        exact ⟨ret_bool (by rw [hn.out, allB_no s pos hp Hb.out]), up_iter _ _ _⟩
    · have hnx : ∀ ty, (Instr.next (.pointer (some ⟨w.heap.size, 0, none⟩)) true ty).run Tryz.prog (w.iter s pos) = _ := fun ty => run_next_end w s pos ty hp
      go_wp2
      go_ret
      exact ⟨ret_bool (by rw [hn.out, allB_yes s pos hp Hal.out]), up_iter _ _ _⟩
end Go.Proofs.YtnojjmkmkelbgaaGreat

/- Safe by the specification. -/
namespace Go.Proofs.YtnojjmkmkelbgaaGreat
open Go.RowKit

set_option maxHeartbeats 1000000 in
theorem specSafe_any (b : Bk) (v : Value) (w : World) (h : BkV w v b) :
    Calls Tryz.prog 101 #[v] w fun e w' => (∃ ss ok, e = .returned (.bool ok) ∧ OrderIs b ss ok) ∧ Below w.heap.size w w' := by
  obtain ⟨a1, c1, a2, c2, rfl, -, -⟩ := h.parts
  have hC : CB (w.alloc (.cells #[.slice a1 (b).things.length c1, .slice a2 (b).bs.length c2] 26)) w.heap.size [.slice a1 b.things.length c1, .slice a2 b.bs.length c2] := cb_alloc w _ _
  have hB0 := (Below.refl w.heap.size w).alloc (Nat.le_refl _) (.cells #[.slice a1 (b).things.length c1, .slice a2 (b).bs.length c2] 26)
  go_enter Tryz.func101, Tryz.ntmps101
  go_upto_region 1 with fail
  generalize w.alloc (.cells #[.slice a1 (b).things.length c1, .slice a2 (b).bs.length c2] 26) = W1 at *
  have hk := h.up hB0
  obtain ⟨e0, e1⟩ := hC.c2'
  go_wp2_with fail
  refine (specOrder_any b _ _ hk).mono ?_
  rintro e w2 ⟨⟨u, ss, ok, rfl, hord, -, -⟩, hb2⟩
  clear e0 e1
  go_wp2_with fail
  go_ret
  exact ⟨⟨ss, ok, rfl, hord⟩, up_trans hB0 hb2⟩
end Go.Proofs.YtnojjmkmkelbgaaGreat

/- The specification's walks of chapter 13: copies, what is taken, safe or not. -/
namespace Go.Proofs.YtnojjmkmkelbgaaGreat
open Go.RowKit

/-- Somebody else has one of some things. -/
def takenTo (bs : List Ba) (at' : Int) (things : List ByteArray) (k : Nat) : Prop := ∀ (i : Nat) (x : Ba), i < k → (i : Int) ≠ at' → bs[i]? = some x → shareB x.has things = false
def Taken (bs : List Ba) (at' : Int) (things : List ByteArray) : Prop := ∃ (i : Nat) (x : Ba), (i : Int) ≠ at' ∧ bs[i]? = some x ∧ shareB x.has things = true
theorem takenTo.step {bs : List Ba} {a : Int} {things : List ByteArray} {k : Nat} (h : takenTo bs a things k) (hk : k < bs.length) (h1 : (k : Int) = a ∨ shareB (bs[k]).has things = false) : takenTo bs a things (k + 1) := fun i x hi hne hx => by
  by_cases e : i = k
  · subst e
    rw [List.getElem?_eq_getElem hk] at hx
    obtain rfl := Option.some.inj hx
    exact h1.resolve_left hne
  · exact h i x (by omega) hne hx
theorem taken_no {bs : List Ba} {a : Int} {things : List ByteArray} {k : Nat} (h : takenTo bs a things k) (hk : ¬ k < bs.length) : ¬ Taken bs a things := fun ⟨i, x, hne, hx, hs⟩ => by
  rw [h i x (by have := (List.getElem?_eq_some_iff.1 hx).1; omega) hne hx] at hs; cases hs

set_option maxHeartbeats 2000000 in
theorem taken13_any (b : Bk) (v tv : Value) (at' : Int) (things : List ByteArray) (w : World) (h : BkV w v b) (ht : Ls w tv things) :
    Calls Tryz.prog 99 #[v, .int .i64 at', tv] w fun e w' => e = .returned (.bool (pB (Taken b.bs at' things))) ∧ Below w.heap.size w w' := by
  obtain ⟨a1, c1, a2, c2, rfl, h1, h2⟩ := h.parts
  obtain ⟨at1, ct1, rfl, -⟩ := id ht
  have hC : CB (w.alloc (.cells #[.slice a1 (b).things.length c1, .slice a2 (b).bs.length c2] 26)) w.heap.size [.slice a1 b.things.length c1, .slice a2 b.bs.length c2] := cb_alloc w _ _
  have hB0 := (Below.refl w.heap.size w).alloc (Nat.le_refl _) (.cells #[.slice a1 (b).things.length c1, .slice a2 (b).bs.length c2] 26)
  have g2 := h2.at.1
  unfold maxLen at g2
  go_enter Tryz.func99, Tryz.ntmps99
  go_upto_region 1 with fail
  generalize w.alloc (.cells #[.slice a1 (b).things.length c1, .slice a2 (b).bs.length c2] 26) = W1 at *
  have l2 := h2.up hB0
  have lt := ht.up hB0
  clear h h1 h2 ht
  obtain ⟨e0, e1⟩ := hC.c2'
  obtain ⟨-, hpos⟩ := l2.at
  go_wp2_with fail
  go_loop [7] (fun i => ∃ k : Nat, k ≤ b.bs.length ∧ i = .int .i64 k ∧ takenTo b.bs at' things k) (fun i => b.bs.length - (intOf i).toNat)
  case atStart => exact ⟨0, by omega, rfl, fun i _ hi => by omega⟩
  case round =>
    obtain ⟨k, hk, rfl, hal⟩ := hrel
    have Hal : Hid (takenTo b.bs at' things k) := hal
    clear hal
    by_cases hp : k < b.bs.length
    · obtain ⟨bb, o, rfl, hS, hb⟩ := hpos (by omega)
      by_cases hka : (k : Int) = at'
      · have hkb : ((k : Int) != at') = false := by rw [bne_eq_false_iff_eq]; exact hka
        have Hs : Hid (takenTo b.bs at' things (k + 1)) := Hal.out.step hp (.inl hka)
        clear hka
        go_wp2_with fail
        go_round
        case rel => exact ⟨k + 1, by omega, by go_num, Hs.out⟩
        case measure => simp [intOf]; omega
      have hkb : ((k : Int) != at') = true := by rw [bne_iff_ne]; exact hka
      obtain ⟨a3, d3, a4, d4, -, c4, -, l3, -, -⟩ := (hS.at hp).cells
      have HY : Hid (shareB (b.bs[k]).has things = false → takenTo b.bs at' things (k + 1)) := fun h => Hal.out.step hp (.inr h)
      have HN : Hid (shareB (b.bs[k]).has things = true → Taken b.bs at' things) := fun h => ⟨k, _, hka, List.getElem?_eq_getElem hp, h⟩
      clear hka
      generalize b.bs[k] = x0 at *
      go_wp2_with fail
      refine (share11_any x0.has things _ _ _ l3 lt).mono ?_
      rintro e w' ⟨rfl, hw⟩
      obtain rfl := hw.symm
      clear hw
      cases hs : shareB x0.has things
      · have Hs : Hid (takenTo b.bs at' things (k + 1)) := HY.out hs
        clear HY HN
        go_wp2_with fail
        go_round
        case rel => exact ⟨k + 1, by omega, by go_num, Hs.out⟩
        case measure => simp [intOf]; omega
      · have Hs : Hid (Taken b.bs at' things) := HN.out hs
        clear HY HN
        go_wp2_with fail
        go_ret
        exact ⟨ret_bool (pB_yes Hs.out).symm, hB0⟩
    · have Hs : Hid (¬ Taken b.bs at' things) := taken_no Hal.out hp
      go_wp2_with fail
      go_ret
      exact ⟨ret_bool (pB_no Hs.out).symm, hB0⟩

end Go.Proofs.YtnojjmkmkelbgaaGreat

/- The reader of a code, for the share: opening it. -/
namespace Go.Proofs.YtnojjmkmkelbgaaGreat
open Go.RowKit

theorem open15_any (a : Option Addr) (n cap : Nat) (w : World) (h : BytesAt w w.heap.size (.slice a n cap) n) (hcap : n ≤ cap) (_hbig : cap ≤ maxLen) :
    Calls Tryz.prog 17 #[.slice a n cap] w
      fun e w' => (∃ (rb len : Nat) (v : Value), e = .returned (.pointer (some ⟨rb, 0, none⟩)) ∧ Rd w' rb v len 0 ∧ w.heap.size ≤ rb) ∧ Below w.heap.size w w' := by
  by_cases hn : 2000 < n
  · go_enter Tryz.func17, Tryz.ntmps17
    go_wp2_with fail
    go_ret
    exact ⟨⟨w.heap.size, 2000, _, rfl, rd_alloc w _ 2000 _ (h.cut (by omega)) (by omega), Nat.le_refl _⟩, (Below.refl _ _).alloc (Nat.le_refl _) _⟩
  · go_enter Tryz.func17, Tryz.ntmps17
    go_wp2_with fail
    go_ret
    exact ⟨⟨w.heap.size, n, _, rfl, rd_alloc w _ n _ h (by omega), Nat.le_refl _⟩, (Below.refl _ _).alloc (Nat.le_refl _) _⟩
end Go.Proofs.YtnojjmkmkelbgaaGreat
