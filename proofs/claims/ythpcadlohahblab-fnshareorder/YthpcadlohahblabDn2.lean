/- Drawing for the share: names, some of a list, things alone. -/
import Derived.Test.YthpcadlohahblabDn
import Derived.Test.YthpcadlohahblabKt9
namespace Go.Proofs.Ythpcadlohahblab
open Go.RowKit

/-- A drawn book is short, and its names can be. -/
def Tiny (b : Bk) : Prop := b.things.length ≤ 40 ∧ b.bs.length ≤ 40 ∧ ∀ x ∈ b.bs, x.has.length ≤ 40 ∧ x.needs.length ≤ 40
/-- A spoilt one may be a little longer. -/
def Loose (b : Bk) : Prop := b.things.length ≤ 50 ∧ b.bs.length ≤ 50 ∧ ∀ x ∈ b.bs, x.has.length ≤ 50 ∧ x.needs.length ≤ 50
def Dk (w : World) (base : Nat) (v : Value) (b : Bk) : Prop := BkW w base v b ∧ Szb b ∧ Tiny b
theorem Dk.gr {w w' : World} {base r : Nat} {v : Value} {b : Bk} (h : Dk w base v b) (hg : w.grownBy w' (some r)) (hr : r < base) : Dk w' base v b := ⟨h.1.gr hg hr, h.2⟩
theorem Dk.low {w : World} {base base' : Nat} {v : Value} {b : Bk} (h : Dk w base v b) (hb : base' ≤ base) : Dk w base' v b := ⟨h.1.low hb, h.2⟩
theorem Dk.up {w w' : World} {base : Nat} {v : Value} {b : Bk} (h : Dk w base v b) (hb : Below w.heap.size w w') : Dk w' base v b := ⟨h.1.up hb, h.2⟩
theorem Dk.bk {w : World} {base : Nat} {v : Value} {b : Bk} (h : Dk w base v b) : BkV w v b := h.1.bk h.2.1
def DkL (w : World) (base : Nat) (v : Value) (b : Bk) : Prop := BkW w base v b ∧ Szb b ∧ Loose b
theorem Dk.loose {w : World} {base : Nat} {v : Value} {b : Bk} (h : Dk w base v b) : DkL w base v b := by
  obtain ⟨h1, h2, h3, h4, h5⟩ := h
  exact ⟨h1, h2, by omega, by omega, fun x hx => by have := h5 x hx; omega⟩
theorem DkL.gr {w w' : World} {base r : Nat} {v : Value} {b : Bk} (h : DkL w base v b) (hg : w.grownBy w' (some r)) (hr : r < base) : DkL w' base v b := ⟨h.1.gr hg hr, h.2⟩
theorem DkL.low {w : World} {base base' : Nat} {v : Value} {b : Bk} (h : DkL w base v b) (hb : base' ≤ base) : DkL w base' v b := ⟨h.1.low hb, h.2⟩
theorem DkL.up {w w' : World} {base : Nat} {v : Value} {b : Bk} (h : DkL w base v b) (hb : Below w.heap.size w w') : DkL w' base v b := ⟨h.1.up hb, h.2⟩
theorem DkL.bk {w : World} {base : Nat} {v : Value} {b : Bk} (h : DkL w base v b) : BkV w v b := h.1.bk h.2.1
theorem tiny_none : Tiny nobody := ⟨by simp [nobody], by simp [nobody], fun x hx => by simp [nobody] at hx⟩
theorem tiny_ok {b : Bk} (h : BookOk b) : Tiny b := by
  obtain ⟨h1, h2, h3⟩ := ok_small h
  exact ⟨by omega, by omega, fun x hx => by have := h3 x hx; omega⟩
def names15 : List ByteArray := [⟨#[97, 108, 101]⟩, ⟨#[98]⟩, ⟨#[99, 45, 99]⟩, ⟨#[100, 97, 114, 107]⟩, ⟨#[120, 57]⟩]
theorem names15_any (w : World) :
    Calls Try.prog 60 #[] w
      fun e w' => e = .returned (.slice (some ⟨w.heap.size, 0, none⟩) 5 5) ∧ w' = w.alloc (.cells (names15.map Value.string).toArray 9) := by
  go_enter Try.func60, Try.ntmps60
  go_wp2_with fail
  go_ret
  exact ⟨rfl, rfl⟩

set_option maxRecDepth 20000 in
set_option maxHeartbeats 2000000 in
theorem some15_any (rb len N : Nat) (v lv : Value) (n : Int) (list : List ByteArray) (w : World) (hR : Rd w rb v len N) (hN : N ≤ 900000) (hl : Ls w lv list) (hll : list.length ≤ 50) (hne : ∀ a m c, lv = .slice (some a) m c → a.block ≠ rb) :
    Calls Try.prog 61 #[.pointer (some ⟨rb, 0, none⟩), lv, .int .i64 n] w
      fun e w' => (∃ (u : Value) (ss : List ByteArray), e = .returned u ∧ OwnT w' w.heap.size u ss ∧ ss.length ≤ list.length ∧ ∀ s ∈ ss, s ∈ list) ∧ Rd w' rb v len (N + 50) ∧ w.grownBy w' (some rb) := by
  obtain ⟨a, c, rfl, -, -, hpos⟩ := hl
  have hrl := hR.lt
  obtain ⟨ii, hi, iz0, iz1, iz2⟩ := info_parts infoStr
  have ho := ownT_lit0 w
  go_enter Try.func61, Try.ntmps61
  go_wp2_with fail
  go_loopw [7, 8] (fun u i w' => ∃ (k : Nat) (ss : List ByteArray), k ≤ list.length ∧ i = .int .i64 k ∧ OwnT w' w.heap.size u ss ∧ ss.length ≤ k ∧ (∀ s ∈ ss, s ∈ list) ∧ Rd w' rb v len (N + k) ∧ w.grownBy w' (some rb)) (fun _ i _ => list.length - (intOf i).toNat)
  case atStart => exact ⟨0, [], by omega, rfl, ho, by simp, fun s hs => by simp at hs, hR.alloc _, grown_alloc (grown_refl _ _) _⟩
  case round =>
    clear ho
    obtain ⟨k, ss, hk, rfl, hown, hsl, hsm, hRk, hGk⟩ := hrel
    have Hsm : Hid (∀ s ∈ ss, s ∈ list) := hsm
    clear hsm
    have hwz := hGk.size
    by_cases hp : k < list.length
    · obtain ⟨lb, lo, rfl, hS, hlb⟩ := hpos (by omega)
      have hne' : lb ≠ rb := hne ⟨lb, lo, none⟩ _ _ rfl
      go_wp2_with fail
      refine (pick_any rb len _ v n _ hRk (by omega)).mono ?_
      rintro e w1 ⟨⟨x, rfl, -, -⟩, hR1, hg1⟩
      have hown1 := own_grown hown hg1 hrl
      have hG1 := grown_trans hGk hg1
      have hz1 := hg1.size
      clear hRk hGk hown hg1
      by_cases hx : x = 0
      · subst hx
        have c0 := hG1.cell (hS.cell hp) (by simpa using hne')
        have Hm : Hid (list[k] ∈ list) := by show _ ∈ _; simp
        generalize list[k] = s0 at *
        have hownA := World.ownsRow.alloc hown1 (.cells #[.string s0] 9)
        go_wp2_with (at_builtin; refine wpList_append_own _ rfl _ _ 23 rfl w.heap.size 9 ii _ 1 16 Try.underlying23 hi iz0 iz1 iz2 rfl (by decide) _ _ _ rfl hownA ⟨w1.heap.size, 0, none⟩ 1 1 [.string s0] rfl rfl (one_new _ _ _) (oneV s0) (by unfold maxLen; omega) (by omega) (by simp; omega) ?_)
        intro v' w2 hown2 hgr2 _
        have hR2 := (hR1.alloc (.cells #[.string s0] 9)).own hownA hgr2 hrl
        have hG2 := grown_own (grown_alloc hG1 (.cells #[.string s0] 9)) hownA hgr2 (Nat.le_refl _)
        have hO2 : OwnT w2 w.heap.size v' (ss ++ [s0]) := by unfold OwnT; simpa using hown2
        clear hownA hgr2 hown2 hown1 hG1 hR1 c0
        go_wp2_with fail
        go_roundw
        case rel => exact ⟨k + 1, ss ++ [s0], by omega, by go_num, hO2, by simp; omega, fun s hs => by
            rcases List.mem_append.1 hs with h | h
            · exact Hsm.out s h
            · obtain rfl : s = s0 := by simpa using h
              exact Hm.out, hR2, hG2⟩
        case measure => simp [intOf]; omega
      · have hx' : (x == 0) = false := by simpa using hx
        go_wp2_with fail
        go_roundw
        case rel => exact ⟨k + 1, ss, by omega, by go_num, hown1, by omega, Hsm.out, hR1, hG1⟩
        case measure => simp [intOf]; omega
    · go_wp2_with fail
      go_ret
      exact ⟨⟨_, ss, rfl, hown, by omega, Hsm.out⟩, hRk.mono (by omega), hGk⟩
end Go.Proofs.Ythpcadlohahblab
