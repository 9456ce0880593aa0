/- Drawing: any recipe; where from; the draws of the laws. -/
import Derived.Test.YtkfclahdofjhjaaDoorDu
import Derived.OwnWalk
namespace Go.Proofs.YtkfclahdofjhjaaDoor
open Go.RowKit

/-- A recipe that was drawn. -/
def Drawn (w : World) (B : Nat) (u : Value) (qs : List Ph) : Prop := ∃ g cap, u = .slice (some ⟨g, 0, none⟩) qs.length cap ∧ w.ownsRow B 32 8 u qs.length (rowP qs) ∧ qs.length ≤ 13 ∧ ∀ p ∈ qs, p.sz

set_option maxRecDepth 20000 in
set_option maxHeartbeats 2000000 in
theorem anyR_any (rb len N : Nat) (v : Value) (w : World) (hR : Rd w rb v len N) (hN : N ≤ 700000) :
    Calls Tryd.prog 43 #[.pointer (some ⟨rb, 0, none⟩)] w
      fun e w' => (∃ (u : Value) (qs : List Ph), e = .returned u ∧ Drawn w' w.heap.size u qs) ∧ Rd w' rb v len (N + 700) ∧ w.grownBy w' (some rb) := by
  have hlt := hR.lt
  go_enter Tryd.func43, Tryd.ntmps43
  go_wp2_with fail
  refine (recipe_any rb len N v w hR (by omega)).mono ?_
  rintro e w1 ⟨⟨u, ps, rfl, h1, h12, hpz, hown⟩, hR1, hG1⟩
  obtain ⟨g, cap, rfl⟩ := own_ptr2 hown (by omega)
  have hs1 := hG1.size
  clear hR
  go_wp2_with fail
  refine (pick_any rb len _ v 24 _ hR1 (by omega)).mono ?_
  rintro e w2 ⟨⟨x, rfl, hx0, hx1⟩, hR2, hg2⟩
  have hown2 := own_grown hown hg2 hlt
  have hG2 := grown_trans hG1 hg2
  have hs2 := hg2.size
  clear hown hG1 hR1 hg2 hx1
  by_cases hx : x = 0
  · subst hx
    go_wp2_with fail
    refine (spoilR_any rb len _ v ps g cap _ hR2 (by omega) (recAt_own hown2) h1 h12 hpz (hown2.lt g rfl).2).mono ?_
    rintro e w3 ⟨⟨u, qs, rfl, j1, j13, hqz, hown3⟩, hR3, hg3⟩
    obtain ⟨g3, cap3, rfl⟩ := own_ptr2 hown3 (by omega)
    have hG3 := grown_trans hG2 hg3
    clear hg3
    go_wp2_with fail
    go_ret
    exact ⟨⟨_, qs, rfl, g3, cap3, rfl, own_low hown3 (by omega), j13, hqz⟩, hR3.mono (by omega), hG3⟩
  · have hx1 : (x == 0) = false := by simpa using hx
    by_cases hy : x = 1
    · subst hy
      go_wp2_with fail
      go_ret
      exact ⟨⟨_, [], rfl, _, _, rfl, World.ownsRow_lit w2 #[] 0 (by omega) (by unfold maxLen; omega) rfl, by simp, by simp⟩, (hR2.alloc _).mono (by omega), grown_alloc hG2 _⟩
    · have hy1 : (x == 1) = false := by simpa using hy
      go_wp2_with fail
      go_ret
      exact ⟨⟨_, ps, rfl, g, cap, rfl, hown2, by omega, hpz⟩, hR2.mono (by omega), hG2⟩

def fromL : List ByteArray := [⟨#[103, 111, 111, 100]⟩, ⟨#[115, 99, 114, 97, 112, 112, 101, 100]⟩, ⟨#[110, 111, 110, 101]⟩, ⟨#[]⟩]
set_option maxRecDepth 20000 in
set_option maxHeartbeats 2000000 in
theorem from_any (rb len N B : Nat) (v u : Value) (qs : List Ph) (w : World) (hR : Rd w rb v len N) (hN : N ≤ 900000) (hD : Drawn w B u qs) (hB : rb < B) :
    Calls Tryd.prog 52 #[.pointer (some ⟨rb, 0, none⟩), u] w
      fun e w' => (∃ s : ByteArray, e = .returned (.string s) ∧ s.size ≤ maxLen) ∧ Rd w' rb v len (N + 2) ∧ w.grownBy w' (some rb) := by
  obtain ⟨g, cap, rfl, hown, h13, hqz⟩ := hD
  have hlt := hR.lt
  have hgB := (hown.lt g rfl).1
  by_cases h0 : qs.length = 0
  · rw [h0]
    go_enter Tryd.func52, Tryd.ntmps52
    go_wp2_with fail
    refine (of_any rb len N v fromL 4 _ 0 _ _ rfl (hR.alloc _) (by omega) (strsAt_alloc w fromL 9) (by omega) (by omega) (by omega)).mono ?_
    rintro e w1 ⟨⟨s, hs, rfl⟩, hR1, hg1⟩
    have hz : s.size ≤ maxLen := sz_lit (ss := fromL) (by decide) s hs
    have hG1 := grown_trans (grown_alloc (grown_refl w (some rb)) (.cells (fromL.map Value.string).toArray 9)) hg1
    clear hg1
    go_wp2_with fail
    go_ret
    exact ⟨⟨s, rfl, hz⟩, hR1.mono (by omega), hG1⟩
  · have hp : 0 < qs.length := by omega
    go_enter Tryd.func52, Tryd.ntmps52
    go_wp2_with fail
    refine (pick_any rb len _ v 8 _ hR (by omega)).mono ?_
    rintro e w1 ⟨⟨x, rfl, hx0, hx1⟩, hR1, hg1⟩
    have hown1 := own_grown hown hg1 hB
    have hs1 := hg1.size
    clear hown hR hx1
    by_cases hx : 0 < x
    · go_wp2_with fail
      refine (pick_any rb len _ v _ _ hR1 (by omega)).mono ?_
      rintro e w2 ⟨⟨y, rfl, hy0, hy1⟩, hR2, hg2⟩
      have hy2 := hy1 (by omega)
      obtain ⟨k, rfl⟩ : ∃ k : Nat, y = (k : Int) := ⟨y.toNat, by omega⟩
      have hk : k < qs.length := by omega
      have hown2 := own_grown hown1 hg2 hB
      have hG2 := grown_trans hg1 hg2
      obtain ⟨c0, c1, c2, c3, c4, c5, c6, c7⟩ := (recAt_own hown2).cells k hk
      simp only [Nat.zero_add] at c0 c1 c2 c3 c4 c5 c6 c7
      have hz : (qs[k]).nm.size ≤ maxLen := (hqz _ (by simp)).1
      generalize (qs[k]) = p at *
      clear hg2 hg1 hR1 hown1 hy1 c1 c2 c3 c4 c5 c6 c7
      go_wp2_with fail
      go_ret
      exact ⟨⟨_, rfl, hz⟩, hR2.mono (by omega), hG2⟩
    · go_wp2_with fail
      refine (of_any rb len _ v fromL 4 _ 0 _ _ rfl (hR1.alloc _) (by omega) (strsAt_alloc w1 fromL 9) (by omega) (by omega) (by omega)).mono ?_
      rintro e w2 ⟨⟨s, hs, rfl⟩, hR2, hg2⟩
      have hz : s.size ≤ maxLen := sz_lit (ss := fromL) (by decide) s hs
      have hG2 := grown_trans (grown_alloc hg1 (.cells (fromL.map Value.string).toArray 9)) hg2
      clear hg1 hg2
      go_wp2_with fail
      go_ret
      exact ⟨⟨s, rfl, hz⟩, hR2.mono (by omega), hG2⟩

theorem below_of_grown' {a b : World} {rb : Nat} (h : a.grownBy b (some rb)) (hrb : a.heap.size ≤ rb) : Below a.heap.size a b :=
  { os := h.os, tape := h.tape, output := h.output, size := h.size, block := fun i hi => h.block i hi (by simp; omega) }
theorem Drawn.kept {w w' : World} {B rb : Nat} {u : Value} {qs : List Ph} (h : Drawn w B u qs) (hg : w.grownBy w' (some rb)) (hrb : rb < B) : Drawn w' B u qs := by
  obtain ⟨g, cap, rfl, hown, r⟩ := h
  exact ⟨g, cap, rfl, own_grown hown hg hrb, r⟩
theorem Drawn.low {w : World} {B C : Nat} {u : Value} {qs : List Ph} (h : Drawn w B u qs) (hC : C ≤ B) : Drawn w C u qs := by
  obtain ⟨g, cap, rfl, hown, r⟩ := h
  exact ⟨g, cap, rfl, own_low hown hC, r⟩

set_option maxRecDepth 20000 in
set_option maxHeartbeats 2000000 in
theorem drawCan_any (a : Option Addr) (n cap : Nat) (w : World) (h : BytesAt w w.heap.size (.slice a n cap) n) (hcap : n ≤ cap) (hbig : cap ≤ maxLen) :
    Calls Tryd.prog 19 #[.slice a n cap] w
      fun e w' => (∃ (u : Value) (qs : List Ph) (nm : ByteArray) (x : Int), e = .returned (.tuple #[u, .string nm, .int .i64 x]) ∧ Drawn w' w.heap.size u qs ∧ nm.size ≤ maxLen ∧ 0 ≤ x ∧ x < 5) ∧ Below w.heap.size w w' := by
  go_enter Tryd.func19, Tryd.ntmps19
  go_wp2_with fail
  refine (open_any a n cap _ h hcap hbig).mono ?_
  rintro e w1 ⟨⟨rb, len, v, rfl, hR1, hrb⟩, hB1⟩
  have hs1 := hB1.size
  clear h
  go_wp2_with fail
  refine (anyR_any rb len 0 v _ hR1 (by omega)).mono ?_
  rintro e w2 ⟨⟨u, qs, rfl, hD⟩, hR2, hG2⟩
  have hlt := hR1.lt
  clear hR1
  have hDg := hD
  obtain ⟨g, cp, rfl, -, -, -⟩ := hDg
  go_wp2_with fail
  refine (from_any rb len _ w1.heap.size v _ qs _ hR2 (by omega) hD hlt).mono ?_
  rintro e w3 ⟨⟨s, rfl, hs⟩, hR3, hG3⟩
  have hD3 := hD.kept hG3 hlt
  have hG13 := grown_trans hG2 hG3
  clear hR2 hG2 hG3 hD
  go_wp2_with fail
  refine (pick_any rb len _ v 5 _ hR3 (by omega)).mono ?_
  rintro e w4 ⟨⟨x, rfl, hx0, hx1⟩, hR4, hG4⟩
  have hx2 := hx1 (by omega)
  have hD4 := hD3.kept hG4 hlt
  have hG14 := grown_trans hG13 hG4
  clear hR3 hG4 hG13 hD3 hx1
  have hB : Below w.heap.size w w4 := by
    have h1 : w.grownBy w4 (some rb) := grown_trans (grown_below hB1) hG14
    exact below_of_grown' h1 hrb
  go_wp2_with fail
  go_ret3
  exact ⟨⟨_, qs, s, x, rfl, hD4.low (by omega), hs, hx0, hx2⟩, hB⟩

set_option maxRecDepth 20000 in
set_option maxHeartbeats 2000000 in
theorem drawSlots_any (a : Option Addr) (n cap : Nat) (w : World) (h : BytesAt w w.heap.size (.slice a n cap) n) (hcap : n ≤ cap) (hbig : cap ≤ maxLen) :
    Calls Tryd.prog 28 #[.slice a n cap] w
      fun e w' => (∃ (u : Value) (qs : List Ph) (nm : ByteArray), e = .returned (.tuple #[u, .string nm]) ∧ Drawn w' w.heap.size u qs ∧ nm.size ≤ maxLen) ∧ Below w.heap.size w w' := by
  go_enter Tryd.func28, Tryd.ntmps28
  go_wp2_with fail
  refine (open_any a n cap _ h hcap hbig).mono ?_
  rintro e w1 ⟨⟨rb, len, v, rfl, hR1, hrb⟩, hB1⟩
  have hs1 := hB1.size
  clear h
  go_wp2_with fail
  refine (anyR_any rb len 0 v _ hR1 (by omega)).mono ?_
  rintro e w2 ⟨⟨u, qs, rfl, hD⟩, hR2, hG2⟩
  have hlt := hR1.lt
  clear hR1
  have hDg := hD
  obtain ⟨g, cp, rfl, -, -, -⟩ := hDg
  go_wp2_with fail
  refine (from_any rb len _ w1.heap.size v _ qs _ hR2 (by omega) hD hlt).mono ?_
  rintro e w3 ⟨⟨s, rfl, hs⟩, hR3, hG3⟩
  have hD3 := hD.kept hG3 hlt
  have hG13 := grown_trans hG2 hG3
  clear hR2 hG2 hG3 hD
  have hB : Below w.heap.size w w3 := by
    have h1 : w.grownBy w3 (some rb) := grown_trans (grown_below hB1) hG13
    exact below_of_grown' h1 hrb
  go_wp2_with fail
  go_ret2
  exact ⟨⟨_, qs, s, rfl, hD3.low (by omega), hs⟩, hB⟩

theorem drawBound_any (a : Option Addr) (n cap : Nat) (w : World) (h : BytesAt w w.heap.size (.slice a n cap) n) (hcap : n ≤ cap) (hbig : cap ≤ maxLen) :
    Calls Tryd.prog 7 #[.slice a n cap] w
      fun e w' => (∃ (u : Value) (qs : List Ph) (nm : ByteArray), e = .returned (.tuple #[u, .string nm]) ∧ Drawn w' w.heap.size u qs ∧ nm.size ≤ maxLen) ∧ Below w.heap.size w w' := by
  go_enter Tryd.func7, Tryd.ntmps7
  go_wp2_with fail
  refine (drawSlots_any a n cap w h hcap hbig).mono ?_
  rintro e w1 ⟨⟨u, qs, s, rfl, hD, hs⟩, hB1⟩
  go_wp2_with fail
  go_ret2
  exact ⟨⟨_, qs, s, rfl, hD, hs⟩, hB1⟩
end Go.Proofs.YtkfclahdofjhjaaDoor
