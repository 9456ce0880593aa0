/- The reader of a code: its walks. -/
import Derived.Test.YtliebjbbomghiaaGreatDoorJ8
import Derived.Test.YtliebjbbomghiaaGreatDoorJ40
import Derived.Test.YtliebjbbomghiaaGreatDoorKf
import Derived.Test.YtliebjbbomghiaaGreatDoorC8
namespace Go.Proofs.YtliebjbbomghiaaGreatDoor
open Go.RowKit

set_option maxHeartbeats 2000000 in
theorem pick_any (rb len N : Nat) (v : Value) (n : Int) (w : World) (hR : Rd w rb v len N) (hN : N ≤ 1000000) :
    Calls Tryz.prog 37 #[.pointer (some ⟨rb, 0, none⟩), .int .i64 n] w
      fun e w' => (∃ x : Int, e = .returned (.int .i64 x) ∧ 0 ≤ x ∧ (1 ≤ n → x < n)) ∧ Rd w' rb v len (N + 1) ∧ w.grownBy w' (some rb) := by
  obtain ⟨p, hp, c0, c1, f1, hby, hl⟩ := hR
  have d0 : (w.setCell ⟨rb, 1, none⟩ (.int .i64 ((p : Int) + 1))).cell? ⟨rb, 0, none⟩ = some v := by rw [World.cell?_setCell_other _ _ _ _ (by simp)]; exact c0
  have d1 : (w.setCell ⟨rb, 1, none⟩ (.int .i64 ((p : Int) + 1))).cell? ⟨rb, 1, none⟩ = some (.int .i64 ((p : Int) + 1)) := World.cell?_setCell_same _ _ _ c1
  have d2 : (w.setCell ⟨rb, 1, none⟩ (.int .i64 ((p : Int) + 1))).frozen? ⟨rb, 1, none⟩ = false := by rw [World.frozen?_setCell]; exact f1
  have hg : w.grownBy (w.setCell ⟨rb, 1, none⟩ (.int .i64 ((p : Int) + 1))) (some rb) := grown_setCell (grown_refl _ _) _
  have HR : Hid (Rd (w.setCell ⟨rb, 1, none⟩ (.int .i64 ((p : Int) + 1))) rb v len (N + 1)) := ⟨p + 1, by omega, d0, by simpa using d1, d2, hby.kept hg, hl⟩
  obtain ⟨a, cap, rfl, hby⟩ := hby
  by_cases hn : n < 1
  · go_enter Tryz.func37, Tryz.ntmps37
    go_wp2
    go_ret
    exact ⟨⟨0, rfl, by omega, by omega⟩, HR.out, hg⟩
  by_cases h0 : len = 0
  · subst h0
    go_enter Tryz.func37, Tryz.ntmps37
    go_wp2
    go_ret
    exact ⟨⟨0, rfl, by omega, by omega⟩, HR.out, hg⟩
  rcases hby with h | ⟨b, o, z, rfl, hb, hz⟩
  · exact absurd h h0
  have e0 : ((len : Int) == 0) = false := by simp; omega
  by_cases hpl : p < len
  · obtain ⟨hz1, hz2, hz3⟩ := hz p hpl
    have hz1' := hg.cell hz1 (by simp; omega)
    go_enter Tryz.func37, Tryz.ntmps37
    go_wp2
    go_ret
    exact ⟨⟨_, rfl, Int.emod_nonneg _ (by omega), Int.emod_lt_of_pos _ (by omega)⟩, HR.out, hg⟩
  · obtain ⟨y1, y2, y3⟩ := hz (p % len) (Nat.mod_lt _ (by omega))
    obtain ⟨q1, q2, q3⟩ := hz ((p * 7 + 3) % len) (Nat.mod_lt _ (by omega))
    have y1' := hg.cell y1 (by simp; omega)
    have q1' := hg.cell q1 (by simp; omega)
    have hm1 : p % len < len := Nat.mod_lt _ (by omega)
    have hm2 : (p * 7 + 3) % len < len := Nat.mod_lt _ (by omega)
    have hlen : 0 < len := by omega
    have i1 : (0 : Int) ≤ (p : Int) % (len : Int) := Int.emod_nonneg _ (by omega)
    have i2 : (p : Int) % (len : Int) < (len : Int) := Int.emod_lt_of_pos _ (by omega)
    have i3 : (0 : Int) ≤ ((p : Int) * 7 + 3) % (len : Int) := Int.emod_nonneg _ (by omega)
    have i4 : ((p : Int) * 7 + 3) % (len : Int) < (len : Int) := Int.emod_lt_of_pos _ (by omega)
    have t1 : ((p : Int) % (len : Int)).toNat = p % len := by rw [← Int.natCast_emod]; rfl
    have t2 : (((p : Int) * 7 + 3) % (len : Int)).toNat = (p * 7 + 3) % len := by rw [show ((p : Int) * 7 + 3) = ((p * 7 + 3 : Nat) : Int) by omega, ← Int.natCast_emod]; rfl
    have j1 : (0 : Int) ≤ (p : Int) / (len : Int) := Int.ediv_nonneg (by omega) (by omega)
    have j2 : (p : Int) / (len : Int) ≤ (p : Int) := by rw [← Int.natCast_ediv]; have := Nat.div_le_self p len; omega
    clear hz y1 q1
    go_enter Tryz.func37, Tryz.ntmps37
    go_wp2
    go_quiet (fail)
    obtain ⟨X, hX, hX9⟩ : ∃ X : Nat, z (p % len) * 131 + z ((p * 7 + 3) % len) * 1117 + (p : Int) * 29 + (p : Int) / (len : Int) * 53 = (X : Int) ∧ X ≤ 1000000000 := ⟨(z (p % len) * 131 + z ((p * 7 + 3) % len) * 1117 + (p : Int) * 29 + (p : Int) / (len : Int) * 53).toNat, by omega, by omega⟩
    rw [hX]
    clear hX y1' q1' y2 y3 q2 q3 i1 i2 i3 i4 t1 t2 j1 j2 hm1 hm2
    obtain ⟨x1, x2⟩ := xor_i64 X (X / 64) (by omega) (by omega)
    rw [show ((X / 64 : Nat) : Int) = (X : Int) / 64 by omega] at x1 x2
    go_wp2
    go_ret
    exact ⟨⟨_, rfl, Int.emod_nonneg _ (by omega), fun _ => Int.emod_lt_of_pos _ (by omega)⟩, Rd.drewN HR.out nq, grown_drewN hg nq⟩

theorem of_any (rb len N : Nat) (v : Value) (ss : List ByteArray) (n g o c : Nat) (w : World) (hl : ss.length = n) (hR : Rd w rb v len N) (hN : N ≤ 1000000) (hS : StrsAt w g o ss) (hne : g ≠ rb) (hpos : 0 < n) (hbig : n ≤ 1000) :
    Calls Tryz.prog 39 #[.pointer (some ⟨rb, 0, none⟩), .slice (some ⟨g, o, none⟩) n c] w
      fun e w' => (∃ s ∈ ss, e = .returned (.string s)) ∧ Rd w' rb v len (N + 1) ∧ w.grownBy w' (some rb) := by
  go_enter Tryz.func39, Tryz.ntmps39
  go_wp2_with fail
  refine (pick_any rb len N v _ w hR hN).mono ?_
  rintro e w1 ⟨⟨x, rfl, hx0, hx1⟩, hR1, hg1⟩
  have hx2 := hx1 (by omega)
  obtain ⟨k, rfl⟩ : ∃ k : Nat, x = (k : Int) := ⟨x.toNat, by omega⟩
  have hk : k < n := by omega
  have hcell := (hS.kept hg1 hne) k (ss[k]'(by omega)) (by simp)
  have Hm : Hid (ss[k]'(by omega) ∈ ss) := by show _ ∈ _; simp
  generalize ss[k]'(by omega) = s at *
  clear hx1 hS
  go_wp2_with fail
  go_ret
  exact ⟨⟨s, Hm.out, rfl⟩, hR1, hg1⟩

theorem slot_any (rb len N : Nat) (v : Value) (w : World) (hR : Rd w rb v len N) (hN : N ≤ 1000000) :
    Calls Tryz.prog 99 #[.pointer (some ⟨rb, 0, none⟩)] w
      fun e w' => (∃ s : ByteArray, e = .returned (.string s) ∧ s.size ≤ maxLen) ∧ Rd w' rb v len (N + 1) ∧ w.grownBy w' (some rb) := by
  have hlt := hR.lt
  go_enter Tryz.func99, Tryz.ntmps99
  go_wp2_with fail
  refine (of_any rb len N v slotsL 5 _ 0 _ _ rfl (hR.alloc _) hN (strsAt_alloc w slotsL 9) (by omega) (by omega) (by omega)).mono ?_
  rintro e w1 ⟨⟨s, hs, rfl⟩, hR1, hg1⟩
  go_wp2_with fail
  go_ret
  exact ⟨⟨s, rfl, sz_lit (ss := slotsL) (by decide) s hs⟩, hR1, grown_trans (grown_alloc (grown_refl _ _) _) hg1⟩
end Go.Proofs.YtliebjbbomghiaaGreatDoor

/- Drawing houses: names, things. -/
namespace Go.Proofs.YtliebjbbomghiaaGreatDoor
open Go.RowKit

def names25 : List ByteArray := [⟨#[97, 108, 101]⟩, ⟨#[98]⟩, ⟨#[99, 45, 99]⟩, ⟨#[100, 97, 114, 107]⟩, ⟨#[120, 57]⟩, ⟨#[113]⟩]
theorem names25_any (w : World) : Calls Tryz.prog 97 #[] w fun e w' => e = .returned (.slice (some ⟨w.heap.size, 0, none⟩) 6 6) ∧ w' = w.alloc (.cells (names25.map Value.string).toArray 9) := by
  go_enter Tryz.func97, Tryz.ntmps97
  go_wp2_with fail
  go_ret
  exact ⟨rfl, rfl⟩
def things25 : List ByteArray := [⟨#[106]⟩, ⟨#[107, 101, 103]⟩, ⟨#[116, 49]⟩, ⟨#[116, 50]⟩, ⟨#[118, 97, 116]⟩, ⟨#[119]⟩]
theorem things25_sz : ∀ s ∈ things25, s.size ≤ 20 := by decide
theorem names25_sz : ∀ s ∈ names25, s.size ≤ 20 := by decide
set_option maxRecDepth 20000 in
set_option maxHeartbeats 2000000 in
theorem things25_any (rb len N : Nat) (v : Value) (w : World) (hR : Rd w rb v len N) (hN : N ≤ 900000) :
    Calls Tryz.prog 70 #[.pointer (some ⟨rb, 0, none⟩)] w fun e w' => (∃ u ss, e = .returned u ∧ OwnT w' w.heap.size u ss ∧ ss.length ≤ 6 ∧ ∀ s ∈ ss, s ∈ things25) ∧ Rd w' rb v len (N + 6) ∧ w.grownBy w' (some rb) := by
  have hrl := hR.lt
  obtain ⟨ii, hi, iz0, iz1, iz2⟩ := info_parts infoStr
  have ho := ownT_lit0 w
  go_enter Tryz.func70, Tryz.ntmps70
  go_upto_region 2 with fail
  obtain ⟨W1, hW1, ho1, hR1, hG1, hz1⟩ : ∃ W1, w.alloc (.cells #[] 9) = W1 ∧ OwnT W1 w.heap.size (.slice (some ⟨w.heap.size, 0, none⟩) 0 0) [] ∧ Rd W1 rb v len N ∧ w.grownBy W1 (some rb) ∧ w.heap.size < W1.heap.size := ⟨_, rfl, ho, hR.alloc _, grown_alloc (grown_refl _ _) _, by simp⟩
  try rw [hW1]
  clear hW1 ho hR
  go_upto_region 4 with fail
  obtain ⟨W2, hW2, ho2, hR2, hG2, hS2, hz2⟩ : ∃ W2, W1.alloc (.cells (things25.map Value.string).toArray 9) = W2 ∧ OwnT W2 w.heap.size (.slice (some ⟨w.heap.size, 0, none⟩) 0 0) [] ∧ Rd W2 rb v len N ∧ w.grownBy W2 (some rb) ∧ StrsAt W2 W1.heap.size 0 things25 ∧ W1.heap.size < W2.heap.size := ⟨_, rfl, World.ownsRow.alloc ho1 _, hR1.alloc _, grown_alloc hG1 _, strsAt_alloc _ _ _, by simp⟩
  have e2 : W1.alloc (.cells #[.string ⟨#[106]⟩, .string ⟨#[107, 101, 103]⟩, .string ⟨#[116, 49]⟩, .string ⟨#[116, 50]⟩, .string ⟨#[118, 97, 116]⟩, .string ⟨#[119]⟩] 9) = W2 := hW2
  try rw [e2]
  clear hW2 e2 ho1 hR1 hG1
  have hne : W1.heap.size ≠ rb := by omega
  go_loopw [3, 5] (fun u i w' => ∃ (k : Nat) (ss : List ByteArray), k ≤ 6 ∧ i = .int .i64 k ∧ OwnT w' w.heap.size u ss ∧ ss.length ≤ k ∧ (∀ s ∈ ss, s ∈ things25) ∧ Rd w' rb v len (N + k) ∧ w.grownBy w' (some rb) ∧ StrsAt w' W1.heap.size 0 things25 ∧ W1.heap.size < w'.heap.size ∧ ∀ g, u.ownBlock = some g → some g ≠ some W1.heap.size) (fun _ i _ => 6 - (intOf i).toNat)
  case atStart => exact ⟨0, [], by omega, rfl, ho2, by simp, fun s hs => by simp at hs, hR2, hG2, hS2, hz2, fun g hg e => by simp [Value.ownBlock] at hg e; omega⟩
  case round =>
    clear ho2 hR2 hG2 hS2
    obtain ⟨k, ss, hk, rfl, hown, hsl, hsm, hRk, hGk, hS, hzr, hap⟩ := hrel
    have Hsm : Hid (∀ s ∈ ss, s ∈ things25) := hsm
    clear hsm
    have hwz := hGk.size
    have hl6 : things25.length = 6 := rfl
    by_cases hp : k < 6
    · go_wp2_with fail
      refine (pick_any rb len _ v 8 _ hRk (by omega)).mono ?_
      rintro e w1 ⟨⟨x, rfl, hx0, -⟩, hR1, hg1⟩
      have hown1 := own_grown hown hg1 hrl
      have hG1 := grown_trans hGk hg1
      have hz1 := hg1.size
      have hS1 : StrsAt w1 W1.heap.size 0 things25 := fun i s hs => hg1.cell (hS i s hs) (by simpa using hne)
      clear hRk hGk hown hg1 hS
      by_cases hx : 0 < x
      · have c0 : w1.cell? ⟨W1.heap.size, k, none⟩ = some (.string (things25[k]'(by omega))) := by
          have := hS1 k _ (List.getElem?_eq_getElem (by omega))
          simpa using this
        have Hm : Hid (things25[k]'(by omega) ∈ things25) := List.getElem_mem _
        generalize things25[k]'(by omega) = s0 at *
        have hownA := World.ownsRow.alloc hown1 (.cells #[.string s0] 9)
        have hSA : StrsAt (w1.alloc (.cells #[.string s0] 9)) W1.heap.size 0 things25 := hS1.alloc _
        go_wp2_with (at_builtin; refine wpList_append_at _ rfl _ _ 29 rfl w.heap.size 9 ii _ 1 16 Tryz.underlying29 hi iz0 iz1 iz2 rfl (by decide) _ _ _ rfl hownA ⟨w1.heap.size, 0, none⟩ 1 1 [.string s0] rfl rfl (one_new _ _ _) (oneV s0) (by omega) (by unfold maxLen; omega) (by omega) (by simp; omega) ?_)
        intro v' w2 hown2 hgr2 hwh
        have hR2 := (hR1.alloc (.cells #[.string s0] 9)).own hownA hgr2 hrl
        have hG2 := grown_own (grown_alloc hG1 (.cells #[.string s0] 9)) hownA hgr2 (Nat.le_refl _)
        have hO2 : OwnT w2 w.heap.size v' (ss ++ [s0]) := by unfold OwnT; simpa using hown2
        have hS2 : StrsAt w2 W1.heap.size 0 things25 := fun i s hs => hgr2.cell (hSA i s hs) (fun e => hap W1.heap.size e.symm rfl)
        have hz2' := hgr2.size
        have hap2 : ∀ g, v'.ownBlock = some g → some g ≠ some W1.heap.size := fun g hg e => by
          rcases hwh g hg with h1 | h1
          · exact hap g h1 e
          · simp at h1 e; omega
        have hz3 : W1.heap.size < w2.heap.size := by simp at hz2'; omega
        clear hownA hgr2 hown2 hown1 hG1 hR1 c0 hwh hSA hS1 hz2'
        go_wp2_with fail
        go_roundw
        case rel => exact ⟨k + 1, ss ++ [s0], by omega, by go_num, hO2, by simp; omega, fun s hs => by
            rcases List.mem_append.1 hs with h | h
            · exact Hsm.out s h
            · obtain rfl : s = s0 := by simpa using h
              exact Hm.out, hR2, hG2, hS2, hz3, hap2⟩
        case measure => simp [intOf]; omega
      · go_wp2_with fail
        go_roundw
        case rel => exact ⟨k + 1, ss, by omega, by go_num, hown1, by omega, Hsm.out, hR1, hG1, hS1, by omega, hap⟩
        case measure => simp [intOf]; omega
    · go_wp2_with fail
      go_ret
      exact ⟨⟨_, ss, rfl, hown, by omega, Hsm.out⟩, hRk.mono (by omega), hGk⟩
end Go.Proofs.YtliebjbbomghiaaGreatDoor

/- Drawing houses: a name. -/
namespace Go.Proofs.YtliebjbbomghiaaGreatDoor
open Go.RowKit

/-- A house that can be read whatever the reader does. -/
def HS (rb : Nat) (w : World) (h : House) (tv bv xv dv : Value) : Prop := ∀ w', w.grownBy w' (some rb) → HV w' h tv bv xv dv
theorem HS.v {rb : Nat} {w : World} {h : House} {tv bv xv dv : Value} (H : HS rb w h tv bv xv dv) : HV w h tv bv xv dv := H w (grown_refl _ _)
theorem HS.gr {rb : Nat} {w w' : World} {h : House} {tv bv xv dv : Value} (H : HS rb w h tv bv xv dv) (hg : w.grownBy w' (some rb)) : HS rb w' h tv bv xv dv := fun w2 hg2 => H w2 (grown_trans hg hg2)
theorem HS.up {rb : Nat} {w w' : World} {h : House} {tv bv xv dv : Value} (H : HS rb w h tv bv xv dv) (hb : Below w.heap.size w w') : HS rb w' h tv bv xv dv := H.gr ⟨hb.os, hb.tape, hb.output, hb.size, fun i hi _ => hb.block i hi⟩
theorem HX.hs {rb base : Nat} {w : World} {h : House} {tv bv xv dv : Value} (H : HX w base h tv bv xv dv) (hr : rb < base) : HS rb w h tv bv xv dv := fun _ hg => (H.gr hg hr).v
set_option maxRecDepth 20000 in
set_option maxHeartbeats 4000000 in
theorem batch25_any (rb len N : Nat) (v : Value) (h : House) (tv bv xv dv : Value) (w : World) (hR : Rd w rb v len N) (hN : N ≤ 900000) (H : HS rb w h tv bv xv dv) (hf : Few h) :
    Calls Tryz.prog 98 #[.pointer (some ⟨rb, 0, none⟩), .agg #[.int .i64 h.now, .int .i64 h.last, tv, bv, xv, dv]] w fun e w' => (∃ s, e = .returned (.string s) ∧ s.size ≤ maxLen) ∧ Rd w' rb v len (N + 3) ∧ w.grownBy w' (some rb) := by
  obtain ⟨a1, c1, a2, c2, a3, c3, a4, c4, rfl, rfl, rfl, rfl⟩ := H.v.shapes
  have hn := hf.2.1
  have hb1 : Below w.heap.size w (w.alloc (.cells #[.int .i64 h.now, .int .i64 h.last, .slice a1 h.sh.things.length c1, .slice a2 h.sh.bs.length c2, .slice a3 h.bs.length c3, .slice a4 h.ds.length c4] 99)) := (Below.refl _ _).alloc (Nat.le_refl _) _
  obtain ⟨W1, hW1, kA, hR1, hG1, H1, hz1⟩ : ∃ W1, w.alloc (.cells #[.int .i64 h.now, .int .i64 h.last, .slice a1 h.sh.things.length c1, .slice a2 h.sh.bs.length c2, .slice a3 h.bs.length c3, .slice a4 h.ds.length c4] 99) = W1 ∧ CB W1 w.heap.size [.int .i64 h.now, .int .i64 h.last, .slice a1 h.sh.things.length c1, .slice a2 h.sh.bs.length c2, .slice a3 h.bs.length c3, .slice a4 h.ds.length c4] ∧ Rd W1 rb v len N ∧ w.grownBy W1 (some rb) ∧ HS rb W1 h (.slice a1 h.sh.things.length c1) (.slice a2 h.sh.bs.length c2) (.slice a3 h.bs.length c3) (.slice a4 h.ds.length c4) ∧ w.heap.size < W1.heap.size := ⟨_, rfl, cb_alloc w _ _, hR.alloc _, grown_alloc (grown_refl _ _) _, H.up hb1, by simp⟩
  go_enter Tryz.func98, Tryz.ntmps98
  go_upto_region 1 with fail
  try rw [hW1]
  have hrl0 := hR.lt
  clear hW1 hR H hb1
  obtain ⟨-, -, -, -, e4, -⟩ := kA.c6
  have hrl := hR1.lt
  have hrw : w.heap.size ≠ rb := by omega
  by_cases hp : 0 < h.bs.length
  · go_wp2_with fail
    refine (pick_any rb len _ v 10 _ hR1 (by omega)).mono ?_
    rintro e w1 ⟨⟨x, rfl, hx0, -⟩, hR2, hg2⟩
    have hG2 := grown_trans hG1 hg2
    have hz2 := hg2.size
    have H2 := H1.gr hg2
    have kA2 := kA.kept hg2 (by simpa using hrw)
    clear hR1 hG1 H1 kA hg2 e4
    by_cases hx : 0 < x
    · go_upto_region 2 with fail
      have hRd : Rd w1.drew rb v len (N + 1) := hR2.drew
      have hGd : w.grownBy w1.drew (some rb) := grown_drew hG2
      have Hd := H2.up (Below.refl _ _).drew
      have kAd : CB w1.drew w.heap.size [.int .i64 h.now, .int .i64 h.last, .slice a1 h.sh.things.length c1, .slice a2 h.sh.bs.length c2, .slice a3 h.bs.length c3, .slice a4 h.ds.length c4] := kA2.up (Below.refl _ _).drew kA2.2.2
      refine wp_region_x 99 (fun w' => World.cell? w' ⟨w.heap.size, 4, none⟩ = some (.slice a3 h.bs.length c3)) (by kernel_rfl) ?_
      have hzd : w1.heap.size = w1.drew.heap.size := rfl
      generalize w1.drew = X1 at hRd hGd Hd kAd hzd ⊢
      clear hR2 hG2 H2 kA2
      have hS1 : World.cell? X1 ⟨w.heap.size, 4, none⟩ = some (.slice a3 h.bs.length c3) := kAd.c6.2.2.2.2.1
      refine tkx 0 rfl hS1 ?_
      refine tkx 1 rfl hS1 ?_
      refine tkx 2 rfl hS1 ?_
      refine tkx 3 rfl hS1 ?_
      refine tkx 4 rfl hS1 ?_
      refine tkx 5 rfl hS1 ?_
      refine anyX_one (i := 6) (by kernel_rfl) rfl (fun K hK => ?_)
      go_simp
      go_wp2_with (go_at_call 37; refine (pick_any rb len _ v (h.bs.length : Int) _ hRd (by omega)).mono ?_; rintro e w2 ⟨⟨y, rfl, hy0, hy1⟩, hR3, hg3⟩)
      have hG3 := grown_trans hGd hg3
      have H3 := Hd.gr hg3
      have kA3 := kAd.kept hg3 (by simpa using hrw)
      have hS3 : World.cell? w2 ⟨w.heap.size, 4, none⟩ = some (.slice a3 h.bs.length c3) := kA3.c6.2.2.2.2.1
      have hy2 := hy1 (by omega)
      obtain ⟨j, rfl⟩ : ∃ j : Nat, y = (j : Int) := ⟨y.toNat, by omega⟩
      have hj : j < h.bs.length := by omega
      obtain ⟨-, hpos⟩ := H3.v.x.inv rfl
      obtain ⟨bb, ob, rfl, hSb, hbb⟩ := hpos (by omega)
      obtain ⟨p, q, c, g, r, d, ⟨q0, -⟩, hvv⟩ := (hSb.at hj).open
      have Hzn : Hid ((h.bs[j]).nm.size ≤ maxLen) := hvv.zn
      generalize h.bs[j] = x0 at *
      refine hK.out _ _ (fun _ => hS3) ?_; clear hK K
      refine anyX_one (i := 7) (by kernel_rfl) rfl (fun K hK => ?_)
      go_simp
      refine hK.out _ _ (fun _ => hS3) ?_; clear hK K
      refine anyX_one (i := 8) (by kernel_rfl) rfl (fun K hK => ?_)
      go_simp
      refine hK.out _ _ (fun _ => hS3) ?_; clear hK K
      refine anyX_one (i := 9) (by kernel_rfl) rfl (fun K hK => ?_)
      go_simp
      refine hK.out _ _ (fun _ => hS3) ?_; clear hK K
      refine anyX_one (i := 10) (by kernel_rfl) rfl (fun K hK => ?_)
      go_simp
      refine hK.out _ _ (fun _ => hS3) ?_; clear hK K
      refine anyX_done (by kernel_rfl) ?_ _
      go_wp2_with fail
      go_ret
      exact ⟨⟨x0.nm, rfl, Hzn.out⟩, hR3.mono (by omega), hG3⟩
    · (go_wp2_with (first | (go_at_call 97; refine (names25_any _).mono ?_; rintro e x1 ⟨rfl, rfl⟩) | (go_at_call 39; refine (of_any rb len _ v names25 6 _ 0 6 _ rfl (hR2.alloc (.cells (names25.map Value.string).toArray 9)) (by omega) (strsAt_alloc _ _ _) (by omega) (by omega) (by omega)).mono ?_; rintro e x2 ⟨⟨s, hs, rfl⟩, hR9, hg9⟩)); go_ret; exact ⟨⟨s, rfl, by have := names25_sz s hs; unfold maxLen; omega⟩, hR9.mono (by omega), grown_trans (grown_alloc hG2 _) hg9⟩)
  · have h0 : h.bs.length = 0 := by omega
    clear H1
    (go_wp2_with (first | (go_at_call 97; refine (names25_any _).mono ?_; rintro e x1 ⟨rfl, rfl⟩) | (go_at_call 39; refine (of_any rb len _ v names25 6 _ 0 6 _ rfl (hR1.alloc (.cells (names25.map Value.string).toArray 9)) (by omega) (strsAt_alloc _ _ _) (by omega) (by omega) (by omega)).mono ?_; rintro e x2 ⟨⟨s, hs, rfl⟩, hR9, hg9⟩)); go_ret; exact ⟨⟨s, rfl, by have := names25_sz s hs; unfold maxLen; omega⟩, hR9.mono (by omega), grown_trans (grown_alloc hG1 _) hg9⟩)
end Go.Proofs.YtliebjbbomghiaaGreatDoor
