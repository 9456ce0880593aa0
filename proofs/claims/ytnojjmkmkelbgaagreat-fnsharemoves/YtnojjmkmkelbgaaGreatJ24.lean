/- Drawing for the share: names, some of a list, things alone. -/
import Derived.Test.YtnojjmkmkelbgaaGreatJ19
import Derived.Test.YtnojjmkmkelbgaaGreatJ22
import Derived.Test.YtnojjmkmkelbgaaGreatJ15
import Derived.Test.YtnojjmkmkelbgaaGreatKt7
import Derived.Test.YtnojjmkmkelbgaaGreatKt8
namespace Go.Proofs.YtnojjmkmkelbgaaGreat
open Go.RowKit

theorem tiny_ok {b : Bk} (h : BookOk b) : Tiny b := by
  obtain ⟨h1, h2, h3⟩ := ok_small h
  exact ⟨by omega, by omega, fun x hx => by have := h3 x hx; omega⟩
def names15 : List ByteArray := [⟨#[97, 108, 101]⟩, ⟨#[98]⟩, ⟨#[99, 45, 99]⟩, ⟨#[100, 97, 114, 107]⟩, ⟨#[120, 57]⟩]
theorem names15_any (w : World) :
    Calls Tryz.prog 67 #[] w
      fun e w' => e = .returned (.slice (some ⟨w.heap.size, 0, none⟩) 5 5) ∧ w' = w.alloc (.cells (names15.map Value.string).toArray 9) := by
  go_enter Tryz.func67, Tryz.ntmps67
  go_wp2_with fail
  go_ret
  exact ⟨rfl, rfl⟩

set_option maxRecDepth 20000 in
set_option maxHeartbeats 2000000 in
theorem some15_any (rb len N : Nat) (v lv : Value) (n : Int) (list : List ByteArray) (w : World) (hR : Rd w rb v len N) (hN : N ≤ 900000) (hl : Ls w lv list) (hll : list.length ≤ 50) (hne : ∀ a m c, lv = .slice (some a) m c → a.block ≠ rb) :
    Calls Tryz.prog 68 #[.pointer (some ⟨rb, 0, none⟩), lv, .int .i64 n] w
      fun e w' => (∃ (u : Value) (ss : List ByteArray), e = .returned u ∧ OwnT w' w.heap.size u ss ∧ ss.length ≤ list.length ∧ ∀ s ∈ ss, s ∈ list) ∧ Rd w' rb v len (N + 50) ∧ w.grownBy w' (some rb) := by
  obtain ⟨a, c, rfl, -, -, hpos⟩ := hl
  have hrl := hR.lt
  obtain ⟨ii, hi, iz0, iz1, iz2⟩ := info_parts infoStr
  have ho := ownT_lit0 w
  go_enter Tryz.func68, Tryz.ntmps68
  go_wp2_with fail
  go_loopw [7, 8] (fun u i w' => ∃ (k : Nat) (ss : List ByteArray), k ≤ list.length ∧ i = .int .i64 k ∧ OwnT w' w.heap.size u ss ∧ ss.length ≤ k ∧ (∀ s ∈ ss, s ∈ list) ∧ Rd w' rb v len (N + k) ∧ w.grownBy w' (some rb)) (fun _ i _ => list.length - (intOf i).toNat)
  case atStart => exact ⟨0, [], by omega, rfl, ho, by simp, fun s hs => by simp at hs, hR.alloc _, grown_alloc (grown_refl _ _) _⟩
  case round =>
    clear ho
    obtain ⟨k, ss, hk, rfl, hown, hsl, hsm, hRk, hGk⟩ := hrel
    have Hsm : Hid (∀ s ∈ ss, s ∈ list) := hsm
    clear hsm
    have hwz := hGk.size
    by_cases hp : k < list.length
    · obtain ⟨lb, lo, rfl, hS, hlb⟩ := hpos (by omega)
      have hne' : lb ≠ rb := hne ⟨lb, lo, none⟩ _ _ rfl
      go_wp2_with fail
      refine (pick15_any rb len _ v n _ hRk (by omega)).mono ?_
      rintro e w1 ⟨⟨x, rfl, -, -⟩, hR1, hg1⟩
      have hown1 := own_grown hown hg1 hrl
      have hG1 := grown_trans hGk hg1
      have hz1 := hg1.size
      clear hRk hGk hown hg1
      by_cases hx : x = 0
      · subst hx
        have c0 := hG1.cell (hS.cell hp) (by simpa using hne')
        have Hm : Hid (list[k] ∈ list) := by show _ ∈ _; simp
        generalize list[k] = s0 at *
        have hownA := World.ownsRow.alloc hown1 (.cells #[.string s0] 9)
        go_wp2_with (at_builtin; refine wpList_append_own _ rfl _ _ 23 rfl w.heap.size 9 ii _ 1 16 Tryz.underlying23 hi iz0 iz1 iz2 rfl (by decide) _ _ _ rfl hownA ⟨w1.heap.size, 0, none⟩ 1 1 [.string s0] rfl rfl (one_new _ _ _) (oneV s0) (by unfold maxLen; omega) (by omega) (by simp; omega) ?_)
        intro v' w2 hown2 hgr2 _
        have hR2 := (hR1.alloc (.cells #[.string s0] 9)).own hownA hgr2 hrl
        have hG2 := grown_own (grown_alloc hG1 (.cells #[.string s0] 9)) hownA hgr2 (Nat.le_refl _)
        have hO2 : OwnT w2 w.heap.size v' (ss ++ [s0]) := by unfold OwnT; simpa using hown2
        clear hownA hgr2 hown2 hown1 hG1 hR1 c0
        go_wp2_with fail
        go_roundw
        case rel => exact ⟨k + 1, ss ++ [s0], by omega, by go_num, hO2, by simp; omega, fun s hs => by
            rcases List.mem_append.1 hs with h | h
            · exact Hsm.out s h
            · obtain rfl : s = s0 := by simpa using h
              exact Hm.out, hR2, hG2⟩
        case measure => simp [intOf]; omega
      · have hx' : (x == 0) = false := by simpa using hx
        go_wp2_with fail
        go_roundw
        case rel => exact ⟨k + 1, ss, by omega, by go_num, hown1, by omega, Hsm.out, hR1, hG1⟩
        case measure => simp [intOf]; omega
    · go_wp2_with fail
      go_ret
      exact ⟨⟨_, ss, rfl, hown, by omega, Hsm.out⟩, hRk.mono (by omega), hGk⟩
end Go.Proofs.YtnojjmkmkelbgaaGreat

/- Drawing for the share: a book with things alone. -/
namespace Go.Proofs.YtnojjmkmkelbgaaGreat
open Go.RowKit

def things15 : List ByteArray := [⟨#[106]⟩, ⟨#[107, 101, 103]⟩, ⟨#[116, 117, 110]⟩, ⟨#[118, 97, 116]⟩, ⟨#[119]⟩]

set_option maxRecDepth 20000 in
set_option maxHeartbeats 4000000 in
theorem base15_any (rb len N : Nat) (v : Value) (w : World) (hR : Rd w rb v len N) (hN : N ≤ 900000) :
    Calls Tryz.prog 46 #[.pointer (some ⟨rb, 0, none⟩)] w
      fun e w' => (∃ (a : Option Addr) (c : Nat) (ss : List ByteArray), e = .returned (.agg #[.slice a ss.length c, .slice none 0 0]) ∧ Dk w' w.heap.size (.agg #[.slice a ss.length c, .slice none 0 0]) ⟨ss, []⟩) ∧ Rd w' rb v len (N + 10) ∧ w.grownBy w' (some rb) := by
  have hrl := hR.lt
  obtain ⟨ii, hi, iz0, iz1, iz2⟩ := info_parts infoStr
  go_enter Tryz.func46, Tryz.ntmps46
  go_upto_region 3 with fail
  obtain ⟨W1, hW1, kR, kQ, hB1, hs1⟩ : ∃ W1, (w.alloc (.cells #[.slice none 0 0, .slice none 0 0] 26)).alloc (.cells #[.slice none 0 0, .slice none 0 0] 26) = W1 ∧ CB W1 w.heap.size [.slice none 0 0, .slice none 0 0] ∧ CB W1 (w.heap.size + 1) [.slice none 0 0, .slice none 0 0] ∧ Below w.heap.size w W1 ∧ W1.heap.size = w.heap.size + 2 := ⟨_, rfl, cb2 w _ _ _ _⟩
  have hR1 : Rd W1 rb v len N := hR.kept hB1
  have hG1 : w.grownBy W1 (some rb) := grown_below hB1
  clear hR hB1
  obtain ⟨W2, hW2, hs2⟩ : ∃ W2, W1.alloc (.cells (things15.map Value.string).toArray 9) = W2 ∧ W2.heap.size = w.heap.size + 3 := ⟨_, rfl, by simp; omega⟩
  have hb2 : Below W1.heap.size W1 W2 := by rw [← hW2]; exact (Below.refl _ _).alloc (Nat.le_refl _) _
  have hS2 : StrsAt W2 (w.heap.size + 2) 0 things15 := by rw [← hW2, ← hs1]; exact strsAt_alloc W1 things15 9
  have hR2 := hR1.kept hb2
  have hG2 := grown_trans hG1 (grown_below hb2)
  have kR2 := kR.up hb2 (by omega)
  have kQ2 := kQ.up hb2 (by omega)
  have hW2' : W1.alloc (.cells #[.string ⟨#[106]⟩, .string ⟨#[107, 101, 103]⟩, .string ⟨#[116, 117, 110]⟩, .string ⟨#[118, 97, 116]⟩, .string ⟨#[119]⟩] 9) = W2 := hW2
  rw [hW1, hW2']
  clear hW1 hW2 hW2' hb2 hR1 hG1 kR kQ hs1
  go_wp2_with fail
  go_loopw [5] (fun i w' => ∃ (k : Nat) (tu : Value) (ss : List ByteArray), k ≤ 5 ∧ i = .int .i64 k ∧ CB w' w.heap.size [.slice none 0 0, .slice none 0 0] ∧ CB w' (w.heap.size + 1) [tu, .slice none 0 0] ∧ OwnT w' (w.heap.size + 3) tu ss ∧ ss.length ≤ k ∧ (∀ s ∈ ss, s.size ≤ maxLen) ∧ StrsAt w' (w.heap.size + 2) 0 things15 ∧ Rd w' rb v len (N + k) ∧ w.grownBy w' (some rb) ∧ w.heap.size + 3 ≤ w'.heap.size) (fun i _ => 5 - (intOf i).toNat)
  case atStart => exact ⟨0, .slice none 0 0, [], by omega, rfl, kR2, kQ2, World.ownsRow_nil _ _ _ _, by simp, fun s hs => by simp at hs, hS2, hR2, hG2, by omega⟩
  case round =>
    clear kR2 kQ2 hS2 hR2 hG2 hs2
    obtain ⟨k, tu, ss, hk, rfl, kR, kQ, hown, hsl, hsz, hSt, hRk, hGk, hwz⟩ := hrel
    have Hsz : Hid (∀ s ∈ ss, s.size ≤ maxLen) := hsz
    clear hsz
    obtain ⟨at1, ct1, rfl⟩ := hown.lst.shape
    by_cases hp : k < 5
    · go_wp2_with fail
      refine (pick15_any rb len _ v 5 _ hRk (by omega)).mono ?_
      rintro e w1 ⟨⟨x, rfl, -, -⟩, hR1, hg1⟩
      have hown1 := own_grown hown hg1 (by omega)
      have hG1 := grown_trans hGk hg1
      have hz1 := hg1.size
      have kR1 := kR.kept hg1 (by simp; omega)
      have kQ1 := kQ.kept hg1 (by simp; omega)
      have hS1 := hSt.kept hg1 (by omega)
      clear hRk hGk hown hg1 kR kQ hSt
      by_cases hx : 0 < x
      · have hk5 : k < things15.length := by simp [things15]; omega
        have c0 := hS1 k things15[k] (by simp [hk5])
        rw [Nat.zero_add] at c0
        have hs0 : (things15[k]).size ≤ maxLen := sz_lit (ss := things15) (by decide) _ (by simp)
        generalize things15[k] = s0 at *
        obtain ⟨⟨z0, z1⟩, g0, g1⟩ := kQ1.c2
        have hq1 : w.heap.size + 1 < w1.heap.size := by omega
        have hq2 : w.heap.size + 2 < w1.heap.size := by omega
        have mk : ∀ W, Below w1.heap.size w1 W → World.cell? W ⟨w.heap.size + 1, 0, none⟩ = some (.slice at1 ss.length ct1) ∧ World.cell? W ⟨w.heap.size + 2, k, none⟩ = some (.string s0) := fun W hb => ⟨(hb.cell (p := ⟨w.heap.size + 1, 0, none⟩) hq1).trans z0, (hb.cell (p := ⟨w.heap.size + 2, k, none⟩) hq2).trans c0⟩
        have hSd := mk w1.drew (Below.refl _ _).drew
        have hSA := mk (w1.drew.alloc (.cells #[.string s0] 9)) ((Below.refl _ _).drew.alloc (Nat.le_refl _) _)
        have hownA := World.ownsRow.alloc (own_drew hown1) (.cells #[.string s0] 9)
        go_wp2_with fail
        refine wp_region_x 9 (fun w' => World.cell? w' ⟨w.heap.size + 1, 0, none⟩ = some (.slice at1 ss.length ct1) ∧ World.cell? w' ⟨w.heap.size + 2, k, none⟩ = some (.string s0)) (by kernel_rfl) ?_
        refine anyX_take (i := 0) (v := ?_) rfl (by kernel_rfl) (by kernel_rfl) (by kernel_rfl) (by kernel_rfl) (fun _ _ _ h => h) (by rfl) hSd ?_ ?_; rotate_left; focus (intro w hSw; (try dsimp only at hSw); go_simp; try with_reducible rfl); (try simp only [Act.put, List.setIfInBounds_toArray, List.set_cons_zero, List.set_cons_succ])
        refine anyX_take (i := 1) (v := ?_) rfl (by kernel_rfl) (by kernel_rfl) (by kernel_rfl) (by kernel_rfl) (fun _ _ _ h => h) (by rfl) hSd ?_ ?_; rotate_left; focus (intro w hSw; (try dsimp only at hSw); go_simp; try with_reducible rfl); (try simp only [Act.put, List.setIfInBounds_toArray, List.set_cons_zero, List.set_cons_succ])
        refine anyX_take (i := 2) (v := ?_) rfl (by kernel_rfl) (by kernel_rfl) (by kernel_rfl) (by kernel_rfl) (fun _ _ _ h => h) (by rfl) hSd ?_ ?_; rotate_left; focus (intro w hSw; (try dsimp only at hSw); go_simp; try with_reducible rfl); (try simp only [Act.put, List.setIfInBounds_toArray, List.set_cons_zero, List.set_cons_succ])
        refine anyX_take (i := 3) (v := ?_) rfl (by kernel_rfl) (by kernel_rfl) (by kernel_rfl) (by kernel_rfl) (fun _ _ _ h => h) (by rfl) hSd ?_ ?_; rotate_left; focus (intro w hSw; (try dsimp only at hSw); go_simp; try with_reducible rfl); (try simp only [Act.put, List.setIfInBounds_toArray, List.set_cons_zero, List.set_cons_succ])
        refine anyX_take (i := 4) (v := ?_) rfl (by kernel_rfl) (by kernel_rfl) (by kernel_rfl) (by kernel_rfl) (fun _ _ _ h => h) (by rfl) hSd ?_ ?_; rotate_left; focus (intro w hSw; (try dsimp only at hSw); go_simp; try with_reducible rfl); (try simp only [Act.put, List.setIfInBounds_toArray, List.set_cons_zero, List.set_cons_succ])
        refine anyX_take (i := 5) (v := ?_) rfl (by kernel_rfl) (by kernel_rfl) (by kernel_rfl) (by kernel_rfl) (fun _ _ _ h => h) (by rfl) hSd ?_ ?_; rotate_left; focus (intro w hSw; (try dsimp only at hSw); go_simp; try with_reducible rfl); (try simp only [Act.put, List.setIfInBounds_toArray, List.set_cons_zero, List.set_cons_succ])
        refine onx 6 rfl (fun K hK => ?_)
        go_simp
        refine gox hK hSA ?_; clear hK K; (try simp only [Act.put, List.setIfInBounds_toArray, List.set_cons_zero, List.set_cons_succ])
        refine onx 7 rfl (fun K hK => ?_)
        refine step_append_own rfl _ _ 23 rfl (w.heap.size + 3) 9 ii _ 1 16 Tryz.underlying23 hi iz0 iz1 iz2 rfl (by decide) _ _ _ rfl hownA ⟨w1.heap.size, 0, none⟩ 1 1 [.string s0] rfl rfl (one_new _ _ _) (oneV s0) (by unfold maxLen; omega) (by omega) (by simp; omega) ?_
        intro v' w2 hown2 hgr2
        have hR2 := ((hR1.drew).alloc (.cells #[.string s0] 9)).own hownA hgr2 (by omega)
        have hG2 := grown_own (grown_alloc (grown_drew hG1) (.cells #[.string s0] 9)) hownA hgr2 (by omega)
        have hba : Below w1.heap.size w1 (w1.drew.alloc (.cells #[.string s0] 9)) := (Below.refl _ _).drew.alloc (Nat.le_refl _) _
        have kR2 := (kR1.up hba (by omega)).kept hgr2 (own_ne hownA (by omega))
        have kQ2 := (kQ1.up hba (by omega)).kept hgr2 (own_ne hownA (by omega))
        have hne2 : some (w.heap.size + 2) ≠ (Value.slice at1 ss.length ct1).ownBlock := own_ne hownA (by omega)
        have hS2 : StrsAt w2 (w.heap.size + 2) 0 things15 := fun i s hs => hgr2.cell ((hba.cell (p := ⟨w.heap.size + 2, 0 + i, none⟩) hq2).trans (hS1 i s hs)) hne2
        have hz2 : w1.heap.size ≤ w2.heap.size := by have := hgr2.size; simp at this; omega
        have hO2 : OwnT w2 (w.heap.size + 3) v' (ss ++ [s0]) := by unfold OwnT; simpa using hown2
        obtain ⟨a2, c2, rfl⟩ := own_shape hown2
        have hSE : World.cell? w2 ⟨w.heap.size + 1, 0, none⟩ = some (.slice at1 ss.length ct1) ∧ World.cell? w2 ⟨w.heap.size + 2, k, none⟩ = some (.string s0) := ⟨kQ2.c2.1.1, by have := hgr2.cell ((hba.cell (p := ⟨w.heap.size + 2, k, none⟩) hq2).trans c0) hne2; exact this⟩
        obtain ⟨⟨y0, y1⟩, f0, f1⟩ := kQ2.c2
        clear hne2 hgr2 hba hownA hown2 hown1 hSA mk
        refine gox hK hSE ?_; clear hK K; (try simp only [Act.put, List.setIfInBounds_toArray])
        refine anyX_take (i := 8) (v := ?_) rfl (by kernel_rfl) (by kernel_rfl) (by kernel_rfl) (by kernel_rfl) (fun _ _ _ h => h) (by rfl) hSE ?_ ?_; rotate_left; focus (intro w hSw; (try dsimp only at hSw); go_simp; try with_reducible rfl); (try simp only [Act.put, List.setIfInBounds_toArray, List.set_cons_zero, List.set_cons_succ])
        refine onx 9 rfl (fun K hK => ?_)
        go_simp
        refine finx hK ?_
        clear hK K
        refine anyX_done (by kernel_rfl) ?_ _
        have hO3 := own_grown hO2 (grown_setCell (rb := w.heap.size + 1) (off := 0) (grown_refl w2 _) (.slice a2 (ss.length + 1) c2)) (by omega)
        have kQ3 : CB (w2.setCell ⟨w.heap.size + 1, 0, none⟩ (.slice a2 (ss.length + 1) c2)) (w.heap.size + 1) [.slice a2 (ss.length + 1) c2, .slice none 0 0] := kQ2.set (j := 0) (by simp)
        have kR3 : CB (w2.setCell ⟨w.heap.size + 1, 0, none⟩ (.slice a2 (ss.length + 1) c2)) w.heap.size [.slice none 0 0, .slice none 0 0] := kR2.other (by omega)
        have hS3 := hS2.other (pb := w.heap.size + 1) (off := 0) (u := .slice a2 (ss.length + 1) c2) (by omega)
        have hR3 := hR2.setCell (pb := w.heap.size + 1) (off := 0) (u := .slice a2 (ss.length + 1) c2) (by omega)
        have hG3 : w.grownBy (w2.setCell ⟨w.heap.size + 1, 0, none⟩ (.slice a2 (ss.length + 1) c2)) (some rb) := grown_setNew hG2 (by omega) _
        clear hS1 hSd hSE y0 y1 f0 f1 z0 z1 g0 g1 c0 hO2 kQ2 kR2 hS2 hR2 hG2 hR1 hG1 kR1 kQ1
        go_wp2_with fail
        go_roundw
        case rel => exact ⟨k + 1, .slice a2 (ss.length + 1) c2, ss ++ [s0], by omega, by go_num, kR3, kQ3, hO3, by simp; omega, fun s hs => by
            rcases List.mem_append.1 hs with h | h
            · exact Hsz.out s h
            · obtain rfl : s = s0 := by simpa using h
              exact hs0, hS3, hR3, hG3, by simp; omega⟩
        case measure => simp [intOf]; omega
      · go_wp2_with fail
        go_roundw
        case rel => exact ⟨k + 1, _, ss, by omega, by go_num, kR1, kQ1, hown1, by omega, Hsz.out, hS1, hR1, hG1, by omega⟩
        case measure => simp [intOf]; omega
    · obtain ⟨⟨z0, z1⟩, -⟩ := kQ.c2
      obtain ⟨⟨y0, y1⟩, f0, f1⟩ := kR.c2
      go_wp2_with fail
      refine end_cb2 Tryz.results46 Tryz.underlying26 rfl sizeBk1 kR rfl ?_
      refine ⟨⟨_, _, ss, rfl, ?_⟩, ((hRk.setCell hrl).setCell hrl).mono (by omega), grown_setNew (grown_setNew hGk (Nat.le_refl _) _) (Nat.le_refl _) _⟩
      refine ⟨BkW.low (BkW.set (BkW.set ⟨_, _, [], rfl, hown, ⟨World.ownsRow_nil _ _ _ _, fun p hp => by simp at hp⟩, rfl⟩ (by omega)) (by omega)) (by omega), ⟨Hsz.out, fun x hx => by simp at hx⟩, ?_⟩
      exact ⟨by show ss.length ≤ 40; omega, by simp, fun x hx => by simp at hx⟩
end Go.Proofs.YtnojjmkmkelbgaaGreat

/- Drawing for the share: one step. -/
namespace Go.Proofs.YtnojjmkmkelbgaaGreat
open Go.RowKit


set_option maxRecDepth 20000 in
set_option maxHeartbeats 4000000 in
theorem step15_any (b : Bk) (v : Value) (kd : Int) (nm : ByteArray) (al : Option Addr) (cl : Nat) (list : List ByteArray) (B : Nat) (w : World) (h : Dk w B v b) (hl : Ls w (.slice al list.length cl) list) (hnm : nm.size ≤ maxLen) (hll : list.length ≤ 1000) :
    Calls Tryz.prog 48 #[v, .agg #[.int .i64 kd, .string nm, .slice al list.length cl]] w
      fun e w' => (∃ (u : Value) (b' : Bk), e = .returned u ∧ Dk w' w.heap.size u b') ∧ Below w.heap.size w w' := by
  have hbk := h.bk
  obtain ⟨-, hz, ht⟩ := h
  obtain ⟨-, hlz, -⟩ := hl.inv
  obtain ⟨a1, c1, a2, c2, rfl, -, -⟩ := hbk.parts
  go_enter Tryz.func48, Tryz.ntmps48
  go_upto_region 1 with fail
  obtain ⟨W1, hW1, kA, kD, kR, hB1, hs1⟩ : ∃ W1, ((w.alloc (.cells #[.slice a1 b.things.length c1, .slice a2 b.bs.length c2] 26)).alloc (.cells #[.int .i64 kd, .string nm, .slice al list.length cl] 82)).alloc (.cells #[.slice none 0 0, .slice none 0 0] 26) = W1 ∧ CB W1 w.heap.size [.slice a1 b.things.length c1, .slice a2 b.bs.length c2] ∧ CB W1 (w.heap.size + 1) [.int .i64 kd, .string nm, .slice al list.length cl] ∧ CB W1 (w.heap.size + 2) [.slice none 0 0, .slice none 0 0] ∧ Below w.heap.size w W1 ∧ W1.heap.size = w.heap.size + 3 := ⟨_, rfl, cb3 w _ _ _ _ _ _⟩
  rw [hW1]
  clear hW1
  have hk := hbk.up hB1
  have hl := hl.up hB1
  clear hbk
  obtain ⟨e0, e1⟩ := kA.c2'
  obtain ⟨⟨d0, d1, d2⟩, -⟩ := kD.c3
  by_cases h1 : kd = 1
  · subst h1
    go_wp2_with fail
    refine (specEnter_any b _ _ nm list _ hk hl hnm (by omega)).mono ?_
    rintro e w2 ⟨⟨v', rfl, hV⟩, hb2⟩
    have Hdk : Hid (Szb (enterB b nm list) ∧ Tiny (enterB b nm list)) := enter_dk hz ht hlz
    generalize enterB b nm list = b' at *
    obtain ⟨a5, c5, a6, c6, qs, rfl, -⟩ := hV.parts; have kA := kA.up hb2 (by omega); have kR := kR.up hb2 (by omega); have hz2 := hb2.size; have hB := up_trans hB1 hb2; clear e0 e1 d0 d1 d2 hb2 kD; obtain ⟨⟨y0, y1⟩, f0, f1⟩ := kA.c2; go_upto_region 9 with fail
    have kA3 := kA.copy2 (.slice a5 (b').things.length c5) (.slice a6 (b').bs.length c6); have kR3 := (kR.other (q := w.heap.size) (j := 0) (u := .slice a5 (b').things.length c5) (by omega)).other (q := w.heap.size) (j := 1) (u := .slice a6 (b').bs.length c6) (by omega); have hV3 := (hV.set (r := w.heap.size) (j := 0) (u := .slice a5 (b').things.length c5) (by omega)).set (r := w.heap.size) (j := 1) (u := .slice a6 (b').bs.length c6) (by omega); have hB3 := below_set2 hB (Nat.le_refl _) (.slice a5 (b').things.length c5) (.slice a6 (b').bs.length c6); clear kA kR hV hB y0 y1 f0 f1
    generalize (w2.setCell ⟨w.heap.size, 0, none⟩ (.slice a5 b'.things.length c5)).setCell ⟨w.heap.size, 1, none⟩ (.slice a6 b'.bs.length c6) = W3 at *
    obtain ⟨⟨y0, y1⟩, -⟩ := kA3.c2; obtain ⟨⟨z0, z1⟩, g0, g1⟩ := kR3.c2; go_wp2_with fail; refine end_cb2 Tryz.results48 Tryz.underlying26 rfl sizeBk1 kR3 rfl ?_
    exact ⟨⟨_, b', rfl, BkW.low (BkW.set (BkW.set hV3 (by omega)) (by omega)) (by omega), Hdk.out⟩, below_set2 hB3 (by omega) _ _⟩
  have h1' : (kd == 1) = false := by simpa using h1
  by_cases h2 : kd = 2
  · subst h2
    go_wp2_with fail
    refine (specAsk_any b _ _ nm list _ hk hl (by omega)).mono ?_
    rintro e w2 ⟨⟨v', cd, b', rfl, hask, hV⟩, hb2⟩
    have Hdk : Hid (Szb b' ∧ Tiny b') := ask_dk hask hz ht hlz
    clear hask
    obtain ⟨a5, c5, a6, c6, qs, rfl, -⟩ := hV.parts; have kA := kA.up hb2 (by omega); have kR := kR.up hb2 (by omega); have hz2 := hb2.size; have hB := up_trans hB1 hb2; clear e0 e1 d0 d1 d2 hb2 kD; obtain ⟨⟨y0, y1⟩, f0, f1⟩ := kA.c2; go_upto_region 9 with fail
    have kA3 := kA.copy2 (.slice a5 (b').things.length c5) (.slice a6 (b').bs.length c6); have kR3 := (kR.other (q := w.heap.size) (j := 0) (u := .slice a5 (b').things.length c5) (by omega)).other (q := w.heap.size) (j := 1) (u := .slice a6 (b').bs.length c6) (by omega); have hV3 := (hV.set (r := w.heap.size) (j := 0) (u := .slice a5 (b').things.length c5) (by omega)).set (r := w.heap.size) (j := 1) (u := .slice a6 (b').bs.length c6) (by omega); have hB3 := below_set2 hB (Nat.le_refl _) (.slice a5 (b').things.length c5) (.slice a6 (b').bs.length c6); clear kA kR hV hB y0 y1 f0 f1
    generalize (w2.setCell ⟨w.heap.size, 0, none⟩ (.slice a5 b'.things.length c5)).setCell ⟨w.heap.size, 1, none⟩ (.slice a6 b'.bs.length c6) = W3 at *
    obtain ⟨⟨y0, y1⟩, -⟩ := kA3.c2; obtain ⟨⟨z0, z1⟩, g0, g1⟩ := kR3.c2; go_wp2_with fail; refine end_cb2 Tryz.results48 Tryz.underlying26 rfl sizeBk1 kR3 rfl ?_
    exact ⟨⟨_, b', rfl, BkW.low (BkW.set (BkW.set hV3 (by omega)) (by omega)) (by omega), Hdk.out⟩, below_set2 hB3 (by omega) _ _⟩
  have h2' : (kd == 2) = false := by simpa using h2
  by_cases h3 : kd = 3
  · subst h3
    go_wp2_with fail
    refine (specLess_any b _ _ nm list _ hk hl (by omega)).mono ?_
    rintro e w2 ⟨⟨v', rfl, hV⟩, hb2⟩
    have Hdk : Hid (Szb (lsnB b nm list) ∧ Tiny (lsnB b nm list)) := less_dk hz ht hlz
    generalize lsnB b nm list = b' at *
    obtain ⟨a5, c5, a6, c6, qs, rfl, -⟩ := hV.parts; have kA := kA.up hb2 (by omega); have kR := kR.up hb2 (by omega); have hz2 := hb2.size; have hB := up_trans hB1 hb2; clear e0 e1 d0 d1 d2 hb2 kD; obtain ⟨⟨y0, y1⟩, f0, f1⟩ := kA.c2; go_upto_region 9 with fail
    have kA3 := kA.copy2 (.slice a5 (b').things.length c5) (.slice a6 (b').bs.length c6); have kR3 := (kR.other (q := w.heap.size) (j := 0) (u := .slice a5 (b').things.length c5) (by omega)).other (q := w.heap.size) (j := 1) (u := .slice a6 (b').bs.length c6) (by omega); have hV3 := (hV.set (r := w.heap.size) (j := 0) (u := .slice a5 (b').things.length c5) (by omega)).set (r := w.heap.size) (j := 1) (u := .slice a6 (b').bs.length c6) (by omega); have hB3 := below_set2 hB (Nat.le_refl _) (.slice a5 (b').things.length c5) (.slice a6 (b').bs.length c6); clear kA kR hV hB y0 y1 f0 f1
    generalize (w2.setCell ⟨w.heap.size, 0, none⟩ (.slice a5 b'.things.length c5)).setCell ⟨w.heap.size, 1, none⟩ (.slice a6 b'.bs.length c6) = W3 at *
    obtain ⟨⟨y0, y1⟩, -⟩ := kA3.c2; obtain ⟨⟨z0, z1⟩, g0, g1⟩ := kR3.c2; go_wp2_with fail; refine end_cb2 Tryz.results48 Tryz.underlying26 rfl sizeBk1 kR3 rfl ?_
    exact ⟨⟨_, b', rfl, BkW.low (BkW.set (BkW.set hV3 (by omega)) (by omega)) (by omega), Hdk.out⟩, below_set2 hB3 (by omega) _ _⟩
  have h3' : (kd == 3) = false := by simpa using h3
  go_wp2_with fail
  refine (specLeave_any b _ nm _ hk).mono ?_
  rintro e w2 ⟨⟨v', rfl, hV⟩, hb2⟩
  have Hdk : Hid (Szb (leaveB b nm) ∧ Tiny (leaveB b nm)) := leave_dk hz ht
  generalize leaveB b nm = b' at *
  obtain ⟨a5, c5, a6, c6, qs, rfl, -⟩ := hV.parts; have kA := kA.up hb2 (by omega); have kR := kR.up hb2 (by omega); have hz2 := hb2.size; have hB := up_trans hB1 hb2; clear e0 e1 d0 d1 d2 hb2 kD; obtain ⟨⟨y0, y1⟩, f0, f1⟩ := kA.c2; go_upto_region 9 with fail
  have kA3 := kA.copy2 (.slice a5 (b').things.length c5) (.slice a6 (b').bs.length c6); have kR3 := (kR.other (q := w.heap.size) (j := 0) (u := .slice a5 (b').things.length c5) (by omega)).other (q := w.heap.size) (j := 1) (u := .slice a6 (b').bs.length c6) (by omega); have hV3 := (hV.set (r := w.heap.size) (j := 0) (u := .slice a5 (b').things.length c5) (by omega)).set (r := w.heap.size) (j := 1) (u := .slice a6 (b').bs.length c6) (by omega); have hB3 := below_set2 hB (Nat.le_refl _) (.slice a5 (b').things.length c5) (.slice a6 (b').bs.length c6); clear kA kR hV hB y0 y1 f0 f1
  generalize (w2.setCell ⟨w.heap.size, 0, none⟩ (.slice a5 b'.things.length c5)).setCell ⟨w.heap.size, 1, none⟩ (.slice a6 b'.bs.length c6) = W3 at *
  obtain ⟨⟨y0, y1⟩, -⟩ := kA3.c2; obtain ⟨⟨z0, z1⟩, g0, g1⟩ := kR3.c2; go_wp2_with fail; refine end_cb2 Tryz.results48 Tryz.underlying26 rfl sizeBk1 kR3 rfl ?_
  exact ⟨⟨_, b', rfl, BkW.low (BkW.set (BkW.set hV3 (by omega)) (by omega)) (by omega), Hdk.out⟩, below_set2 hB3 (by omega) _ _⟩
end Go.Proofs.YtnojjmkmkelbgaaGreat
