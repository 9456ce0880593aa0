/- Drawing for the share: any book, a thing; the draws of two laws. -/
import Derived.Test.YthpcadlohahblabDnb
namespace Go.Proofs.Ythpcadlohahblab
open Go.RowKit


def lits3t : List ByteArray := [⟨#[]⟩, ⟨#[122, 122]⟩, ⟨#[107, 101, 103]⟩]
set_option maxRecDepth 20000 in
set_option maxHeartbeats 4000000 in
theorem any15_any (rb len N : Nat) (v : Value) (w : World) (hR : Rd w rb v len N) (hN : N ≤ 10000) :
    Calls Try.prog 20 #[.pointer (some ⟨rb, 0, none⟩)] w
      fun e w' => (∃ (u : Value) (b : Bk), e = .returned u ∧ DkL w' w.heap.size u b) ∧ Rd w' rb v len (N + 11000) ∧ w.grownBy w' (some rb) := by
  have hrl := hR.lt
  go_enter Try.func20, Try.ntmps20
  go_upto_region 1 with fail
  obtain ⟨W1, hW1, kR, hB1, hs1⟩ : ∃ W1, w.alloc (.cells #[.slice none 0 0, .slice none 0 0] 26) = W1 ∧ CB W1 w.heap.size [.slice none 0 0, .slice none 0 0] ∧ Below w.heap.size w W1 ∧ W1.heap.size = w.heap.size + 1 := ⟨_, rfl, cb1 w _ _⟩
  rw [hW1]
  clear hW1
  have hR1 := hR.kept hB1
  have hs1' : w.heap.size + 1 ≤ W1.heap.size := by omega
  clear hR hs1
  go_wp2_with fail
  refine (book15_any rb len N v _ hR1 (by omega)).mono ?_
  rintro e w2 ⟨⟨u, b, rfl, hD⟩, hR2, hg2⟩
  have kR := kR.kept hg2 (by simp; omega)
  have hG2 := grown_trans (grown_below (r := some rb) hB1) hg2
  have hz2 := hg2.size
  have hD := hD.low hs1'
  obtain ⟨a1, c1, a2, c2, rfl⟩ := hD.parts
  clear hB1 hg2 hR1
  go_upto_region 2 with fail
  obtain ⟨W3, hW3, kX, hb3, hs3⟩ : ∃ W3, w2.alloc (.cells #[.slice a1 b.things.length c1, .slice a2 b.bs.length c2] 26) = W3 ∧ CB W3 w2.heap.size [.slice a1 b.things.length c1, .slice a2 b.bs.length c2] ∧ Below w2.heap.size w2 W3 ∧ W3.heap.size = w2.heap.size + 1 := ⟨_, rfl, cb1 w2 _ _⟩
  rw [hW3]
  have J3 : BJ w W3 rb len (N + 10000) w2.heap.size v (.slice a1 b.things.length c1) (.slice a2 b.bs.length c2) b := ⟨kR.up hb3 kR.2.2, kX, hR2.kept hb3, grown_trans hG2 (grown_below hb3), hD.up hb3, by omega⟩
  clear hW3 kX hb3 hs3 kR hR2 hG2 hD hz2 hs1'
  generalize w2.heap.size = q at *
  go_wp2_with fail
  refine (pick_any rb len _ v 20 _ J3.rd (by omega)).mono ?_
  rintro e w4 ⟨⟨x, rfl, -, -⟩, hR4, hg4⟩
  have hqz := J3.qz
  have J4 : BJ w w4 rb len (N + 10001) q v (.slice a1 b.things.length c1) (.slice a2 b.bs.length c2) b := ⟨J3.r.kept hg4 (by simp; omega), J3.x.kept hg4 (by simp; omega), hR4, grown_trans J3.g hg4, J3.bk.gr hg4 (by omega), J3.qz⟩
  clear J3 hR4 hg4
  obtain ⟨z0, z1⟩ := J4.x.c2'
  by_cases hx : x = 0
  · subst hx
    go_wp2_with fail
    refine (spoil15_any rb len _ (w.heap.size + 1) v _ b _ J4.rd (by omega) J4.bk).mono ?_
    rintro e w5 ⟨⟨u, b', rfl, hD5⟩, hR5, hg5⟩
    have kR := J4.r.kept hg5 (by simp; omega)
    have hG := grown_trans J4.g hg5
    have hrz := J4.r.2.2
    obtain ⟨a3, c3, a4, c4, rfl⟩ := hD5.parts
    clear J4 z0 z1 hg5
    obtain ⟨⟨y0, y1⟩, g0, g1⟩ := kR.c2
    go_wp2_with fail
    refine end_cb2 Try.results20 Try.underlying26 rfl sizeBk1 kR rfl ?_
    exact ⟨⟨_, b', rfl, ((hD5.1.set hrz).set hrz).low (by omega), hD5.2⟩, ((hR5.setCell (by omega)).setCell (by omega)).mono (by omega), grown_setNew (grown_setNew hG (Nat.le_refl _) _) (Nat.le_refl _) _⟩
  have hx' : (x == 0) = false := by simpa using hx
  have kR := J4.r
  obtain ⟨⟨y0, y1⟩, g0, g1⟩ := kR.c2
  go_wp2_with fail
  refine end_cb2 Try.results20 Try.underlying26 rfl sizeBk1 kR rfl ?_
  exact ⟨⟨_, b, rfl, ((J4.bk.loose.1.set (by omega)).set (by omega)).low (by omega), J4.bk.loose.2⟩, ((J4.rd.setCell (by omega)).setCell (by omega)).mono (by omega), grown_setNew (grown_setNew J4.g (Nat.le_refl _) _) (Nat.le_refl _) _⟩

set_option maxRecDepth 20000 in
set_option maxHeartbeats 4000000 in
theorem thing15_any (rb len N B : Nat) (v bkv : Value) (b : Bk) (w : World) (hR : Rd w rb v len N) (hN : N ≤ 100000) (hD : DkL w B bkv b) (hB : rb < B) :
    Calls Try.prog 41 #[.pointer (some ⟨rb, 0, none⟩), bkv] w
      fun e w' => (∃ s : ByteArray, e = .returned (.string s) ∧ s.size ≤ maxLen) ∧ Rd w' rb v len (N + 3) ∧ w.grownBy w' (some rb) := by
  have hrl := hR.lt
  obtain ⟨a1, c1, a2, c2, rfl⟩ := hD.parts
  obtain ⟨⟨tu, bu, ps, hv, o1, -, -⟩, hz, ht, -, -⟩ := id hD
  obtain ⟨rfl, rfl⟩ : tu = .slice a1 b.things.length c1 ∧ bu = .slice a2 b.bs.length c2 := by simp at hv; exact ⟨hv.1.symm, hv.2.symm⟩
  have hz1 := hz.1
  clear hv
  go_enter Try.func41, Try.ntmps41
  go_upto_region 1 with fail
  obtain ⟨W1, hW1, kA, hB1, hs1⟩ : ∃ W1, w.alloc (.cells #[.slice a1 b.things.length c1, .slice a2 b.bs.length c2] 26) = W1 ∧ CB W1 w.heap.size [.slice a1 b.things.length c1, .slice a2 b.bs.length c2] ∧ Below w.heap.size w W1 ∧ W1.heap.size = w.heap.size + 1 := ⟨_, rfl, cb1 w _ _⟩
  rw [hW1]
  have hR1 := hR.kept hB1
  have hG1 : w.grownBy W1 (some rb) := grown_below hB1
  clear hW1 hR hs1 hB1
  go_cut [13] (fun c13 wc => ∃ (M : Nat) (c : Bool), c13 = .bool c ∧ M ≤ N + 1 ∧ (c = true → 0 < b.things.length) ∧ CB wc w.heap.size [.slice a1 b.things.length c1, .slice a2 b.bs.length c2] ∧ Rd wc rb v len M ∧ w.grownBy wc (some rb))
  case first =>
    obtain ⟨z0, z1⟩ := kA.c2'
    by_cases h0 : b.things.length = 0
    · have h0' : ¬ (0 : Int) < (b.things.length : Int) := by omega
      clear h0
      go_wp2_with fail
      go_meet
      case rel => exact ⟨N, false, rfl, by omega, fun h => (by cases h), kA, hR1, hG1⟩
    · have h0' : (0 : Int) < (b.things.length : Int) := by omega
      have Hp0 : Hid (0 < b.things.length) := (by omega : 0 < b.things.length)
      clear h0
      go_wp2_with fail
      refine (pick_any rb len _ v 10 _ hR1 (by omega)).mono ?_
      rintro e w4 ⟨⟨x, rfl, -, -⟩, hR4, hg4⟩
      have kA4 := kA.kept hg4 (by simp; omega)
      have hG4 := grown_trans hG1 hg4
      clear kA hR1 hG1 hg4 z0 z1
      go_wp2_with fail
      go_meet
      case rel => exact ⟨_, _, rfl, by omega, fun _ => Hp0.out, kA4, hR4, hG4⟩
  case rest =>
    obtain ⟨M, c, rfl, hM, hc, kC, hRc, hGc⟩ := hcut
    clear kA hR1 hG1
    cases c
    case true =>
      have hp0 := hc rfl
      clear hc
      have hoT : OwnT wc B (.slice a1 b.things.length c1) b.things := own_grown o1 hGc hB
      obtain ⟨g, cg, hgg⟩ := own_ptr2 hoT hp0
      obtain ⟨rfl, -, rfl⟩ := Value.slice.inj hgg
      have hgB := (World.ownsRow.lt hoT g rfl).1
      have hS1 : World.cell? wc.drew ⟨w.heap.size, 0, none⟩ = some (.slice (some ⟨g, 0, none⟩) b.things.length c1) := kC.c2'.1
      clear hgg
      go_wp2_with fail
      refine wp_region_x 9 (fun w' => World.cell? w' ⟨w.heap.size, 0, none⟩ = some (.slice (some ⟨g, 0, none⟩) b.things.length c1)) (by kernel_rfl) ?_
      refine anyX_take (i := 0) (v := ?_) rfl (by kernel_rfl) (by kernel_rfl) (by kernel_rfl) (by kernel_rfl) (fun _ _ _ h => h) (by rfl) hS1 ?_ ?_; rotate_left; focus (intro w hSw; (try dsimp only at hSw); go_simp; try with_reducible rfl); (try simp only [Act.put, List.setIfInBounds_toArray, List.set_cons_zero, List.set_cons_succ])
      refine anyX_take (i := 1) (v := ?_) rfl (by kernel_rfl) (by kernel_rfl) (by kernel_rfl) (by kernel_rfl) (fun _ _ _ h => h) (by rfl) hS1 ?_ ?_; rotate_left; focus (intro w hSw; (try dsimp only at hSw); go_simp; try with_reducible rfl); (try simp only [Act.put, List.setIfInBounds_toArray, List.set_cons_zero, List.set_cons_succ])
      refine anyX_take (i := 2) (v := ?_) rfl (by kernel_rfl) (by kernel_rfl) (by kernel_rfl) (by kernel_rfl) (fun _ _ _ h => h) (by rfl) hS1 ?_ ?_; rotate_left; focus (intro w hSw; (try dsimp only at hSw); go_simp; try with_reducible rfl); (try simp only [Act.put, List.setIfInBounds_toArray, List.set_cons_zero, List.set_cons_succ])
      refine anyX_take (i := 3) (v := ?_) rfl (by kernel_rfl) (by kernel_rfl) (by kernel_rfl) (by kernel_rfl) (fun _ _ _ h => h) (by rfl) hS1 ?_ ?_; rotate_left; focus (intro w hSw; (try dsimp only at hSw); go_simp; try with_reducible rfl); (try simp only [Act.put, List.setIfInBounds_toArray, List.set_cons_zero, List.set_cons_succ])
      refine anyX_take (i := 4) (v := ?_) rfl (by kernel_rfl) (by kernel_rfl) (by kernel_rfl) (by kernel_rfl) (fun _ _ _ h => h) (by rfl) hS1 ?_ ?_; rotate_left; focus (intro w hSw; (try dsimp only at hSw); go_simp; try with_reducible rfl); (try simp only [Act.put, List.setIfInBounds_toArray, List.set_cons_zero, List.set_cons_succ])
      refine anyX_take (i := 5) (v := ?_) rfl (by kernel_rfl) (by kernel_rfl) (by kernel_rfl) (by kernel_rfl) (fun _ _ _ h => h) (by rfl) hS1 ?_ ?_; rotate_left; focus (intro w hSw; (try dsimp only at hSw); go_simp; try with_reducible rfl); (try simp only [Act.put, List.setIfInBounds_toArray, List.set_cons_zero, List.set_cons_succ])
      refine anyX_one (i := 6) (by kernel_rfl) rfl (fun K hK => ?_)
      go_simp
      go_wp2_with (go_at_call 36; refine (pick_any rb len _ v _ _ hRc.drew (by omega)).mono ?_; rintro e w5 ⟨⟨y, rfl, hy0, hy1⟩, hR5, hg5⟩)
      have hy2 := hy1 (by omega)
      obtain ⟨k, rfl⟩ : ∃ k : Nat, y = (k : Int) := ⟨y.toNat, by omega⟩
      have hk : k < b.things.length := by omega
      have hg5 : wc.grownBy w5 (some rb) := ⟨hg5.os, hg5.tape, hg5.output, hg5.size, hg5.block⟩
      have hS5 : World.cell? w5 ⟨w.heap.size, 0, none⟩ = some (.slice (some ⟨g, 0, none⟩) b.things.length c1) := hg5.cell kC.c2'.1 (by simp; omega)
      have hG5 := grown_trans hGc hg5
      have hoT5 : OwnT w5 B (.slice (some ⟨g, 0, none⟩) b.things.length c1) b.things := own_grown o1 hG5 hB
      have c5 : w5.cell? ⟨g, k, none⟩ = some (.string b.things[k]) := by simpa [hk] using hoT5.cellAt k (by simpa using hk)
      have Hsz : Hid ((b.things[k]).size ≤ maxLen) := hz1 _ (by simp)
      generalize b.things[k] = s at *
      clear hy1 hoT hoT5 hg5 hRc hGc kC
      refine hK.out _ _ (fun _ => hS5) ?_; clear hK K; (try simp only [Act.put, List.setIfInBounds_toArray, List.set_cons_zero, List.set_cons_succ])
      refine anyX_one (i := 7) (by kernel_rfl) rfl (fun K hK => ?_)
      go_simp
      refine hK.out _ _ (fun _ => hS5) ?_; clear hK K; (try simp only [Act.put, List.setIfInBounds_toArray, List.set_cons_zero, List.set_cons_succ])
      refine anyX_one (i := 8) (by kernel_rfl) rfl (fun K hK => ?_)
      go_simp
      refine hK.out _ _ (fun _ => hS5) ?_; clear hK K; (try simp only [Act.put, List.setIfInBounds_toArray, List.set_cons_zero, List.set_cons_succ])
      refine anyX_one (i := 9) (by kernel_rfl) rfl (fun K hK => ?_)
      go_simp
      refine hK.out _ _ (fun h => absurd rfl h) ?_
      clear hK K
      refine anyX_done (by kernel_rfl) ?_ _
      clear hS1 hS5 c5
      go_wp2_with fail
      go_ret
      exact ⟨⟨s, rfl, Hsz.out⟩, hR5.mono (by omega), hG5⟩
    case false =>
      clear hc
      have hltG := hRc.lt
      go_wp2_with fail
      refine (of_any rb len _ v lits3t 3 wc.heap.size 0 3 _ rfl (hRc.alloc _) (by omega) (strsAt_alloc wc lits3t 9) (by omega) (by omega) (by omega)).mono ?_
      rintro e w4 ⟨⟨s, hs, rfl⟩, hR4, hg4⟩
      have hG4 := grown_trans (grown_alloc hGc _) hg4
      have hsz : s.size ≤ maxLen := sz_lit (ss := lits3t) (by decide) s hs
      go_wp2_with fail
      go_ret
      exact ⟨⟨s, rfl, hsz⟩, hR4.mono (by omega), hG4⟩

set_option maxRecDepth 20000 in
set_option maxHeartbeats 4000000 in
theorem drawWho_any (a : Option Addr) (n cap : Nat) (w : World) (h : BytesAt w w.heap.size (.slice a n cap) n) (hcap : n ≤ cap) (hbig : cap ≤ maxLen) :
    Calls Try.prog 16 #[.slice a n cap] w
      fun e w' => (∃ (u : Value) (b : Bk) (s : ByteArray), e = .returned (.tuple #[u, .string s]) ∧ DkL w' w.heap.size u b ∧ s.size ≤ maxLen) ∧ Below w.heap.size w w' := by
  go_enter Try.func16, Try.ntmps16
  go_upto_region 1 with fail
  obtain ⟨W1, hW1, kR, hB1, hs1⟩ : ∃ W1, w.alloc (.cells #[.slice none 0 0, .slice none 0 0] 26) = W1 ∧ CB W1 w.heap.size [.slice none 0 0, .slice none 0 0] ∧ Below w.heap.size w W1 ∧ W1.heap.size = w.heap.size + 1 := ⟨_, rfl, cb1 w _ _⟩
  rw [hW1]
  clear hW1
  go_wp2_with fail
  refine (open_any a n cap _ (h.up hB1 (by omega)) hcap hbig).mono ?_
  rintro e w2 ⟨⟨rb, len, v, rfl, hR2, hrb⟩, hb2⟩
  have kR := kR.up hb2 (by omega)
  have hB2 := up_trans hB1 hb2
  have hrb' : w.heap.size + 1 ≤ rb := by omega
  have hrl := hR2.lt
  clear hB1 hb2 hs1 hrb
  go_wp2_with fail
  refine (any15_any rb len 0 v _ hR2 (by omega)).mono ?_
  rintro e w3 ⟨⟨u, b, rfl, hD⟩, hR3, hg3⟩
  have kR := kR.kept hg3 (by simp; omega)
  have hB3 := below_gr hB2 hg3 (by omega)
  have hz3 := hg3.size
  obtain ⟨a1, c1, a2, c2, rfl⟩ := hD.parts
  clear hB2 hg3 hR2
  go_upto_region 3 with fail
  obtain ⟨W4, hW4, kX, hb4, hs4⟩ : ∃ W4, w3.alloc (.cells #[.slice a1 b.things.length c1, .slice a2 b.bs.length c2] 26) = W4 ∧ CB W4 w3.heap.size [.slice a1 b.things.length c1, .slice a2 b.bs.length c2] ∧ Below w3.heap.size w3 W4 ∧ W4.heap.size = w3.heap.size + 1 := ⟨_, rfl, cb1 w3 _ _⟩
  rw [hW4]
  have kR := kR.up hb4 kR.2.2
  have hB4 := up_trans hB3 hb4
  have hD4 := hD.up hb4
  have hR4 := hR3.kept hb4
  clear hW4 hB3 hb4 hs4 hD hR3
  have hqz : w.heap.size + 1 ≤ w3.heap.size := by omega
  generalize w3.heap.size = q at *
  go_wp2_with fail
  have hS1 : World.cell? W4.drew ⟨q, 0, none⟩ = some (.slice a1 b.things.length c1) ∧ World.cell? W4.drew ⟨q, 1, none⟩ = some (.slice a2 b.bs.length c2) := kX.c2'
  refine wp_region_x 5 (fun w' => World.cell? w' ⟨q, 0, none⟩ = some (.slice a1 b.things.length c1) ∧ World.cell? w' ⟨q, 1, none⟩ = some (.slice a2 b.bs.length c2)) (by kernel_rfl) ?_
  refine anyX_take (i := 0) (v := ?_) rfl (by kernel_rfl) (by kernel_rfl) (by kernel_rfl) (by kernel_rfl) (fun _ _ _ h => h) (by rfl) hS1 ?_ ?_; rotate_left; focus (intro w hSw; (try dsimp only at hSw); go_simp; try with_reducible rfl); (try simp only [Act.put, List.setIfInBounds_toArray, List.set_cons_zero, List.set_cons_succ])
  refine anyX_take (i := 1) (v := ?_) rfl (by kernel_rfl) (by kernel_rfl) (by kernel_rfl) (by kernel_rfl) (fun _ _ _ h => h) (by rfl) hS1 ?_ ?_; rotate_left; focus (intro w hSw; (try dsimp only at hSw); go_simp; try with_reducible rfl); (try simp only [Act.put, List.setIfInBounds_toArray, List.set_cons_zero, List.set_cons_succ])
  refine anyX_take (i := 2) (v := ?_) rfl (by kernel_rfl) (by kernel_rfl) (by kernel_rfl) (by kernel_rfl) (fun _ _ _ h => h) (by rfl) hS1 ?_ ?_; rotate_left; focus (intro w hSw; (try dsimp only at hSw); go_simp; try with_reducible rfl); (try simp only [Act.put, List.setIfInBounds_toArray, List.set_cons_zero, List.set_cons_succ])
  refine anyX_one (i := 3) (by kernel_rfl) rfl (fun K hK => ?_)
  go_simp
  go_wp2_with (go_at_call 41; refine (thing15_any rb len _ w2.heap.size v _ b _ hR4.drew (by omega) (hD4.up (Below.refl _ _).drew) hrl).mono ?_; rintro e w5 ⟨⟨s, rfl, hsz⟩, hR5, hg5⟩)
  have hg5 : W4.grownBy w5 (some rb) := ⟨hg5.os, hg5.tape, hg5.output, hg5.size, hg5.block⟩
  have kX5 := kX.kept hg5 (by simp; omega)
  have kR5 := kR.kept hg5 (by simp; omega)
  have hS5 : World.cell? w5 ⟨q, 0, none⟩ = some (.slice a1 b.things.length c1) ∧ World.cell? w5 ⟨q, 1, none⟩ = some (.slice a2 b.bs.length c2) := kX5.c2'
  have hD5 := hD4.gr hg5 hrl
  have hB5 := below_gr hB4 hg5 (by omega)
  have Hsz : Hid (s.size ≤ maxLen) := hsz
  clear hsz hg5 hR5 hR4 hD4 hB4 kX
  refine hK.out _ _ (fun _ => hS5) ?_; clear hK K; (try simp only [Act.put, List.setIfInBounds_toArray, List.set_cons_zero, List.set_cons_succ])
  obtain ⟨⟨y0, y1⟩, g0, g1⟩ := kR5.c2
  have kX6 := (kX5.other (q := w.heap.size) (j := 0) (u := .slice a1 b.things.length c1) (by omega)).other (q := w.heap.size) (j := 1) (u := .slice a2 b.bs.length c2) (by omega)
  have hS6 : World.cell? ((w5.setCell ⟨w.heap.size, 0, none⟩ (.slice a1 b.things.length c1)).setCell ⟨w.heap.size, 1, none⟩ (.slice a2 b.bs.length c2)) ⟨q, 0, none⟩ = some (.slice a1 b.things.length c1) ∧ World.cell? ((w5.setCell ⟨w.heap.size, 0, none⟩ (.slice a1 b.things.length c1)).setCell ⟨w.heap.size, 1, none⟩ (.slice a2 b.bs.length c2)) ⟨q, 1, none⟩ = some (.slice a2 b.bs.length c2) := kX6.c2'
  refine anyX_one (i := 4) (by kernel_rfl) rfl (fun K hK => ?_)
  go_simp
  refine hK.out _ _ (fun _ => hS6) ?_; clear hK K; (try simp only [Act.put, List.setIfInBounds_toArray, List.set_cons_zero, List.set_cons_succ])
  refine anyX_one (i := 5) (by kernel_rfl) rfl (fun K hK => ?_)
  go_simp
  refine hK.out _ _ (fun h => absurd rfl h) ?_
  clear hK K
  refine anyX_done (by kernel_rfl) ?_ _
  clear hS1 hS5 hS6 kX5 kX6
  go_wp2_with fail
  refine end_cb2b Try.results16 Try.underlying26 rfl sizeBk1 kR5 rfl rfl ?_
  exact ⟨⟨_, b, s, rfl, ⟨((hD5.1.set (by omega)).set (by omega)).low (by omega), hD5.2⟩, Hsz.out⟩, below_set2 hB5 (Nat.le_refl _) _ _⟩

set_option maxRecDepth 20000 in
set_option maxHeartbeats 4000000 in
theorem drawOrder_any (a : Option Addr) (n cap : Nat) (w : World) (h : BytesAt w w.heap.size (.slice a n cap) n) (hcap : n ≤ cap) (hbig : cap ≤ maxLen) :
    Calls Try.prog 5 #[.slice a n cap] w
      fun e w' => (∃ (u : Value) (b : Bk), e = .returned u ∧ DkL w' w.heap.size u b) ∧ Below w.heap.size w w' := by
  go_enter Try.func5, Try.ntmps5
  go_upto_region 1 with fail
  obtain ⟨W1, hW1, kR, hB1, hs1⟩ : ∃ W1, w.alloc (.cells #[.slice none 0 0, .slice none 0 0] 26) = W1 ∧ CB W1 w.heap.size [.slice none 0 0, .slice none 0 0] ∧ Below w.heap.size w W1 ∧ W1.heap.size = w.heap.size + 1 := ⟨_, rfl, cb1 w _ _⟩
  rw [hW1]
  clear hW1
  go_wp2_with fail
  refine (open_any a n cap _ (h.up hB1 (by omega)) hcap hbig).mono ?_
  rintro e w2 ⟨⟨rb, len, v, rfl, hR2, hrb⟩, hb2⟩
  have kR := kR.up hb2 (by omega)
  have hB2 := up_trans hB1 hb2
  have hrb' : w.heap.size + 1 ≤ rb := by omega
  have hrl := hR2.lt
  clear hB1 hb2 hs1 hrb
  go_wp2_with fail
  refine (any15_any rb len 0 v _ hR2 (by omega)).mono ?_
  rintro e w3 ⟨⟨u, b, rfl, hD⟩, hR3, hg3⟩
  have kR := kR.kept hg3 (by simp; omega)
  have hB3 := below_gr hB2 hg3 (by omega)
  obtain ⟨a1, c1, a2, c2, rfl⟩ := hD.parts
  clear hB2 hg3 hR2
  obtain ⟨⟨y0, y1⟩, g0, g1⟩ := kR.c2
  go_wp2_with fail
  refine end_cb2 Try.results5 Try.underlying26 rfl sizeBk1 kR rfl ?_
  exact ⟨⟨_, b, rfl, ((hD.1.set (by omega)).set (by omega)).low (by omega), hD.2⟩, below_set2 hB3 (Nat.le_refl _) _ _⟩
end Go.Proofs.Ythpcadlohahblab
