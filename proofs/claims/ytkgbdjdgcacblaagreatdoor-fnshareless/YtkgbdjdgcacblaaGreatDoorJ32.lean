/- Drawing for the share: a book; a thing; the draws of the laws. -/
import Derived.Test.YtkgbdjdgcacblaaGreatDoorDna
import Derived.Test.YtkgbdjdgcacblaaGreatDoorDn8
import Derived.Test.YtkgbdjdgcacblaaGreatDoorDn6
import Derived.Test.YtkgbdjdgcacblaaGreatDoorDn4
namespace Go.Proofs.YtkgbdjdgcacblaaGreatDoor
open Go.RowKit

/-- What lies where while a book is drawn: the result's block, the book's. -/
structure BJ (w W : World) (rb len N q : Nat) (v tv xv : Value) (b : Bk) : Prop where
  r : CB W w.heap.size [.slice none 0 0, .slice none 0 0]
  x : CB W q [tv, xv]
  rd : Rd W rb v len N
  g : w.grownBy W (some rb)
  bk : Dk W (w.heap.size + 1) (.agg #[tv, xv]) b
  qz : w.heap.size + 1 ≤ q
theorem Dk.parts {w : World} {base : Nat} {v : Value} {b : Bk} (h : Dk w base v b) : ∃ a1 c1 a2 c2, v = .agg #[.slice a1 b.things.length c1, .slice a2 b.bs.length c2] := by
  obtain ⟨a1, c1, a2, c2, _, e, _⟩ := h.1.parts
  exact ⟨a1, c1, a2, c2, e⟩
theorem DkL.parts {w : World} {base : Nat} {v : Value} {b : Bk} (h : DkL w base v b) : ∃ a1 c1 a2 c2, v = .agg #[.slice a1 b.things.length c1, .slice a2 b.bs.length c2] := by
  obtain ⟨a1, c1, a2, c2, _, e, _⟩ := h.1.parts
  exact ⟨a1, c1, a2, c2, e⟩

set_option maxRecDepth 20000 in
set_option maxHeartbeats 4000000 in
theorem book15_any (rb len N : Nat) (v : Value) (w : World) (hR : Rd w rb v len N) (hN : N ≤ 10000) :
    Calls Tryz.prog 37 #[.pointer (some ⟨rb, 0, none⟩)] w
      fun e w' => (∃ (u : Value) (b : Bk), e = .returned u ∧ Dk w' w.heap.size u b) ∧ Rd w' rb v len (N + 10000) ∧ w.grownBy w' (some rb) := by
  have hrl := hR.lt
  go_enter Tryz.func37, Tryz.ntmps37
  go_upto_region 1 with fail
  obtain ⟨W1, hW1, kR, hB1, hs1⟩ : ∃ W1, w.alloc (.cells #[.slice none 0 0, .slice none 0 0] 26) = W1 ∧ CB W1 w.heap.size [.slice none 0 0, .slice none 0 0] ∧ Below w.heap.size w W1 ∧ W1.heap.size = w.heap.size + 1 := ⟨_, rfl, cb1 w _ _⟩
  rw [hW1]
  clear hW1
  have hR1 := hR.kept hB1
  have hs1' : w.heap.size + 1 ≤ W1.heap.size := by omega
  clear hR hs1
  go_wp2_with fail
  refine (base15_any rb len N v _ hR1 (by omega)).mono ?_
  rintro e w2 ⟨⟨a1, c1, ts, rfl, hD⟩, hR2, hg2⟩
  have kR := kR.kept hg2 (by simp; omega)
  have hG2 := grown_trans (grown_below (r := some rb) hB1) hg2
  have hz2 := hg2.size
  have hD : Dk w2 (w.heap.size + 1) (.agg #[.slice a1 ts.length c1, .slice none 0 0]) ⟨ts, []⟩ := hD.low hs1'
  clear hB1 hg2 hR1
  go_upto_region 2 with fail
  obtain ⟨W3, hW3, kX, hb3, hs3⟩ : ∃ W3, w2.alloc (.cells #[.slice a1 ts.length c1, .slice none 0 0] 26) = W3 ∧ CB W3 w2.heap.size [.slice a1 ts.length c1, .slice none 0 0] ∧ Below w2.heap.size w2 W3 ∧ W3.heap.size = w2.heap.size + 1 := ⟨_, rfl, cb1 w2 _ _⟩
  rw [hW3]
  have J3 : BJ w W3 rb len (N + 10) w2.heap.size v (.slice a1 ts.length c1) (.slice none 0 0) ⟨ts, []⟩ := ⟨kR.up hb3 kR.2.2, kX, hR2.kept hb3, grown_trans hG2 (grown_below hb3), hD.up hb3, by omega⟩
  clear hW3 kX hb3 hs3 kR hR2 hG2 hD hz2 hs1'
  generalize w2.heap.size = q at *
  go_wp2_with fail
  refine (pick_any rb len _ v 3 _ J3.rd (by omega)).mono ?_
  rintro e w4 ⟨⟨x, rfl, -, -⟩, hR4, hg4⟩
  have hqz := J3.qz
  have J4 : BJ w w4 rb len (N + 11) q v (.slice a1 ts.length c1) (.slice none 0 0) ⟨ts, []⟩ := ⟨J3.r.kept hg4 (by simp; omega), J3.x.kept hg4 (by simp; omega), hR4, grown_trans J3.g hg4, J3.bk.gr hg4 (by omega), J3.qz⟩
  clear J3 hR4 hg4
  by_cases hx : x = 0
  · subst hx
    obtain ⟨z0, z1⟩ := J4.x.c2'
    obtain ⟨⟨tu, bu, ps, hv, o1, -, -⟩, hz, ht, -, -⟩ := J4.bk
    obtain ⟨rfl, rfl⟩ : tu = .slice a1 ts.length c1 ∧ bu = .slice none 0 0 := by simp at hv; exact ⟨hv.1.symm, hv.2.symm⟩
    go_wp2_with fail
    refine (wild15_any rb len _ (w.heap.size + 1) v a1 c1 ts _ J4.rd (by omega) o1 hz.1 ht (by omega) J4.r.2.2).mono ?_
    rintro e w5 ⟨⟨u, b, rfl, hD5⟩, hR5, hg5⟩
    have kR := J4.r.kept hg5 (by simp; omega)
    have hG := grown_trans J4.g hg5
    obtain ⟨a3, c3, a4, c4, rfl⟩ := hD5.parts
    clear J4 z0 z1 hg5
    obtain ⟨⟨y0, y1⟩, g0, g1⟩ := kR.c2
    go_wp2_with fail
    refine end_cb2 Tryz.results37 Tryz.underlying26 rfl sizeBk1 kR rfl ?_
    exact ⟨⟨_, b, rfl, ((hD5.1.set (by omega)).set (by omega)).low (by omega), hD5.2⟩, ((hR5.setCell (by omega)).setCell (by omega)).mono (by omega), grown_setNew (grown_setNew hG (Nat.le_refl _) _) (Nat.le_refl _) _⟩
  have hx' : (x == 0) = false := by simpa using hx
  go_wp2_with fail
  refine (pick_any rb len _ v 24 _ J4.rd (by omega)).mono ?_
  rintro e w5 ⟨⟨n, rfl, hn0, hn1⟩, hR5, hg5⟩
  have hn2 := hn1 (by omega)
  obtain ⟨m, rfl⟩ : ∃ m : Nat, n = (m : Int) := ⟨n.toNat, by omega⟩
  have J5 : BJ w w5 rb len (N + 12) q v (.slice a1 ts.length c1) (.slice none 0 0) ⟨ts, []⟩ := ⟨J4.r.kept hg5 (by simp; omega), J4.x.kept hg5 (by simp; omega), hR5, grown_trans J4.g hg5, J4.bk.gr hg5 (by omega), J4.qz⟩
  clear J4 hR5 hg5 hn0 hn1 hx'
  go_wp2_with fail
  go_loopw [4] (fun i w' => ∃ (k : Nat) (a1 : Option Addr) (c1 : Nat) (a2 : Option Addr) (c2 : Nat) (b : Bk), k ≤ m ∧ i = .int .i64 k ∧ BJ w w' rb len (N + 12 + 200 * (m - k)) q v (.slice a1 b.things.length c1) (.slice a2 b.bs.length c2) b) (fun i _ => (intOf i).toNat)
  case atStart => exact ⟨m, _, _, _, _, ⟨ts, []⟩, by omega, rfl, by simpa using J5⟩
  case round =>
    clear J5
    obtain ⟨k, a1, c1, a2, c2, b, hk, rfl, J⟩ := hrel
    by_cases hp : 0 < k
    · have hp' : (0 : Int) < (k : Int) := by omega
      have hS1 : World.cell? wr.drew ⟨q, 0, none⟩ = some (.slice a1 b.things.length c1) ∧ World.cell? wr.drew ⟨q, 1, none⟩ = some (.slice a2 b.bs.length c2) := J.x.c2'
      have Hm : Hid (200 * (m - (k - 1)) = 200 * (m - k) + 200) := by show _ = _; omega
      have hbig : N + 12 + 200 * (m - k) ≤ 800000 := by omega
      go_wp2_with fail
      refine wp_region_x 5 (fun w' => World.cell? w' ⟨q, 0, none⟩ = some (.slice a1 b.things.length c1) ∧ World.cell? w' ⟨q, 1, none⟩ = some (.slice a2 b.bs.length c2)) (by kernel_rfl) ?_
      refine anyX_take (i := 0) (v := ?_) rfl (by kernel_rfl) (by kernel_rfl) (by kernel_rfl) (by kernel_rfl) (fun _ _ _ h => h) (by rfl) hS1 ?_ ?_; rotate_left; focus (intro w hSw; (try dsimp only at hSw); go_simp; try with_reducible rfl); (try simp only [Act.put, List.setIfInBounds_toArray, List.set_cons_zero, List.set_cons_succ])
      refine anyX_take (i := 1) (v := ?_) rfl (by kernel_rfl) (by kernel_rfl) (by kernel_rfl) (by kernel_rfl) (fun _ _ _ h => h) (by rfl) hS1 ?_ ?_; rotate_left; focus (intro w hSw; (try dsimp only at hSw); go_simp; try with_reducible rfl); (try simp only [Act.put, List.setIfInBounds_toArray, List.set_cons_zero, List.set_cons_succ])
      refine anyX_take (i := 2) (v := ?_) rfl (by kernel_rfl) (by kernel_rfl) (by kernel_rfl) (by kernel_rfl) (fun _ _ _ h => h) (by rfl) hS1 ?_ ?_; rotate_left; focus (intro w hSw; (try dsimp only at hSw); go_simp; try with_reducible rfl); (try simp only [Act.put, List.setIfInBounds_toArray, List.set_cons_zero, List.set_cons_succ])
      refine anyX_one (i := 3) (by kernel_rfl) rfl (fun K hK => ?_)
      go_simp
      go_wp2_with (go_at_call 30; refine (does15_any rb len _ (w.heap.size + 1) v _ b _ J.rd.drew hbig (J.bk.up (Below.refl _ _).drew).loose (by omega)).mono ?_; rintro e w6 ⟨⟨kd, nm, al, cl, list, rfl, hol, hnz, hlz, hll⟩, hR6, hg6⟩)
      have hg6 : wr.grownBy w6 (some rb) := ⟨hg6.os, hg6.tape, hg6.output, hg6.size, hg6.block⟩
      have J6 : BJ w w6 rb len (N + 12 + 200 * (m - k) + 200) q v (.slice a1 b.things.length c1) (.slice a2 b.bs.length c2) b := ⟨J.r.kept hg6 (by simp; omega), J.x.kept hg6 (by simp; omega), hR6, grown_trans J.g hg6, J.bk.gr hg6 (by omega), J.qz⟩
      have hS6 : World.cell? w6 ⟨q, 0, none⟩ = some (.slice a1 b.things.length c1) ∧ World.cell? w6 ⟨q, 1, none⟩ = some (.slice a2 b.bs.length c2) := J6.x.c2'
      have hLl := hol.lst.ls hlz
      clear J hR6 hg6 hS1 hol hlz hbig
      refine hK.out _ _ (fun _ => hS6) ?_; clear hK K; (try simp only [Act.put, List.setIfInBounds_toArray, List.set_cons_zero, List.set_cons_succ])
      refine anyX_one (i := 4) (by kernel_rfl) rfl (fun K hK => ?_)
      go_simp
      go_wp2_with (go_at_call 57; refine (step15_any b _ kd nm al cl list (w.heap.size + 1) _ J6.bk hLl hnz (by omega)).mono ?_; rintro e w7 ⟨⟨u, b', rfl, hD7⟩, hb7⟩)
      obtain ⟨a3, c3, a4, c4, rfl⟩ := hD7.parts
      have hS7 : World.cell? w7 ⟨q, 0, none⟩ = some (.slice a1 b.things.length c1) ∧ World.cell? w7 ⟨q, 1, none⟩ = some (.slice a2 b.bs.length c2) := ⟨(hb7.cell (p := ⟨q, 0, none⟩) J6.x.2.2).trans hS6.1, (hb7.cell (p := ⟨q, 1, none⟩) J6.x.2.2).trans hS6.2⟩
      have kR7 := J6.r.up hb7 J6.r.2.2
      have kX7 := J6.x.up hb7 J6.x.2.2
      have hqz6 := J6.x.2.2
      have hrz := J6.r.2.2
      have hR7 := J6.rd.kept hb7
      have hG7 := grown_trans J6.g (grown_below hb7)
      clear J6 hS6 hLl hb7
      refine hK.out _ _ (fun _ => hS7) ?_; clear hK K; (try simp only [Act.put, List.setIfInBounds_toArray, List.set_cons_zero, List.set_cons_succ])
      obtain ⟨⟨j0, j1⟩, m0, m1⟩ := kX7.c2
      refine anyX_one (i := 5) (by kernel_rfl) rfl (fun K hK => ?_)
      go_simp
      refine hK.out _ _ (fun h => absurd rfl h) ?_
      clear hK K
      refine anyX_done (by kernel_rfl) ?_ _
      have J8 : BJ w ((w7.setCell ⟨q, 0, none⟩ (.slice a3 b'.things.length c3)).setCell ⟨q, 1, none⟩ (.slice a4 b'.bs.length c4)) rb len (N + 12 + 200 * (m - k) + 200) q v (.slice a3 b'.things.length c3) (.slice a4 b'.bs.length c4) b' :=
        ⟨(kR7.other (by omega)).other (by omega), kX7.copy2 _ _, (hR7.setCell (by omega)).setCell (by omega), grown_setNew (grown_setNew hG7 (by omega) _) (by omega) _, ⟨((hD7.1.set hqz6).set hqz6).low (by omega), hD7.2⟩, by omega⟩
      clear j0 j1 m0 m1 hS7 kR7 kX7 hR7 hG7 hD7
      go_wp2_with fail
      go_roundw
      case rel => exact ⟨k - 1, _, _, _, _, b', by omega, by go_num, by rw [Hm.out]; exact J8⟩
      case measure => simp [intOf]; omega
    · have hp' : ¬ (0 : Int) < (k : Int) := by omega
      have kR := J.r
      obtain ⟨z0, z1⟩ := J.x.c2'
      obtain ⟨⟨y0, y1⟩, g0, g1⟩ := kR.c2
      go_wp2_with fail
      refine end_cb2 Tryz.results37 Tryz.underlying26 rfl sizeBk1 kR rfl ?_
      exact ⟨⟨_, rfl, b, ((J.bk.1.set (by omega)).set (by omega)).low (by omega), J.bk.2⟩, ((J.rd.setCell (by omega)).setCell (by omega)).mono (by omega), grown_setNew (grown_setNew J.g (Nat.le_refl _) _) (Nat.le_refl _) _⟩
end Go.Proofs.YtkgbdjdgcacblaaGreatDoor

/- Drawing for the share: any book. -/
namespace Go.Proofs.YtkgbdjdgcacblaaGreatDoor
open Go.RowKit


set_option maxRecDepth 20000 in
set_option maxHeartbeats 4000000 in
theorem any15_any (rb len N : Nat) (v : Value) (w : World) (hR : Rd w rb v len N) (hN : N ≤ 10000) :
    Calls Tryz.prog 25 #[.pointer (some ⟨rb, 0, none⟩)] w
      fun e w' => (∃ (u : Value) (b : Bk), e = .returned u ∧ DkL w' w.heap.size u b) ∧ Rd w' rb v len (N + 11000) ∧ w.grownBy w' (some rb) := by
  have hrl := hR.lt
  go_enter Tryz.func25, Tryz.ntmps25
  go_upto_region 1 with fail
  obtain ⟨W1, hW1, kR, hB1, hs1⟩ : ∃ W1, w.alloc (.cells #[.slice none 0 0, .slice none 0 0] 26) = W1 ∧ CB W1 w.heap.size [.slice none 0 0, .slice none 0 0] ∧ Below w.heap.size w W1 ∧ W1.heap.size = w.heap.size + 1 := ⟨_, rfl, cb1 w _ _⟩
  rw [hW1]
  clear hW1
  have hR1 := hR.kept hB1
  have hs1' : w.heap.size + 1 ≤ W1.heap.size := by omega
  clear hR hs1
  go_wp2_with fail
  refine (book15_any rb len N v _ hR1 (by omega)).mono ?_
  rintro e w2 ⟨⟨u, b, rfl, hD⟩, hR2, hg2⟩
  have kR := kR.kept hg2 (by simp; omega)
  have hG2 := grown_trans (grown_below (r := some rb) hB1) hg2
  have hz2 := hg2.size
  have hD := hD.low hs1'
  obtain ⟨a1, c1, a2, c2, rfl⟩ := hD.parts
  clear hB1 hg2 hR1
  go_upto_region 2 with fail
  obtain ⟨W3, hW3, kX, hb3, hs3⟩ : ∃ W3, w2.alloc (.cells #[.slice a1 b.things.length c1, .slice a2 b.bs.length c2] 26) = W3 ∧ CB W3 w2.heap.size [.slice a1 b.things.length c1, .slice a2 b.bs.length c2] ∧ Below w2.heap.size w2 W3 ∧ W3.heap.size = w2.heap.size + 1 := ⟨_, rfl, cb1 w2 _ _⟩
  rw [hW3]
  have J3 : BJ w W3 rb len (N + 10000) w2.heap.size v (.slice a1 b.things.length c1) (.slice a2 b.bs.length c2) b := ⟨kR.up hb3 kR.2.2, kX, hR2.kept hb3, grown_trans hG2 (grown_below hb3), hD.up hb3, by omega⟩
  clear hW3 kX hb3 hs3 kR hR2 hG2 hD hz2 hs1'
  generalize w2.heap.size = q at *
  go_wp2_with fail
  refine (pick_any rb len _ v 20 _ J3.rd (by omega)).mono ?_
  rintro e w4 ⟨⟨x, rfl, -, -⟩, hR4, hg4⟩
  have hqz := J3.qz
  have J4 : BJ w w4 rb len (N + 10001) q v (.slice a1 b.things.length c1) (.slice a2 b.bs.length c2) b := ⟨J3.r.kept hg4 (by simp; omega), J3.x.kept hg4 (by simp; omega), hR4, grown_trans J3.g hg4, J3.bk.gr hg4 (by omega), J3.qz⟩
  clear J3 hR4 hg4
  obtain ⟨z0, z1⟩ := J4.x.c2'
  by_cases hx : x = 0
  · subst hx
    go_wp2_with fail
    refine (spoil15_any rb len _ (w.heap.size + 1) v _ b _ J4.rd (by omega) J4.bk).mono ?_
    rintro e w5 ⟨⟨u, b', rfl, hD5⟩, hR5, hg5⟩
    have kR := J4.r.kept hg5 (by simp; omega)
    have hG := grown_trans J4.g hg5
    have hrz := J4.r.2.2
    obtain ⟨a3, c3, a4, c4, rfl⟩ := hD5.parts
    clear J4 z0 z1 hg5
    obtain ⟨⟨y0, y1⟩, g0, g1⟩ := kR.c2
    go_wp2_with fail
    refine end_cb2 Tryz.results25 Tryz.underlying26 rfl sizeBk1 kR rfl ?_
    exact ⟨⟨_, b', rfl, ((hD5.1.set hrz).set hrz).low (by omega), hD5.2⟩, ((hR5.setCell (by omega)).setCell (by omega)).mono (by omega), grown_setNew (grown_setNew hG (Nat.le_refl _) _) (Nat.le_refl _) _⟩
  have hx' : (x == 0) = false := by simpa using hx
  have kR := J4.r
  obtain ⟨⟨y0, y1⟩, g0, g1⟩ := kR.c2
  go_wp2_with fail
  refine end_cb2 Tryz.results25 Tryz.underlying26 rfl sizeBk1 kR rfl ?_
  exact ⟨⟨_, b, rfl, ((J4.bk.loose.1.set (by omega)).set (by omega)).low (by omega), J4.bk.loose.2⟩, ((J4.rd.setCell (by omega)).setCell (by omega)).mono (by omega), grown_setNew (grown_setNew J4.g (Nat.le_refl _) _) (Nat.le_refl _) _⟩
end Go.Proofs.YtkgbdjdgcacblaaGreatDoor
