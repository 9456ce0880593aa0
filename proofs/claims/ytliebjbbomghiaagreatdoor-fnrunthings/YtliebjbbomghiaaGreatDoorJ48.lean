/- Drawing: a recipe is spoilt. -/
import Derived.Test.YtliebjbbomghiaaGreatDoorJ43
import Derived.Test.YtliebjbbomghiaaGreatDoorDs1
import Derived.Test.YtliebjbbomghiaaGreatDoorDh8
import Derived.Test.YtliebjbbomghiaaGreatDoorJ41
import Derived.OwnWalk
import Derived.Test.YtliebjbbomghiaaGreatDoorJ20
import Derived.Test.YtliebjbbomghiaaGreatDoorJ5
import Derived.Test.YtliebjbbomghiaaGreatDoorJ9
import Derived.Test.YtliebjbbomghiaaGreatDoorXr
namespace Go.Proofs.YtliebjbbomghiaaGreatDoor
open Go.RowKit

theorem rowP_set : ∀ (qs : List Ph) (k : Nat) (p : Ph), k < qs.length → ((((((((rowP qs).set (k * 8) (.string p.nm)).set (k * 8 + 1) (.int .i64 p.k)).set (k * 8 + 2) (.string p.a)).set (k * 8 + 3) (.string p.b)).set (k * 8 + 4) (.int .i64 p.n)).set (k * 8 + 5) (.int .i64 p.wi)).set (k * 8 + 6) (.string p.t)).set (k * 8 + 7) (.string p.e) = rowP (qs.set k p)
  | q :: rest, 0, p, _ => by simp [rowP, Ph.cells]
  | q :: rest, k + 1, p, h => by
    have ih := rowP_set rest k p (by simpa using h)
    rw [List.set_cons_succ, rowP, rowP, ← ih]
    have hl : q.cells.length = 8 := rfl
    have hs : ∀ (l : List Value) (j : Nat) (u : Value), (q.cells ++ l).set ((k + 1) * 8 + j) u = q.cells ++ l.set (k * 8 + j) u := fun l j u => by
      rw [List.set_append_right _ _ (by rw [hl]; omega), hl, show (k + 1) * 8 + j - 8 = k * 8 + j by omega]
    have h0 := hs (rowP rest) 0 (.string p.nm)
    rw [Nat.add_zero, Nat.add_zero] at h0
    rw [h0, hs, hs, hs, hs, hs, hs, hs]; rfl
theorem own_store {w : World} {base e g cap k : Nat} {qs : List Ph} {p : Ph} (h : w.ownsRow base e 8 (.slice (some ⟨g, 0, none⟩) qs.length cap) qs.length (rowP qs)) (hk : k < qs.length) :
    (w.setCells g (k * 8) p.cells).ownsRow base e 8 (.slice (some ⟨g, 0, none⟩) qs.length cap) qs.length (rowP (qs.set k p)) ∧ w.grownBy (w.setCells g (k * 8) p.cells) (some g) := by
  have h0 := h.stored (k * 8) (.string p.nm)
  have h1 := h0.1.stored (k * 8 + 1) (.int .i64 p.k)
  have h2 := h1.1.stored (k * 8 + 2) (.string p.a)
  have h3 := h2.1.stored (k * 8 + 3) (.string p.b)
  have h4 := h3.1.stored (k * 8 + 4) (.int .i64 p.n)
  have h5 := h4.1.stored (k * 8 + 5) (.int .i64 p.wi)
  have h6 := h5.1.stored (k * 8 + 6) (.string p.t)
  have h7 := h6.1.stored (k * 8 + 7) (.string p.e)
  rw [rowP_set qs k p hk] at h7
  exact ⟨h7.1, grown_trans (grown_trans (grown_trans (grown_trans (grown_trans (grown_trans (grown_trans h0.2 h1.2) h2.2) h3.2) h4.2) h5.2) h6.2) h7.2⟩
theorem rowP_one : ∀ (ps : List Ph), ∀ u ∈ rowP ps, u.oneCell' = true
  | [], u, hu => by simp [rowP] at hu
  | p :: rest, u, hu => by
    rw [rowP, List.mem_append] at hu
    rcases hu with hu | hu
    · exact one8 p u hu
    · exact rowP_one rest u hu
theorem size_z (s : ByteArray) (h : s.size ≤ 20) : ((⟨#[122]⟩ : ByteArray) ++ s).size ≤ maxLen := by
  rw [ByteArray.size_append]; unfold maxLen; show 1 + s.size ≤ _; omega
theorem own_there {w : World} {base e g cap n : Nat} {xs : List Value} (h : w.ownsRow base e 8 (.slice (some ⟨g, 0, none⟩) n cap) n xs) : w.there g 0 (n * 8) := fun j hj => by
  rw [Nat.zero_add]
  refine ⟨?_, h.frozenAt j⟩
  rw [h.cellAt j hj, List.getElem?_eq_getElem (by rw [h.1]; exact hj)]; rfl

set_option maxRecDepth 20000 in
set_option maxHeartbeats 4000000 in
theorem spoilR_any (rb len N : Nat) (v : Value) (ps : List Ph) (gx cx : Nat) (w : World) (hR : Rd w rb v len N) (hN : N ≤ 850000) (hx : RecAt w gx 0 ps) (h1 : 1 ≤ ps.length) (h12 : ps.length ≤ 12) (hpz : ∀ p ∈ ps, p.sz) (hgx : gx < w.heap.size) :
    Calls Tryz.prog 60 #[.pointer (some ⟨rb, 0, none⟩), .slice (some ⟨gx, 0, none⟩) ps.length cx] w
      fun e w' => (∃ (u : Value) (qs : List Ph), e = .returned u ∧ 1 ≤ qs.length ∧ qs.length ≤ 13 ∧ (∀ p ∈ qs, p.sz) ∧ w'.ownsRow w.heap.size 34 8 u qs.length (rowP qs)) ∧ Rd w' rb v len (N + 300) ∧ w.grownBy w' (some rb) := by
  have hlt := hR.lt
  obtain ⟨ii, hi, iz0, iz1, iz2⟩ := info_parts infoPh8
  have hnews : ∀ (j : Nat) (u : Value), (rowP ps)[j]? = some u → (w.alloc (.cells #[] 34)).cell? ((⟨gx, 0, none⟩ : Addr).add j) = some u := fun j u hu => by
    have hj : j < ps.length * 8 := by rw [← rowP_length]; exact (List.getElem?_eq_some_iff.1 hu).1
    have hp : ps[j / 8]? = some (ps[j / 8]'(by omega)) := by simp
    have hc := rowP_at ps (j / 8) _ hp (j % 8) ((ps[j / 8]'(by omega)).cells[j % 8]'(by show _ < 8; omega)) (by simp)
    rw [show j / 8 * 8 + j % 8 = j by omega, hu] at hc
    have hr := hx (j / 8) _ hp (j % 8) u (by rw [Option.some.inj hc]; simp)
    rw [Addr.add_mid, World.cell?_alloc_lt _ _ _ hgx]
    rw [show 0 + j / 8 * 8 + j % 8 = 0 + j by omega] at hr; exact hr
  have hone : ∀ u ∈ rowP ps, u.oneCell' = true := rowP_one ps
  go_enter Tryz.func60, Tryz.ntmps60
  go_wp2_with (at_builtin; refine wpList_append_own _ rfl _ _ 23 rfl w.heap.size 34 ii _ 8 104 Tryz.underlying23 hi iz0 iz1 iz2 rfl (by decide) (.slice (some ⟨w.heap.size, 0, none⟩) 0 0) 0 _ rfl (World.ownsRow_lit w #[] 0 (Nat.le_refl _) (by unfold maxLen; omega) rfl) ⟨gx, 0, none⟩ ps.length cx (rowP ps) rfl (rowP_length ps) hnews hone (by unfold maxLen; omega) (by omega) (by simp) ?_)
  intro v1 w1 hown1 hgrow1 _
  have hown1 : w1.ownsRow w.heap.size 34 8 v1 ps.length (rowP ps) := by simpa using hown1
  have hR1 := (hR.alloc (.cells #[] 34)).row (k := w.heap.size) hgrow1 hlt
  have hG1 : w.grownBy w1 (some rb) := grown_new (grown_alloc (grown_refl w (some rb)) _) hgrow1 (Nat.le_refl _)
  have hs1 : w.heap.size < w1.heap.size := by have := hgrow1.size; simp at this; omega
  obtain ⟨g, cap, rfl⟩ := own_ptr2 hown1 (by omega)
  clear hgrow1 hR hnews hone
  go_wp2_with fail
  refine (pick_any rb len _ v _ _ hR1 (by omega)).mono ?_
  rintro e w2 ⟨⟨x, rfl, hx0, hx1⟩, hR2, hg2⟩
  have hx2 := hx1 (by omega)
  obtain ⟨k, rfl⟩ : ∃ k : Nat, x = (k : Int) := ⟨x.toNat, by omega⟩
  have hk : k < ps.length := by omega
  have hown2 := own_grown hown1 hg2 hlt
  have hG2 := grown_trans hG1 hg2
  have hs2 := hg2.size
  clear hx1 hx2 hx0 hown1 hG1 hR1 hg2
  go_wp2_with fail
  refine (pick_any rb len _ v 6 _ hR2 (by omega)).mono ?_
  rintro e w3 ⟨⟨y, rfl, hy0, hy1⟩, hR3, hg3⟩
  have hy2 := hy1 (by omega)
  have hown3 := own_grown hown2 hg3 hlt
  have hG3 := grown_trans hG2 hg3
  have hs3 := hg3.size
  clear hy1 hown2 hG2 hR2 hg3
  have hRA := recAt_own hown3
  obtain ⟨c0, c1, c2, c3, c4, c5, c6, c7⟩ := hRA.cells k hk
  simp only [Nat.zero_add] at c0 c1 c2 c3 c4 c5 c6 c7
  have hpk : (ps[k]).sz := hpz _ (by simp)
  generalize hP : ps[k] = p at *
  rcases (by omega : y = 0 ∨ y = 1 ∨ y = 2 ∨ (3 ≤ y ∧ y ≤ 5)) with rfl | rfl | rfl | hy
  · have hown4 := hown3.alloc (.cells #[.string p.nm, .int .i64 p.k, .string p.a, .string p.b, .int .i64 p.n, .int .i64 p.wi, .string p.t, .string p.e] 34)
    have Hpz : Hid (∀ q ∈ ps ++ [p], q.sz) := by
      show _; intro q hq
      rcases List.mem_append.1 hq with hq | hq
      · exact hpz q hq
      · obtain rfl : q = p := by simpa using hq
        exact hpk
    go_wp2_with (at_builtin; refine wpList_append_own _ rfl _ _ 23 rfl w.heap.size 34 ii _ 8 104 Tryz.underlying23 hi iz0 iz1 iz2 rfl (by decide) (.slice (some ⟨g, 0, none⟩) ps.length cap) _ _ rfl hown4 ⟨w3.heap.size, 0, none⟩ 1 1 p.cells rfl rfl (fun j u hj => new8 _ _ _ hj) (one8 p) (by unfold maxLen; omega) (by omega) (by simp; omega) ?_)
    intro v' w5 hown5 hgrow5 _
    have hR5 := (hR3.alloc (.cells #[.string p.nm, .int .i64 p.k, .string p.a, .string p.b, .int .i64 p.n, .int .i64 p.wi, .string p.t, .string p.e] 34)).own hown4 hgrow5 hlt
    have hG5 := grown_own (grown_alloc hG3 _) hown4 hgrow5 (Nat.le_refl _)
    clear hgrow5 hown4 hown3 hR3 hG3 c0 c1 c2 c3 c4 c5 c6 c7 hRA
    go_wp2_with fail
    go_ret
    exact ⟨⟨_, ps ++ [p], rfl, by simp, by simp; omega, Hpz.out, by rw [rowP_append, List.length_append]; simpa [rowP] using hown5⟩, hR5.mono (by omega), hG5⟩
  · have hst := own_store (k := 0) (p := p) hown3 (by omega)
    rw [Nat.zero_mul] at hst
    have hth := own_there hown3
    have Hpz : Hid (∀ q ∈ ps.set 0 p, q.sz) := by
      show _; intro q hq
      rcases List.mem_or_eq_of_mem_set hq with hq | rfl
      · exact hpz q hq
      · exact hpk
    go_wp2_with (refine wpList_store_mid rfl 34 _ _ rfl g 0 _ rfl rfl (fun j hj => by
          have := hth j (by simp at hj; omega)
          simpa using this) sizeRecPhase (by simp [Value.oneCell']) ?_)
    go_ret
    exact ⟨⟨_, ps.set 0 p, rfl, by simp; omega, by simp; omega, Hpz.out, by rw [List.length_set]; exact hst.1⟩, (hR3.row hst.2 (by have := (hown3.lt g rfl).1; omega)).mono (by omega), grown_new hG3 hst.2 (by have := (hown3.lt g rfl).1; omega)⟩
  · clear c0 c1 c2 c3 c4 c5 c6 c7 hRA hx hP hpk
    go_wp2_with fail
    refine (pick_any rb len _ v 2 _ hR3 (by omega)).mono ?_
    rintro e w4 ⟨⟨z, rfl, hz0, hz1⟩, hR4, hg4⟩
    have hz2 := hz1 (by omega)
    obtain ⟨m, rfl⟩ : ∃ m : Nat, z = (m : Int) := ⟨z.toNat, by omega⟩
    have hown4 := own_grown hown3 hg4 hlt
    have hG4 := grown_trans hG3 hg4
    have hs4 := hg4.size
    clear hg4 hown3 hG3 hR3 hz1
    go_wp2_with fail
    go_loopw [5, 8] (fun u i w' => ∃ (k : Nat) (qs : List Ph), i = .int .i64 k ∧ qs.length = ps.length + k ∧ qs.length ≤ 13 ∧ (∀ p ∈ qs, p.sz) ∧ w'.ownsRow w.heap.size 34 8 u qs.length (rowP qs) ∧ Rd w' rb v len (N + 10 + 12 * k) ∧ w.grownBy w' (some rb)) (fun _ i _ => 13 - (intOf i).toNat)
    case atStart => exact ⟨0, ps, rfl, rfl, by omega, hpz, hown4, hR4.mono (by omega), hG4⟩
    case round =>
      clear hown4 hR4 hG4 hpz hs4
      obtain ⟨k, qs, rfl, hql, hq13, hqz, hown, hRk, hGk⟩ := hrel
      have hBk := hGk.size
      obtain ⟨g, cap, rfl⟩ := own_ptr2 hown (by omega)
      have Hql : Hid (qs.length = ps.length + k) := hql
      have hkb : ps.length + k ≤ 13 := by omega
      by_cases hq : (qs.length : Int) < 12 + (m : Int)
      · have hq' : qs.length < 13 := by omega
        have hkc : ps.length + k < 13 := by omega
        clear hql
        have hk9 : (k : Int) < 100 := by omega
        go_wp2_with fail
        refine (dec_any k wr (by omega) (by omega)).mono ?_
        rintro e w3 ⟨⟨s, rfl, hs⟩, hB3⟩
        have hw3 := hB3.size
        have hR3 := (hRk.kept hB3).alloc (.cells #[] 9)
        have hG3 := grown_alloc (grown_trans hGk (grown_below hB3)) (.cells #[] 9)
        have hown3 := (own_grown hown (grown_below hB3) hlt).alloc (.cells #[] 9)
        clear hRk hGk hown
        go_wp2_with fail
        refine (phase_any rb len _ v _ [] w3.heap.size 0 0 0 _ hR3 (by omega) (size_z s hs) (fun s hs => by simp at hs) rfl (by omega) (fun i s hs => by simp at hs) (by omega)).mono ?_
        rintro e w4 ⟨⟨q, rfl, hq4⟩, hR4, hg4⟩
        have hw4 : w3.heap.size ≤ w4.heap.size := by have := hg4.size; simp at this; omega
        have hown4 := (own_grown hown3 hg4 hlt).alloc (.cells #[.string q.nm, .int .i64 q.k, .string q.a, .string q.b, .int .i64 q.n, .int .i64 q.wi, .string q.t, .string q.e] 34)
        have hG4 := grown_alloc (grown_trans hG3 hg4) (.cells #[.string q.nm, .int .i64 q.k, .string q.a, .string q.b, .int .i64 q.n, .int .i64 q.wi, .string q.t, .string q.e] 34)
        have Hpz : Hid (∀ p ∈ qs ++ [q], p.sz) := by
          show _; intro p hp
          rcases List.mem_append.1 hp with hp | hp
          · exact hqz p hp
          · obtain rfl : p = q := by simpa using hp
            exact hq4
        clear hR3 hG3 hown3 hg4 hqz hq4
        go_wp2_with (at_builtin; refine wpList_append_own _ rfl _ _ 23 rfl w.heap.size 34 ii _ 8 104 Tryz.underlying23 hi iz0 iz1 iz2 rfl (by decide) (.slice (some ⟨g, 0, none⟩) qs.length cap) _ _ rfl hown4 ⟨w4.heap.size, 0, none⟩ 1 1 q.cells rfl rfl (fun j u hj => new8 _ _ _ hj) (one8 q) (by unfold maxLen; omega) (by omega) (by simp; omega) ?_)
        intro v' w5 hown5 hgrow5 _
        have hR5 := (hR4.alloc (.cells #[.string q.nm, .int .i64 q.k, .string q.a, .string q.b, .int .i64 q.n, .int .i64 q.wi, .string q.t, .string q.e] 34)).own hown4 hgrow5 hlt
        have hG5 := grown_own hG4 hown4 hgrow5 (by omega)
        clear hR4 hG4 hgrow5 hown4
        go_wp2_with fail
        go_roundw
        case rel => exact ⟨k + 1, qs ++ [q], by go_num, by rw [List.length_append, Hql.out]; simp; omega, by rw [List.length_append]; simp; omega, Hpz.out, by rw [rowP_append, List.length_append]; simpa [rowP] using hown5, hR5.mono (by omega), hG5⟩
        case measure => simp [intOf]; omega
      · clear hql
        go_wp2_with fail
        go_ret
        first
          | exact ⟨⟨_, rfl, qs, by omega, hq13, hqz, hown⟩, hRk.mono (by omega), hGk⟩
          | exact ⟨⟨_, qs, rfl, by omega, hq13, hqz, hown⟩, hRk.mono (by omega), hGk⟩
  · have hy00 : (y == 0) = false := by simp; omega
    have hy01 : (y == 1) = false := by simp; omega
    have hy02 : (y == 2) = false := by simp; omega
    go_wp2_with fail
    refine (spoil_any rb len _ v p _ hR3 (by omega) hpk).mono ?_
    rintro e w4 ⟨⟨q, rfl, hq⟩, hR4, hg4⟩
    have hown4 := own_grown hown3 hg4 hlt
    have hG4 := grown_trans hG3 hg4
    have hst := own_store (k := k) (p := q) hown4 hk
    have hth := own_there hown4
    have hgb := (hown4.lt g rfl).1
    have Hpz : Hid (∀ p ∈ ps.set k q, p.sz) := by
      show _; intro q' hq'
      rcases List.mem_or_eq_of_mem_set hq' with hq' | rfl
      · exact hpz _ hq'
      · exact hq
    clear hg4 hown3 hG3 hR3 c0 c1 c2 c3 c4 c5 c6 c7 hRA
    go_wp2_with (refine wpList_store_mid rfl 34 _ _ rfl g (k * 8) _ rfl rfl (fun j hj => by
          have := hth (k * 8 + j) (by simp at hj; omega)
          simpa using this) sizeRecPhase (by simp [Value.oneCell']) ?_)
    go_ret
    exact ⟨⟨_, ps.set k q, rfl, by simp; omega, by simp; omega, Hpz.out, by rw [List.length_set]; exact hst.1⟩, (hR4.row hst.2 (by omega)).mono (by omega), grown_new hG4 hst.2 (by omega)⟩
end Go.Proofs.YtliebjbbomghiaaGreatDoor

/- Drawing batches: a spoilt one. -/
namespace Go.Proofs.YtliebjbbomghiaaGreatDoor
open Go.RowKit

/-- A recipe that was drawn, spoilt or not. -/
def Okq (ps : List Ph) : Prop := 1 ≤ ps.length ∧ ps.length ≤ 13 ∧ ∀ p ∈ ps, p.sz
theorem RcW.off {w w' : World} {base XB : Nat} {p : Rv} (h : RcW w base p) (hg : w.grownBy w' (some XB)) (a1 : ∀ g, p.2.1.ownBlock = some g → g ≠ XB) (a2 : ∀ g, p.2.2.ownBlock = some g → g ≠ XB) : RcW w' base p :=
  ⟨own_keep2 h.r hg (fun g e => by simpa using a1 g e), own_keep2 h.s hg (fun g e => by simpa using a2 g e), h.nr, h.ns, h.zp, h.zs, h.zn, h.np, h.nl⟩
/-- Where the spoiling of a batch stands. -/
structure SJ (w w' : World) (rb len N XB : Nat) (v : Value) (x : Rb) (ru su : Value) : Prop where
  r : CB w' (w.heap.size + 1) [.string ⟨#[]⟩, .slice none 0 0, .slice none 0 0, .string ⟨#[]⟩, .int .i64 0, .int .i64 0]
  k : CB w' XB [.string x.nm, ru, su, .string x.ad, .int .i64 x.si, .int .i64 x.st]
  rd : Rd w' rb v len N
  g : w.grownBy w' (some rb)
  c : RcW w' (w.heap.size + 2) (x, ru, su)
  a1 : ∀ g, ru.ownBlock = some g → g ≠ XB
  a2 : ∀ g, su.ownBlock = some g → g ≠ XB
  q : Okq x.ps
  l : x.sl.length ≤ 25
  zx : w.heap.size + 1 < XB
  rz : rb < w.heap.size
theorem SJ.gr {w w1 w2 : World} {rb len N M XB : Nat} {v : Value} {x : Rb} {ru su : Value} (J : SJ w w1 rb len N XB v x ru su) (hg : w1.grownBy w2 (some rb)) (hR : Rd w2 rb v len M) : SJ w w2 rb len M XB v x ru su :=
  ⟨J.r.kept hg (by have := J.rz; simp; omega), J.k.kept hg (by have := J.rz; have := J.zx; simp; omega), hR, grown_trans J.g hg, J.c.gr hg (by have := J.rz; omega), J.a1, J.a2, J.q, J.l, J.zx, J.rz⟩
theorem SJ.up {w w1 w2 : World} {rb len N XB : Nat} {v : Value} {x : Rb} {ru su : Value} (J : SJ w w1 rb len N XB v x ru su) (hb : Below w1.heap.size w1 w2) : SJ w w2 rb len N XB v x ru su :=
  ⟨J.r.up hb J.r.2.2, J.k.up hb J.k.2.2, J.rd.kept hb, grown_trans J.g (grown_below hb), J.c.up hb, J.a1, J.a2, J.q, J.l, J.zx, J.rz⟩
/-- A cell of the batch written that is no list. -/
theorem SJ.put {w w1 : World} {rb len N XB : Nat} {v : Value} {x : Rb} {ru su : Value} (J : SJ w w1 rb len N XB v x ru su) (j : Nat) (u : Value) (y : Rb) (hy : [.string y.nm, ru, su, .string y.ad, .int .i64 y.si, .int .i64 y.st] = [.string x.nm, ru, su, .string x.ad, .int .i64 x.si, .int .i64 x.st].set j u) (hj : j < 6) (e1 : y.ps = x.ps) (e2 : y.sl = x.sl) (hz : y.nm.size ≤ maxLen) : SJ w (w1.setCell ⟨XB, j, none⟩ u) rb len N XB v y ru su := by
  have hgE : w1.grownBy (w1.setCell ⟨XB, j, none⟩ u) (some XB) := grown_setCell (grown_refl _ _) _
  have h1 := J.zx
  have h2 := J.rz
  have c := J.c.off hgE J.a1 J.a2
  obtain ⟨nm, ps, sl, ad, si, st⟩ := y
  obtain rfl : ps = x.ps := e1
  obtain rfl : sl = x.sl := e2
  exact ⟨J.r.kept hgE (by simp; omega), by rw [hy]; exact J.k.set (by simpa using hj), J.rd.row hgE (by omega), grown_new J.g hgE (by omega), ⟨c.r, c.s, c.nr, c.ns, c.zp, c.zs, hz, c.np, c.nl⟩, J.a1, J.a2, J.q, J.l, h1, h2⟩
/-- Its recipe. -/
theorem SJ.putR {w w1 : World} {rb len N XB B : Nat} {v : Value} {x : Rb} {ru su u : Value} {qs : List Ph} (J : SJ w w1 rb len N XB v x ru su) (h : w1.ownsRow B 34 8 u qs.length (rowP qs)) (hB : XB < B) (hq : Okq qs) : SJ w (w1.setCell ⟨XB, 1, none⟩ u) rb len N XB v { x with ps := qs } u su := by
  have hgE : w1.grownBy (w1.setCell ⟨XB, 1, none⟩ u) (some XB) := grown_setCell (grown_refl _ _) _
  have h1 := J.zx
  have h2 := J.rz
  have hap : ∀ g, u.ownBlock = some g → g ≠ XB := fun g e => by have := (h.lt g e).1; omega
  have c := J.c.off hgE J.a1 J.a2
  have h3 := own_keep2 h hgE (fun g e => by simpa using hap g e)
  refine ⟨J.r.kept hgE (by simp; omega), J.k.set (j := 1) (by simp), J.rd.row hgE (by omega), grown_new J.g hgE (by omega), ?_, hap, J.a2, hq, J.l, h1, h2⟩
  exact rcW_drawn (own_low h3 (by omega)) hq.1 hq.2.1 hq.2.2 c.s c.ns (by have := J.l; show x.sl.length ≤ 1000; omega) c.zs c.zn rfl rfl
/-- The thing of a slot. -/
theorem SJ.putT {w w1 : World} {rb len N XB g n c k : Nat} {v : Value} {x : Rb} {ru : Value} (J : SJ w w1 rb len N XB v x ru (.slice (some ⟨g, 0, none⟩) n c)) (hk : k < x.sl.length) (s : ByteArray) (hs : s.size ≤ maxLen) : SJ w (w1.setCell ⟨g, k * 2 + 1, none⟩ (.string s)) rb len N XB v { x with sl := x.sl.set k ⟨(x.sl[k]).s, s⟩ } ru (.slice (some ⟨g, 0, none⟩) n c) := by
  have h1 := J.zx
  have h2 := J.rz
  have hS : w1.ownsRow (w.heap.size + 2) 69 2 (.slice (some ⟨g, 0, none⟩) n c) x.sl.length (rowsF Sl.cells x.sl) := J.c.s
  obtain ⟨_, _, e⟩ := own_shape hS
  simp only [Value.slice.injEq] at e
  obtain ⟨-, rfl, -⟩ := e
  have hgE : w1.grownBy (w1.setCell ⟨g, k * 2 + 1, none⟩ (.string s)) (some g) := grown_setCell (grown_refl _ _) _
  have hst := (World.ownsRow.stored hS (k * 2 + 1) (.string s)).1
  rw [rowsF_set cellsS_len x.sl k x.sl[k] ⟨(x.sl[k]).s, s⟩ 1 (.string s) (List.getElem?_eq_getElem hk) (by omega) rfl] at hst
  have hgb := (hS.lt g rfl).1
  have hne : g ≠ XB := J.a2 g rfl
  have hr : (w1.setCell ⟨g, k * 2 + 1, none⟩ (.string s)).ownsRow (w.heap.size + 2) 34 8 ru x.ps.length (rowsF Ph.cells x.ps) := own_keep2 J.c.r hgE (own_apart2 J.c.r hS (by decide))
  refine ⟨J.r.kept hgE (by simp; omega), J.k.kept hgE (by simpa using fun e => hne e.symm), J.rd.row hgE (by omega), grown_new J.g hgE (by omega), ⟨hr, by show World.ownsRow _ _ _ _ _ (x.sl.set k _).length _; rw [List.length_set]; exact hst, J.c.nr, J.c.ns, J.c.zp, fun y hy => ?_, J.c.zn, J.c.np, by show (x.sl.set k _).length ≤ 1048576; rw [List.length_set]; exact J.c.nl⟩, J.a1, J.a2, J.q, by show (x.sl.set k _).length ≤ 25; rw [List.length_set]; exact J.l, h1, h2⟩
  rcases List.mem_or_eq_of_mem_set hy with h3 | rfl
  · exact J.c.zs y h3
  · exact ⟨(J.c.zs _ (List.getElem_mem hk)).1, hs⟩
/-- Slots put behind its own. -/
theorem SJ.app {w w1 w5 : World} {rb len N XB : Nat} {v : Value} {x : Rb} {ru su u : Value} {sl : List Sl} (J : SJ w w1 rb len N XB v x ru su) (hgr : w1.grownBy w5 su.ownBlock) (h : w5.ownsRow (w.heap.size + 2) 69 2 u sl.length (rowsF Sl.cells sl)) (hn : NN u) (hl : sl.length ≤ 25) (hz : ∀ y ∈ sl, y.s.size ≤ maxLen ∧ y.t.size ≤ maxLen) (hap : ∀ g, u.ownBlock = some g → g ≠ XB) :
    CB w5 XB [.string x.nm, ru, su, .string x.ad, .int .i64 x.si, .int .i64 x.st] ∧ SJ w (w5.setCell ⟨XB, 2, none⟩ u) rb len N XB v { x with sl := sl } ru u := by
  have hS : w1.ownsRow (w.heap.size + 2) 69 2 su x.sl.length (rowsF Sl.cells x.sl) := J.c.s
  have hr5 := own_keep2 J.c.r hgr (own_apart2 J.c.r hS (by decide))
  have hk5 := J.k.kept hgr (fun e => J.a2 XB e.symm rfl)
  have hz5 := J.r.kept hgr (fun e => by have := (hS.lt _ e.symm).1; omega)
  have hgE : w5.grownBy (w5.setCell ⟨XB, 2, none⟩ u) (some XB) := grown_setCell (grown_refl _ _) _
  have h1 := J.zx
  have h2 := J.rz
  have hr6 := own_keep2 hr5 hgE (fun g e => by simpa using J.a1 g e)
  have h6 := own_keep2 h hgE (fun g e => by simpa using hap g e)
  exact ⟨hk5, hz5.kept hgE (by simp; omega), hk5.set (j := 2) (by simp), (J.rd.own hS hgr (by omega)).row hgE (by omega), grown_new (grown_own J.g hS hgr (by omega)) hgE (by omega), ⟨hr6, h6, J.c.nr, hn, J.c.zp, hz, J.c.zn, J.c.np, by show sl.length ≤ 1048576; omega⟩, J.a1, hap, J.q, hl, h1, h2⟩
def spN : List ByteArray := [⟨#[]⟩, ⟨#[66]⟩]
def spA : List ByteArray := [⟨#[]⟩, ⟨#[103, 111, 111, 100]⟩, ⟨#[114, 101, 115, 116]⟩, ⟨#[110, 111, 110, 101]⟩]
theorem int_lit5 (w : World) (a b c d f : Int) (t : TypeId) (k : Nat) (hk : k < 5) : ∃ x, (w.alloc (.cells #[.int .i64 a, .int .i64 b, .int .i64 c, .int .i64 d, .int .i64 f] t)).cell? ⟨w.heap.size, k, none⟩ = some (.int .i64 x) := by
  rw [World.cell?_alloc_at]
  case hn => rfl
  match k, hk with
  | 0, _ => exact ⟨a, rfl⟩
  | 1, _ => exact ⟨b, rfl⟩
  | 2, _ => exact ⟨c, rfl⟩
  | 3, _ => exact ⟨d, rfl⟩
  | 4, _ => exact ⟨f, rfl⟩
set_option maxRecDepth 20000 in
set_option maxHeartbeats 8000000 in
theorem spoilB_any (rb len N : Nat) (v : Value) (x : Rb) (rv sv : Value) (w : World) (hR : Rd w rb v len N) (hN : N ≤ 800000) (H : RbV w x rv sv) (hq : Okp x.ps x.sl) :
    Calls Tryz.prog 38 #[.pointer (some ⟨rb, 0, none⟩), .agg #[.string x.nm, rv, sv, .string x.ad, .int .i64 x.si, .int .i64 x.st]] w fun e w' => (∃ (y : Rb) (ru su : Value), e = .returned (.agg #[.string y.nm, ru, su, .string y.ad, .int .i64 y.si, .int .i64 y.st]) ∧ Okq y.ps ∧ RcW w' w.heap.size (y, ru, su)) ∧ Rd w' rb v len (N + 400) ∧ w.grownBy w' (some rb) := by
  obtain ⟨b, o, c, rfl, -⟩ := id H.r
  obtain ⟨g, q, d, rfl, -⟩ := id H.s
  have hrl := hR.lt
  obtain ⟨W1, hW1, kA, kR, hB1, hs1⟩ : ∃ W1, (w.alloc (.cells #[.string x.nm, .slice (some ⟨b, o, none⟩) x.ps.length c, .slice (some ⟨g, q, none⟩) x.sl.length d, .string x.ad, .int .i64 x.si, .int .i64 x.st] 26)).alloc (.cells #[.string ⟨#[]⟩, .slice none 0 0, .slice none 0 0, .string ⟨#[]⟩, .int .i64 0, .int .i64 0] 26) = W1 ∧ CB W1 w.heap.size [.string x.nm, .slice (some ⟨b, o, none⟩) x.ps.length c, .slice (some ⟨g, q, none⟩) x.sl.length d, .string x.ad, .int .i64 x.si, .int .i64 x.st] ∧ CB W1 (w.heap.size + 1) [.string ⟨#[]⟩, .slice none 0 0, .slice none 0 0, .string ⟨#[]⟩, .int .i64 0, .int .i64 0] ∧ Below w.heap.size w W1 ∧ W1.heap.size = w.heap.size + 2 := ⟨_, rfl, cb2 w _ _ _ _⟩
  have H1 := H.up hB1
  have hR1 := hR.kept hB1
  have hG1 : w.grownBy W1 (some rb) := grown_below hB1
  go_enter Tryz.func38, Tryz.ntmps38
  go_upto_region 1 with fail
  try rw [hW1]
  clear hW1 hR H
  obtain ⟨e0, e1, e2, e3, e4, e5⟩ := kA.c6
  go_upto_region 2 with (go_at_call 59; refine (copy21_any x _ _ W1 H1).mono ?_; rintro e w2 ⟨⟨ru, su, rfl, hc⟩, hb2⟩; obtain ⟨g1, n1, m1, e1⟩ : NN ru := hc.nr; obtain ⟨g2, n2, m2, e2⟩ : NN su := hc.ns; subst e1 e2; obtain ⟨_, _, ee⟩ : ∃ a c, (Value.slice (some ⟨g1, 0, none⟩) n1 m1) = .slice a x.ps.length c := own_shape hc.r; simp only [Value.slice.injEq] at ee; obtain ⟨-, rfl, -⟩ := ee; obtain ⟨_, _, ee⟩ : ∃ a c, (Value.slice (some ⟨g2, 0, none⟩) n2 m2) = .slice a x.sl.length c := own_shape hc.s; simp only [Value.slice.injEq] at ee; obtain ⟨-, rfl, -⟩ := ee)
  clear e0 e1 e2 e3 e4 e5
  obtain ⟨W3, hW3, J3⟩ : ∃ W3, w2.alloc (.cells #[.string x.nm, (.slice (some ⟨g1, 0, none⟩) x.ps.length m1), (.slice (some ⟨g2, 0, none⟩) x.sl.length m2), .string x.ad, .int .i64 x.si, .int .i64 x.st] 26) = W3 ∧ SJ w W3 rb len N w2.heap.size v x (.slice (some ⟨g1, 0, none⟩) x.ps.length m1) (.slice (some ⟨g2, 0, none⟩) x.sl.length m2) := by
    have hb3 : Below w2.heap.size w2 (w2.alloc (.cells #[.string x.nm, (.slice (some ⟨g1, 0, none⟩) x.ps.length m1), (.slice (some ⟨g2, 0, none⟩) x.sl.length m2), .string x.ad, .int .i64 x.si, .int .i64 x.st] 26)) := (Below.refl _ _).alloc (Nat.le_refl _) _
    have hz2 := hb2.size
    refine ⟨_, rfl, ((kR.up hb2 (by omega)).up hb3 (by omega)), cb_alloc w2 _ _, (hR1.kept hb2).kept hb3, grown_trans (grown_trans hG1 (grown_below hb2)) (grown_below hb3), (hc.low (by omega)).up hb3, fun g e => ?_, fun g e => ?_, ⟨hq.1, by have := hq.2.1; omega, hq.2.2.1⟩, by have := hq.2.2.2; omega, by omega, hrl⟩
    · have := (hc.r.lt g e).2; omega
    · have := (hc.s.lt g e).2; omega
  try rw [hW3]
  clear hW3 hc hb2 kA kR hR1 hG1 H1 hB1
  generalize hXB : w2.heap.size = XB at *
  clear hXB hs1
  go_wp2_with fail
  refine (pick_any rb len _ v 7 _ J3.rd (by omega)).mono ?_
  rintro e w4 ⟨⟨n, rfl, hn0, hn1⟩, hR4, hg4⟩
  have hn2 := hn1 (by omega)
  have J4 := J3.gr hg4 hR4
  have hz4 := J4.k.2.2
  have hzx := J4.zx
  have hrz := J4.rz
  clear J3 hR4 hg4 hn1
  have hcs : n = 0 ∨ n = 1 ∨ n = 2 ∨ n = 3 ∨ n = 4 ∨ n = 5 ∨ n = 6 := by omega
  clear hn0 hn2
  have Hq : Hid (Okp x.ps x.sl) := hq
  clear hq
  rcases hcs with rfl | rfl | rfl | rfl | rfl | rfl | rfl
  · go_upto_region 18 with (go_at_call 39; refine (of_any rb len _ v spN 2 _ 0 2 _ rfl (J4.rd.alloc _) (by omega) (strsAt_alloc w4 spN 9) (by omega) (by omega) (by omega)).mono ?_; rintro e w5 ⟨⟨s, hs, rfl⟩, hR5, hg5⟩; have J5 := (J4.up ((Below.refl _ _).alloc (Nat.le_refl _) (.cells (spN.map Value.string).toArray 9))).gr hg5 hR5; obtain ⟨e0, -, -, -, -, -⟩ := J5.k.c6; obtain ⟨f0, -, -, -, -, -⟩ := J5.k.f6)
    have hz : s.size ≤ maxLen := sz_lit (ss := spN) (by decide) s hs
    clear e0 f0 J4
    have JE := J5.put 0 (.string s) { x with nm := s } rfl (by omega) rfl rfl hz
    generalize w5.setCell ⟨XB, 0, none⟩ (.string s) = WE at *
    clear J5 hR5 hg5
    (obtain ⟨e0, e1, e2, e3, e4, e5⟩ := JE.k.c6; obtain ⟨y0, y1, y2, y3, y4, y5⟩ := JE.r.c6; obtain ⟨f0, f1, f2, f3, f4, f5⟩ := JE.r.f6; go_wp2_with fail; refine end_cb6 Tryz.results38 Tryz.underlying26 rfl sizeRbR JE.r rfl ?_; have hzE := JE.rz; have hg9 := grown_set6 WE (w.heap.size + 1) (.string ({ x with nm := s } : Rb).nm) (.slice (some ⟨g1, 0, none⟩) x.ps.length m1) (.slice (some ⟨g2, 0, none⟩) x.sl.length m2) (.string ({ x with nm := s } : Rb).ad) (.int .i64 ({ x with nm := s } : Rb).si) (.int .i64 ({ x with nm := s } : Rb).st); exact ⟨⟨({ x with nm := s } : Rb), _, _, rfl, JE.q, (JE.c.gr hg9 (by omega)).low (by omega)⟩, (JE.rd.row hg9 (by omega)).mono (by omega), grown_new JE.g hg9 (by omega)⟩)
  · obtain ⟨-, e1, -, -, -, -⟩ := J4.k.c6
    have hown : w4.ownsRow (w.heap.size + 2) 34 8 (.slice (some ⟨g1, 0, none⟩) x.ps.length m1) x.ps.length (rowP x.ps) := by rw [rowP_rowsF]; exact J4.c.r
    have hc := spoilR_any rb len _ v x.ps g1 m1 w4 J4.rd (by omega) (recAt_own hown) Hq.out.1 Hq.out.2.1 Hq.out.2.2.1 (hown.lt g1 rfl).2
    go_upto_region 18 with (go_at_call 60; refine hc.mono ?_; rintro e w5 ⟨⟨u, qs, rfl, hq1, hq2, hq3, hou⟩, hR5, hg5⟩; have J5 := J4.gr hg5 hR5; obtain ⟨gu, cu, rfl⟩ := own_ptr2 hou (by omega); clear e1; obtain ⟨-, e1, -, -, -, -⟩ := J5.k.c6; obtain ⟨-, f1, -, -, -, -⟩ := J5.k.f6)
    clear e1 f1 hc hown J4
    have JE := J5.putR hou hz4 ⟨hq1, hq2, hq3⟩
    generalize w5.setCell ⟨XB, 1, none⟩ (.slice (some ⟨gu, 0, none⟩) qs.length cu) = WE at *
    clear J5 hR5 hg5 hou
    (obtain ⟨e0, e1, e2, e3, e4, e5⟩ := JE.k.c6; obtain ⟨y0, y1, y2, y3, y4, y5⟩ := JE.r.c6; obtain ⟨f0, f1, f2, f3, f4, f5⟩ := JE.r.f6; go_wp2_with fail; refine end_cb6 Tryz.results38 Tryz.underlying26 rfl sizeRbR JE.r rfl ?_; have hzE := JE.rz; have hg9 := grown_set6 WE (w.heap.size + 1) (.string ({ x with ps := qs } : Rb).nm) (.slice (some ⟨gu, 0, none⟩) qs.length cu) (.slice (some ⟨g2, 0, none⟩) x.sl.length m2) (.string ({ x with ps := qs } : Rb).ad) (.int .i64 ({ x with ps := qs } : Rb).si) (.int .i64 ({ x with ps := qs } : Rb).st); exact ⟨⟨({ x with ps := qs } : Rb), _, _, rfl, JE.q, (JE.c.gr hg9 (by omega)).low (by omega)⟩, (JE.rd.row hg9 (by omega)).mono (by omega), grown_new JE.g hg9 (by omega)⟩)
  · obtain ⟨-, -, e2, -, -, -⟩ := J4.k.c6
    have hl := J4.l
    by_cases hp : 0 < x.sl.length
    · go_upto_region 11 with (go_at_call 37; refine (pick_any rb len _ v (x.sl.length : Int) _ J4.rd (by omega)).mono ?_; rintro e w5 ⟨⟨y, rfl, hy0, hy1⟩, hR5, hg5⟩; have J5 := J4.gr hg5 hR5; clear e2; obtain ⟨-, -, e2, -, -, -⟩ := J5.k.c6)
      have hy2 := hy1 (by omega)
      obtain ⟨k, rfl⟩ : ∃ k : Nat, y = (k : Int) := ⟨y.toNat, by omega⟩
      have hk : k < x.sl.length := by omega
      clear hy1 hR5 hg5 J4
      have hS : w5.ownsRow (w.heap.size + 2) 69 2 (.slice (some ⟨g2, 0, none⟩) x.sl.length m2) x.sl.length (rowsF Sl.cells x.sl) := J5.c.s
      have hg2z := (hS.lt g2 rfl).1
      have q1 := own_rows cellsS_len hS (List.getElem?_eq_getElem hp) 1 _ rfl
      rw [show 0 * 2 + 1 = 1 from rfl] at q1
      have Ht0 : Hid ((x.sl[0]).t.size ≤ maxLen) := (J5.c.zs _ (List.getElem_mem hp)).2
      generalize (x.sl[0]).t = t0 at *
      have JD : SJ w w5.drew rb len (N + 1 + 1) XB v x (.slice (some ⟨g1, 0, none⟩) x.ps.length m1) (.slice (some ⟨g2, 0, none⟩) x.sl.length m2) := J5.up (Below.refl _ _).drew
      have hS1 : World.cell? w5.drew ⟨XB, 2, none⟩ = some (.slice (some ⟨g2, 0, none⟩) x.sl.length m2) ∧ World.cell? w5.drew ⟨g2, 1, none⟩ = some (.string t0) := ⟨e2, q1⟩
      refine wp_region_x 13 (fun w' => World.cell? w' ⟨XB, 2, none⟩ = some (.slice (some ⟨g2, 0, none⟩) x.sl.length m2) ∧ World.cell? w' ⟨g2, 1, none⟩ = some (.string t0)) (by kernel_rfl) ?_
      generalize w5.drew = X1 at JD hS1 ⊢
      clear J5 hS e2 q1
      refine tkx 0 rfl hS1 ?_
      refine tkx 1 rfl hS1 ?_
      refine tkx 2 rfl hS1 ?_
      refine tkx 3 rfl hS1 ?_
      refine tkx 4 rfl hS1 ?_
      refine tkx 5 rfl hS1 ?_
      refine tkx 6 rfl hS1 ?_
      refine tkx 7 rfl hS1 ?_
      refine tkx 8 rfl hS1 ?_
      have hb2 : Below X1.heap.size X1 (X1.alloc (.cells ([(⟨#[]⟩ : ByteArray), ⟨#[119]⟩, t0].map Value.string).toArray 9)) := (Below.refl _ _).alloc (Nat.le_refl _) _
      have J2 := JD.up hb2
      have hT2 := strsAt_alloc X1 [(⟨#[]⟩ : ByteArray), ⟨#[119]⟩, t0] 9
      have hS2 : World.cell? (X1.alloc (.cells ([(⟨#[]⟩ : ByteArray), ⟨#[119]⟩, t0].map Value.string).toArray 9)) ⟨XB, 2, none⟩ = some (.slice (some ⟨g2, 0, none⟩) x.sl.length m2) ∧ World.cell? (X1.alloc (.cells ([(⟨#[]⟩ : ByteArray), ⟨#[119]⟩, t0].map Value.string).toArray 9)) ⟨g2, 1, none⟩ = some (.string t0) := ⟨(hb2.cell (p := ⟨XB, 2, none⟩) JD.k.2.2).trans hS1.1, (hb2.cell (p := ⟨g2, 1, none⟩) (JD.c.s.lt g2 rfl).2).trans hS1.2⟩
      have hzX := JD.k.2.2
      refine anyX_one (i := 9) (by kernel_rfl) rfl (fun K hK => ?_)
      go_simp
      rw [show (X1.alloc (.cells #[.string ⟨#[]⟩, .string ⟨#[119]⟩, .string t0] 9)) = X1.alloc (.cells ([(⟨#[]⟩ : ByteArray), ⟨#[119]⟩, t0].map Value.string).toArray 9) from rfl]
      generalize X1.alloc (.cells ([(⟨#[]⟩ : ByteArray), ⟨#[119]⟩, t0].map Value.string).toArray 9) = X2 at *
      clear hb2 JD hS1
      refine hK.out _ _ (fun _ => hS2) ?_; clear hK K
      refine anyX_one (i := 10) (by kernel_rfl) rfl (fun K hK => ?_)
      go_simp
      go_wp2_with (go_at_call 39; refine (of_any rb len _ v [(⟨#[]⟩ : ByteArray), ⟨#[119]⟩, t0] 3 _ 0 3 _ rfl J2.rd (by omega) hT2 (by omega) (by omega) (by omega)).mono ?_; rintro e w6 ⟨⟨s, hs, rfl⟩, hR6, hg6⟩)
      have J6 := J2.gr hg6 hR6
      have hsz : s.size ≤ maxLen := by
        simp only [List.mem_cons, List.not_mem_nil, or_false] at hs
        rcases hs with rfl | rfl | rfl
        · decide
        · decide
        · exact Ht0.out
      have hS6 : World.cell? w6 ⟨XB, 2, none⟩ = some (.slice (some ⟨g2, 0, none⟩) x.sl.length m2) ∧ World.cell? w6 ⟨g2, 1, none⟩ = some (.string t0) := ⟨J6.k.c6.2.2.1, hg6.cell hS2.2 (by simp; omega)⟩
      have JE := J6.putT hk s hsz
      have hS7 : w6.ownsRow (w.heap.size + 2) 69 2 (.slice (some ⟨g2, 0, none⟩) x.sl.length m2) x.sl.length (rowsF Sl.cells x.sl) := J6.c.s
      have qk := own_rows cellsS_len hS7 (List.getElem?_eq_getElem hk) 1 _ rfl
      have fk := hS7.frozenAt (k * 2 + 1)
      clear J2 hT2 hS2 hR6 hg6 hs J6 hS7
      refine hK.out _ _ (fun _ => hS6) ?_; clear hK K
      refine anyX_one (i := 11) (by kernel_rfl) rfl (fun K hK => ?_)
      go_simp
      refine hK.out _ _ (fun _ => hS6) ?_; clear hK K
      refine tkx 12 rfl hS6 ?_
      refine anyX_one (i := 13) (by kernel_rfl) rfl (fun K hK => ?_)
      go_simp
      refine hK.out _ _ (fun h => absurd rfl h) ?_
      clear hK K
      refine anyX_done (by kernel_rfl) ?_ _
      clear hS6 qk fk
      generalize w6.setCell ⟨g2, k * 2 + 1, none⟩ (.string s) = WE at *
      go_upto_region 18 with fail
      (obtain ⟨e0, e1, e2, e3, e4, e5⟩ := JE.k.c6; obtain ⟨y0, y1, y2, y3, y4, y5⟩ := JE.r.c6; obtain ⟨f0, f1, f2, f3, f4, f5⟩ := JE.r.f6; go_wp2_with fail; refine end_cb6 Tryz.results38 Tryz.underlying26 rfl sizeRbR JE.r rfl ?_; have hzE := JE.rz; have hg9 := grown_set6 WE (w.heap.size + 1) (.string ({ x with sl := x.sl.set k ⟨(x.sl[k]).s, s⟩ } : Rb).nm) (.slice (some ⟨g1, 0, none⟩) x.ps.length m1) (.slice (some ⟨g2, 0, none⟩) x.sl.length m2) (.string ({ x with sl := x.sl.set k ⟨(x.sl[k]).s, s⟩ } : Rb).ad) (.int .i64 ({ x with sl := x.sl.set k ⟨(x.sl[k]).s, s⟩ } : Rb).si) (.int .i64 ({ x with sl := x.sl.set k ⟨(x.sl[k]).s, s⟩ } : Rb).st); exact ⟨⟨({ x with sl := x.sl.set k ⟨(x.sl[k]).s, s⟩ } : Rb), _, _, rfl, JE.q, (JE.c.gr hg9 (by omega)).low (by omega)⟩, (JE.rd.row hg9 (by omega)).mono (by omega), grown_new JE.g hg9 (by omega)⟩)
    · have h0 : ¬ (0 : Int) < (x.sl.length : Int) := by omega
      go_upto_region 18 with fail
      clear e2 h0 hp
      obtain ⟨WE, rfl⟩ : ∃ WE, WE = w4 := ⟨_, rfl⟩
      have JE := J4
      (obtain ⟨e0, e1, e2, e3, e4, e5⟩ := JE.k.c6; obtain ⟨y0, y1, y2, y3, y4, y5⟩ := JE.r.c6; obtain ⟨f0, f1, f2, f3, f4, f5⟩ := JE.r.f6; go_wp2_with fail; refine end_cb6 Tryz.results38 Tryz.underlying26 rfl sizeRbR JE.r rfl ?_; have hzE := JE.rz; have hg9 := grown_set6 WE (w.heap.size + 1) (.string x.nm) (.slice (some ⟨g1, 0, none⟩) x.ps.length m1) (.slice (some ⟨g2, 0, none⟩) x.sl.length m2) (.string x.ad) (.int .i64 x.si) (.int .i64 x.st); exact ⟨⟨x, _, _, rfl, JE.q, (JE.c.gr hg9 (by omega)).low (by omega)⟩, (JE.rd.row hg9 (by omega)).mono (by omega), grown_new JE.g hg9 (by omega)⟩)
  · obtain ⟨-, -, e2, -, -, -⟩ := J4.k.c6
    have hl := J4.l
    obtain ⟨is, his, j0, j1, j2⟩ := info_parts infoSlR
    have hbA : Below w4.heap.size w4 (w4.alloc (.cells #[.string ⟨#[122, 122]⟩, .string ⟨#[122, 122]⟩] 69)) := (Below.refl _ _).alloc (Nat.le_refl _) _
    have JA := J4.up hbA
    have hS : (w4.alloc (.cells #[.string ⟨#[122, 122]⟩, .string ⟨#[122, 122]⟩] 69)).ownsRow (w.heap.size + 2) 69 2 (.slice (some ⟨g2, 0, none⟩) x.sl.length m2) x.sl.length (rowsF Sl.cells x.sl) := JA.c.s
    have hn2 : ∀ (i : Nat) (u : Value), [Value.string ⟨#[122, 122]⟩, Value.string ⟨#[122, 122]⟩][i]? = some u → (w4.alloc (.cells #[.string ⟨#[122, 122]⟩, .string ⟨#[122, 122]⟩] 69)).cell? ((⟨w4.heap.size, 0, none⟩ : Addr).add i) = some u := fun i u hu => new2 _ _ _ _ hu
    have hzz := hbA.size
    go_upto_region 13 with fail
    go_wp2_with (at_builtin; refine wpList_append_at _ rfl _ _ 24 rfl (w.heap.size + 2) 69 is _ 2 32 Tryz.underlying24 his j0 j1 j2 rfl (by decide) _ _ _ rfl hS ⟨w4.heap.size, 0, none⟩ 1 1 [.string ⟨#[122, 122]⟩, .string ⟨#[122, 122]⟩] rfl rfl hn2 (by intro u hu; simp only [List.mem_cons, List.not_mem_nil, or_false] at hu; rcases hu with rfl | rfl <;> rfl) (by omega) (by unfold maxLen; omega) (by omega) (by omega) ?_)
    intro v7 w5 hown hgr hwh
    have hap : ∀ g, v7.ownBlock = some g → g ≠ XB := fun g hg => by
      rcases hwh g hg with h1 | h1
      · exact JA.a2 g h1
      · have := JA.k.2.2; omega
    have hown' : w5.ownsRow (w.heap.size + 2) 69 2 v7 (x.sl ++ [(⟨⟨#[122, 122]⟩, ⟨#[122, 122]⟩⟩ : Sl)]).length (rowsF Sl.cells (x.sl ++ [⟨⟨#[122, 122]⟩, ⟨#[122, 122]⟩⟩])) := by
      rw [rowsF_append, List.length_append]
      simpa [rowsF, Sl.cells] using hown
    obtain ⟨g7, c7, rfl⟩ := own_ptr2 hown (by omega)
    have hlen : x.sl.length ≤ 24 := Hq.out.2.2.2
    obtain ⟨k5, JE⟩ := JA.app hgr hown' ⟨_, _, _, rfl⟩ (by rw [List.length_append]; simp; omega) (fun y hy => by
      rcases List.mem_append.1 hy with h1 | h1
      · exact JA.c.zs y h1
      · obtain rfl := List.mem_singleton.1 h1
        exact ⟨by decide, by decide⟩) hap
    clear e2
    obtain ⟨-, -, e2, -, -, -⟩ := k5.c6
    obtain ⟨-, -, f2, -, -, -⟩ := k5.f6
    clear J4 JA hS hn2 hbA hown hown' hgr hwh hap
    go_upto_region 18 with fail
    clear e2 f2 k5
    generalize w5.setCell ⟨XB, 2, none⟩ (.slice (some ⟨g7, 0, none⟩) (x.sl.length + 1) c7) = WE at *
    (obtain ⟨e0, e1, e2, e3, e4, e5⟩ := JE.k.c6; obtain ⟨y0, y1, y2, y3, y4, y5⟩ := JE.r.c6; obtain ⟨f0, f1, f2, f3, f4, f5⟩ := JE.r.f6; go_wp2_with fail; refine end_cb6 Tryz.results38 Tryz.underlying26 rfl sizeRbR JE.r rfl ?_; have hzE := JE.rz; have hg9 := grown_set6 WE (w.heap.size + 1) (.string ({ x with sl := x.sl ++ [⟨⟨#[122, 122]⟩, ⟨#[122, 122]⟩⟩] } : Rb).nm) (.slice (some ⟨g1, 0, none⟩) x.ps.length m1) (.slice (some ⟨g7, 0, none⟩) (x.sl.length + 1) c7) (.string ({ x with sl := x.sl ++ [⟨⟨#[122, 122]⟩, ⟨#[122, 122]⟩⟩] } : Rb).ad) (.int .i64 ({ x with sl := x.sl ++ [⟨⟨#[122, 122]⟩, ⟨#[122, 122]⟩⟩] } : Rb).si) (.int .i64 ({ x with sl := x.sl ++ [⟨⟨#[122, 122]⟩, ⟨#[122, 122]⟩⟩] } : Rb).st); exact ⟨⟨({ x with sl := x.sl ++ [⟨⟨#[122, 122]⟩, ⟨#[122, 122]⟩⟩] } : Rb), _, _, rfl, JE.q, (JE.c.gr hg9 (by omega)).low (by omega)⟩, (JE.rd.row hg9 (by omega)).mono (by omega), grown_new JE.g hg9 (by omega)⟩)
  · go_upto_region 18 with (go_at_call 39; refine (of_any rb len _ v spA 4 _ 0 4 _ rfl (J4.rd.alloc _) (by omega) (strsAt_alloc w4 spA 9) (by omega) (by omega) (by omega)).mono ?_; rintro e w5 ⟨⟨s, hs, rfl⟩, hR5, hg5⟩; have J5 := (J4.up ((Below.refl _ _).alloc (Nat.le_refl _) (.cells (spA.map Value.string).toArray 9))).gr hg5 hR5; obtain ⟨-, -, -, e3, -, -⟩ := J5.k.c6; obtain ⟨-, -, -, f3, -, -⟩ := J5.k.f6)
    clear e3 f3 J4
    have JE := J5.put 3 (.string s) { x with ad := s } rfl (by omega) rfl rfl J5.c.zn
    generalize w5.setCell ⟨XB, 3, none⟩ (.string s) = WE at *
    clear J5 hR5 hg5
    (obtain ⟨e0, e1, e2, e3, e4, e5⟩ := JE.k.c6; obtain ⟨y0, y1, y2, y3, y4, y5⟩ := JE.r.c6; obtain ⟨f0, f1, f2, f3, f4, f5⟩ := JE.r.f6; go_wp2_with fail; refine end_cb6 Tryz.results38 Tryz.underlying26 rfl sizeRbR JE.r rfl ?_; have hzE := JE.rz; have hg9 := grown_set6 WE (w.heap.size + 1) (.string ({ x with ad := s } : Rb).nm) (.slice (some ⟨g1, 0, none⟩) x.ps.length m1) (.slice (some ⟨g2, 0, none⟩) x.sl.length m2) (.string ({ x with ad := s } : Rb).ad) (.int .i64 ({ x with ad := s } : Rb).si) (.int .i64 ({ x with ad := s } : Rb).st); exact ⟨⟨({ x with ad := s } : Rb), _, _, rfl, JE.q, (JE.c.gr hg9 (by omega)).low (by omega)⟩, (JE.rd.row hg9 (by omega)).mono (by omega), grown_new JE.g hg9 (by omega)⟩)
  · have hbA : Below w4.heap.size w4 (w4.alloc (.cells #[.int .i64 (-2), .int .i64 (-1), .int .i64 0, .int .i64 4, .int .i64 1000] 3)) := (Below.refl _ _).alloc (Nat.le_refl _) _
    have JA := J4.up hbA
    have hli := int_lit5 w4 (-2) (-1) 0 4 1000 3
    have hzA : w4.heap.size < (w4.alloc (.cells #[.int .i64 (-2), .int .i64 (-1), .int .i64 0, .int .i64 4, .int .i64 1000] 3)).heap.size := by simp
    go_upto_region 17 with fail
    go_upto_region 18 with (go_at_call 37; refine (pick_any rb len _ v 5 _ JA.rd (by omega)).mono ?_; rintro e w5 ⟨⟨y, rfl, hy0, hy1⟩, hR5, hg5⟩; have hy2 := hy1 (by omega); obtain ⟨k, rfl⟩ : ∃ k : Nat, y = (k : Int) := ⟨y.toNat, by omega⟩; have hk : k < 5 := (by omega); obtain ⟨i, hi⟩ := hli k hk; have hi5 := hg5.cell hi (by simp; omega); have J5 := JA.gr hg5 hR5; obtain ⟨-, -, -, -, e4, -⟩ := J5.k.c6; obtain ⟨-, -, -, -, f4, -⟩ := J5.k.f6)
    clear e4 f4 J4 JA hli hi hi5
    have JE := J5.put 4 (.int .i64 i) { x with si := i } rfl (by omega) rfl rfl J5.c.zn
    generalize w5.setCell ⟨XB, 4, none⟩ (.int .i64 i) = WE at *
    clear J5 hR5 hg5
    (obtain ⟨e0, e1, e2, e3, e4, e5⟩ := JE.k.c6; obtain ⟨y0, y1, y2, y3, y4, y5⟩ := JE.r.c6; obtain ⟨f0, f1, f2, f3, f4, f5⟩ := JE.r.f6; go_wp2_with fail; refine end_cb6 Tryz.results38 Tryz.underlying26 rfl sizeRbR JE.r rfl ?_; have hzE := JE.rz; have hg9 := grown_set6 WE (w.heap.size + 1) (.string ({ x with si := i } : Rb).nm) (.slice (some ⟨g1, 0, none⟩) x.ps.length m1) (.slice (some ⟨g2, 0, none⟩) x.sl.length m2) (.string ({ x with si := i } : Rb).ad) (.int .i64 ({ x with si := i } : Rb).si) (.int .i64 ({ x with si := i } : Rb).st); exact ⟨⟨({ x with si := i } : Rb), _, _, rfl, JE.q, (JE.c.gr hg9 (by omega)).low (by omega)⟩, (JE.rd.row hg9 (by omega)).mono (by omega), grown_new JE.g hg9 (by omega)⟩)
  · go_upto_region 18 with (go_at_call 37; refine (pick_any rb len _ v 3 _ J4.rd (by omega)).mono ?_; rintro e w5 ⟨⟨y, rfl, hy0, hy1⟩, hR5, hg5⟩; have hy2 := hy1 (by omega); have J5 := J4.gr hg5 hR5; obtain ⟨-, -, -, -, -, e5⟩ := J5.k.c6; obtain ⟨-, -, -, -, -, f5⟩ := J5.k.f6)
    clear e5 f5 J4
    have JE := J5.put 5 (.int .i64 (y - 1)) { x with st := y - 1 } rfl (by omega) rfl rfl J5.c.zn
    generalize w5.setCell ⟨XB, 5, none⟩ (.int .i64 (y - 1)) = WE at *
    clear J5 hR5 hg5
    (obtain ⟨e0, e1, e2, e3, e4, e5⟩ := JE.k.c6; obtain ⟨y0, y1, y2, y3, y4, y5⟩ := JE.r.c6; obtain ⟨f0, f1, f2, f3, f4, f5⟩ := JE.r.f6; go_wp2_with fail; refine end_cb6 Tryz.results38 Tryz.underlying26 rfl sizeRbR JE.r rfl ?_; have hzE := JE.rz; have hg9 := grown_set6 WE (w.heap.size + 1) (.string ({ x with st := y - 1 } : Rb).nm) (.slice (some ⟨g1, 0, none⟩) x.ps.length m1) (.slice (some ⟨g2, 0, none⟩) x.sl.length m2) (.string ({ x with st := y - 1 } : Rb).ad) (.int .i64 ({ x with st := y - 1 } : Rb).si) (.int .i64 ({ x with st := y - 1 } : Rb).st); exact ⟨⟨({ x with st := y - 1 } : Rb), _, _, rfl, JE.q, (JE.c.gr hg9 (by omega)).low (by omega)⟩, (JE.rd.row hg9 (by omega)).mono (by omega), grown_new JE.g hg9 (by omega)⟩)
end Go.Proofs.YtliebjbbomghiaaGreatDoor

/- Drawing: where from. -/
namespace Go.Proofs.YtliebjbbomghiaaGreatDoor
open Go.RowKit

/-- A recipe that was drawn. -/
def Drawn (w : World) (B : Nat) (u : Value) (qs : List Ph) : Prop := ∃ g cap, u = .slice (some ⟨g, 0, none⟩) qs.length cap ∧ w.ownsRow B 34 8 u qs.length (rowP qs) ∧ qs.length ≤ 13 ∧ ∀ p ∈ qs, p.sz
def fromL : List ByteArray := [⟨#[103, 111, 111, 100]⟩, ⟨#[115, 99, 114, 97, 112, 112, 101, 100]⟩, ⟨#[110, 111, 110, 101]⟩, ⟨#[]⟩]
set_option maxRecDepth 20000 in
set_option maxHeartbeats 2000000 in
theorem from_any (rb len N B : Nat) (v u : Value) (qs : List Ph) (w : World) (hR : Rd w rb v len N) (hN : N ≤ 900000) (hD : Drawn w B u qs) (hB : rb < B) :
    Calls Tryz.prog 16 #[.pointer (some ⟨rb, 0, none⟩), u] w
      fun e w' => (∃ s : ByteArray, e = .returned (.string s) ∧ s.size ≤ maxLen) ∧ Rd w' rb v len (N + 2) ∧ w.grownBy w' (some rb) := by
  obtain ⟨g, cap, rfl, hown, h13, hqz⟩ := hD
  have hlt := hR.lt
  have hgB := (hown.lt g rfl).1
  by_cases h0 : qs.length = 0
  · rw [h0]
    go_enter Tryz.func16, Tryz.ntmps16
    go_wp2_with fail
    refine (of_any rb len N v fromL 4 _ 0 _ _ rfl (hR.alloc _) (by omega) (strsAt_alloc w fromL 9) (by omega) (by omega) (by omega)).mono ?_
    rintro e w1 ⟨⟨s, hs, rfl⟩, hR1, hg1⟩
    have hz : s.size ≤ maxLen := sz_lit (ss := fromL) (by decide) s hs
    have hG1 := grown_trans (grown_alloc (grown_refl w (some rb)) (.cells (fromL.map Value.string).toArray 9)) hg1
    clear hg1
    go_wp2_with fail
    go_ret
    exact ⟨⟨s, rfl, hz⟩, hR1.mono (by omega), hG1⟩
  · have hp : 0 < qs.length := by omega
    go_enter Tryz.func16, Tryz.ntmps16
    go_wp2_with fail
    refine (pick_any rb len _ v 8 _ hR (by omega)).mono ?_
    rintro e w1 ⟨⟨x, rfl, hx0, hx1⟩, hR1, hg1⟩
    have hown1 := own_grown hown hg1 hB
    have hs1 := hg1.size
    clear hown hR hx1
    by_cases hx : 0 < x
    · go_wp2_with fail
      refine (pick_any rb len _ v _ _ hR1 (by omega)).mono ?_
      rintro e w2 ⟨⟨y, rfl, hy0, hy1⟩, hR2, hg2⟩
      have hy2 := hy1 (by omega)
      obtain ⟨k, rfl⟩ : ∃ k : Nat, y = (k : Int) := ⟨y.toNat, by omega⟩
      have hk : k < qs.length := by omega
      have hown2 := own_grown hown1 hg2 hB
      have hG2 := grown_trans hg1 hg2
      obtain ⟨c0, c1, c2, c3, c4, c5, c6, c7⟩ := (recAt_own hown2).cells k hk
      simp only [Nat.zero_add] at c0 c1 c2 c3 c4 c5 c6 c7
      have hz : (qs[k]).nm.size ≤ maxLen := (hqz _ (by simp)).1
      generalize (qs[k]) = p at *
      clear hg2 hg1 hR1 hown1 hy1 c1 c2 c3 c4 c5 c6 c7
      go_wp2_with fail
      go_ret
      exact ⟨⟨_, rfl, hz⟩, hR2.mono (by omega), hG2⟩
    · go_wp2_with fail
      refine (of_any rb len _ v fromL 4 _ 0 _ _ rfl (hR1.alloc _) (by omega) (strsAt_alloc w1 fromL 9) (by omega) (by omega) (by omega)).mono ?_
      rintro e w2 ⟨⟨s, hs, rfl⟩, hR2, hg2⟩
      have hz : s.size ≤ maxLen := sz_lit (ss := fromL) (by decide) s hs
      have hG2 := grown_trans (grown_alloc hg1 (.cells (fromL.map Value.string).toArray 9)) hg2
      clear hg1 hg2
      go_wp2_with fail
      go_ret
      exact ⟨⟨s, rfl, hz⟩, hR2.mono (by omega), hG2⟩
end Go.Proofs.YtliebjbbomghiaaGreatDoor

/- Drawing batches: any one; the draws of the law. -/
namespace Go.Proofs.YtliebjbbomghiaaGreatDoor
open Go.RowKit

theorem Okp.q {ps : List Ph} {sl : List Sl} (h : Okp ps sl) : Okq ps := ⟨h.1, by have := h.2.1; omega, h.2.2.1⟩
set_option maxRecDepth 20000 in
set_option maxHeartbeats 8000000 in
theorem anyOne25_any (rb len N : Nat) (v : Value) (w : World) (hR : Rd w rb v len N) (hN : N ≤ 400000) :
    Calls Tryz.prog 15 #[.pointer (some ⟨rb, 0, none⟩)] w fun e w' => (∃ (x : Rb) (ru su : Value), e = .returned (.agg #[.string x.nm, ru, su, .string x.ad, .int .i64 x.si, .int .i64 x.st]) ∧ Okq x.ps ∧ RcW w' w.heap.size (x, ru, su)) ∧ Rd w' rb v len (N + 9900) ∧ w.grownBy w' (some rb) := by
  have hrl := hR.lt
  obtain ⟨W1, hW1, kR, hR1, hG1, hz1⟩ : ∃ W1, w.alloc (.cells #[.string ⟨#[]⟩, .slice none 0 0, .slice none 0 0, .string ⟨#[]⟩, .int .i64 0, .int .i64 0] 26) = W1 ∧ CB W1 w.heap.size [.string ⟨#[]⟩, .slice none 0 0, .slice none 0 0, .string ⟨#[]⟩, .int .i64 0, .int .i64 0] ∧ Rd W1 rb v len N ∧ w.grownBy W1 (some rb) ∧ w.heap.size < W1.heap.size := ⟨_, rfl, cb_alloc w _ _, hR.alloc _, grown_alloc (grown_refl _ _) _, by simp⟩
  go_enter Tryz.func15, Tryz.ntmps15
  go_upto_region 1 with fail
  try rw [hW1]
  clear hW1 hR
  go_upto_region 2 with (go_at_call 36; refine (one25_any rb len _ v _ hR1 hN).mono ?_; rintro e w2 ⟨⟨x, ru, su, rfl, hq, hc⟩, hR2, hg2⟩; obtain ⟨g1, n1, m1, ee⟩ : NN ru := hc.nr; obtain ⟨g2, n2, m2, ef⟩ : NN su := hc.ns; subst ee ef)
  have hz2 := hg2.size
  obtain ⟨W3, hW3, kX, kR3, hR3, hG3, hc3⟩ : ∃ W3, w2.alloc (.cells #[.string x.nm, .slice (some ⟨g1, 0, none⟩) n1 m1, .slice (some ⟨g2, 0, none⟩) n2 m2, .string x.ad, .int .i64 x.si, .int .i64 x.st] 26) = W3 ∧ CB W3 w2.heap.size [.string x.nm, .slice (some ⟨g1, 0, none⟩) n1 m1, .slice (some ⟨g2, 0, none⟩) n2 m2, .string x.ad, .int .i64 x.si, .int .i64 x.st] ∧ CB W3 w.heap.size [.string ⟨#[]⟩, .slice none 0 0, .slice none 0 0, .string ⟨#[]⟩, .int .i64 0, .int .i64 0] ∧ Rd W3 rb v len (N + 9400) ∧ w.grownBy W3 (some rb) ∧ RcW W3 (w.heap.size + 1) (x, .slice (some ⟨g1, 0, none⟩) n1 m1, .slice (some ⟨g2, 0, none⟩) n2 m2) := by
    have hb3 : Below w2.heap.size w2 (w2.alloc (.cells #[.string x.nm, .slice (some ⟨g1, 0, none⟩) n1 m1, .slice (some ⟨g2, 0, none⟩) n2 m2, .string x.ad, .int .i64 x.si, .int .i64 x.st] 26)) := (Below.refl _ _).alloc (Nat.le_refl _) _
    exact ⟨_, rfl, cb_alloc w2 _ _, (kR.kept hg2 (by simp; omega)).up hb3 (by omega), hR2.kept hb3, grown_trans (grown_trans hG1 hg2) (grown_below hb3), (hc.low (by omega)).up hb3⟩
  try rw [hW3]
  have Hq : Hid (Okp x.ps x.sl) := hq
  clear hW3 hc hR2 hg2 kR hG1 hR1 hq
  generalize hXB : w2.heap.size = XB at *
  go_wp2_with fail
  refine (pick_any rb len _ v 12 _ hR3 (by omega)).mono ?_
  rintro e w4 ⟨⟨y, rfl, -, -⟩, hR4, hg4⟩
  have kX4 := kX.kept hg4 (by simp; omega)
  have kR4 := kR3.kept hg4 (by simp; omega)
  have hG4 := grown_trans hG3 hg4
  have hc4 := hc3.gr hg4 (by omega)
  clear kX kR3 hR3 hG3 hc3
  obtain ⟨e0, e1, e2, e3, e4, e5⟩ := kX4.c6
  by_cases hy : y = 0
  · subst hy
    have hv : RbV w4 x (.slice (some ⟨g1, 0, none⟩) n1 m1) (.slice (some ⟨g2, 0, none⟩) n2 m2) := hc4.v
    have hcs := spoilB_any rb len _ v x _ _ w4 hR4 (by omega) hv Hq.out
    go_wp2_with (go_at_call 38; refine hcs.mono ?_; rintro e w5 ⟨⟨y, ru, su, rfl, hy, hc5⟩, hR5, hg5⟩; obtain ⟨i1, j1, k1, ee⟩ : NN ru := hc5.nr; obtain ⟨i2, j2, k2, ef⟩ : NN su := hc5.ns; subst ee ef; have kR5 := kR4.kept hg5 (by simp; omega); obtain ⟨y0, y1, y2, y3, y4, y5⟩ := kR5.c6; obtain ⟨f0, f1, f2, f3, f4, f5⟩ := kR5.f6)
    have hz4 := kR4.2.2
    refine end_cb6 Tryz.results15 Tryz.underlying26 rfl sizeRbR kR5 rfl ?_
    have hg9 := grown_set6 w5 w.heap.size (.string y.nm) (.slice (some ⟨i1, 0, none⟩) j1 k1) (.slice (some ⟨i2, 0, none⟩) j2 k2) (.string y.ad) (.int .i64 y.si) (.int .i64 y.st)
    exact ⟨⟨y, _, _, rfl, hy, (hc5.gr hg9 (by omega)).low (by omega)⟩, (hR5.row hg9 hrl).mono (by omega), grown_new (grown_trans hG4 hg5) hg9 (Nat.le_refl _)⟩
  · have hy' : (y == 0) = false := by simpa using hy
    obtain ⟨y0, y1, y2, y3, y4, y5⟩ := kR4.c6
    obtain ⟨f0, f1, f2, f3, f4, f5⟩ := kR4.f6
    go_wp2_with fail
    refine end_cb6 Tryz.results15 Tryz.underlying26 rfl sizeRbR kR4 rfl ?_
    have hg9 := grown_set6 w4 w.heap.size (.string x.nm) (.slice (some ⟨g1, 0, none⟩) n1 m1) (.slice (some ⟨g2, 0, none⟩) n2 m2) (.string x.ad) (.int .i64 x.si) (.int .i64 x.st)
    exact ⟨⟨x, _, _, rfl, Hq.out.q, (hc4.gr hg9 (by omega)).low (by omega)⟩, (hR4.row hg9 hrl).mono (by omega), grown_new hG4 hg9 (Nat.le_refl _)⟩

set_option maxRecDepth 20000 in
set_option maxHeartbeats 8000000 in
theorem drawOwn_any (a : Option Addr) (n cap : Nat) (w : World) (h : BytesAt w w.heap.size (.slice a n cap) n) (hcap : n ≤ cap) (hbig : cap ≤ maxLen) :
    Calls Tryz.prog 11 #[.slice a n cap] w fun e w' => (∃ (x : Rb) (ru su : Value), e = .returned (.agg #[.string x.nm, ru, su, .string x.ad, .int .i64 x.si, .int .i64 x.st]) ∧ RcW w' w.heap.size (x, ru, su)) ∧ Below w.heap.size w w' := by
  obtain ⟨W1, hW1, kR, hB1, hz1⟩ : ∃ W1, w.alloc (.cells #[.string ⟨#[]⟩, .slice none 0 0, .slice none 0 0, .string ⟨#[]⟩, .int .i64 0, .int .i64 0] 26) = W1 ∧ CB W1 w.heap.size [.string ⟨#[]⟩, .slice none 0 0, .slice none 0 0, .string ⟨#[]⟩, .int .i64 0, .int .i64 0] ∧ Below w.heap.size w W1 ∧ w.heap.size < W1.heap.size := ⟨_, rfl, cb_alloc w _ _, (Below.refl _ _).alloc (Nat.le_refl _) _, by simp⟩
  have h1 : BytesAt W1 W1.heap.size (.slice a n cap) n := h.up hB1 hB1.size
  go_enter Tryz.func11, Tryz.ntmps11
  go_upto_region 1 with fail
  try rw [hW1]
  clear hW1 h
  go_wp2_with (first
    | (go_at_call 14; refine (open_any a n cap _ h1 hcap hbig).mono ?_; rintro e w2 ⟨⟨rb, len, v, rfl, hR2, hrb⟩, hB2⟩; have hz2 := hB2.size; have hlt := hR2.lt)
    | (go_at_call 15; refine (anyOne25_any rb len 0 v _ hR2 (by omega)).mono ?_; rintro e w3 ⟨⟨x, ru, su, rfl, -, hc⟩, hR3, hg3⟩; obtain ⟨g1, n1, m1, ee⟩ : NN ru := hc.nr; obtain ⟨g2, n2, m2, ef⟩ : NN su := hc.ns; subst ee ef; have kR3 := (kR.up hB2 (by omega)).kept hg3 (by simp; omega); obtain ⟨y0, y1, y2, y3, y4, y5⟩ := kR3.c6; obtain ⟨f0, f1, f2, f3, f4, f5⟩ := kR3.f6))
  refine end_cb6 Tryz.results11 Tryz.underlying26 rfl sizeRbR kR3 rfl ?_
  have hg9 := grown_set6 w3 w.heap.size (.string x.nm) (.slice (some ⟨g1, 0, none⟩) n1 m1) (.slice (some ⟨g2, 0, none⟩) n2 m2) (.string x.ad) (.int .i64 x.si) (.int .i64 x.st)
  have hB3 : Below w.heap.size w w3 := below_of_grown' (grown_trans (grown_below (up_trans hB1 hB2)) hg3) (by omega)
  exact ⟨⟨x, _, _, rfl, (hc.gr hg9 (by omega)).low (by omega)⟩, below_set6 hB3 (Nat.le_refl _) _ _ _ _ _ _⟩
set_option maxRecDepth 20000 in
set_option maxHeartbeats 8000000 in
theorem drawThings_any (a : Option Addr) (n cap : Nat) (w : World) (h : BytesAt w w.heap.size (.slice a n cap) n) (hcap : n ≤ cap) (hbig : cap ≤ maxLen) :
    Calls Tryz.prog 4 #[.slice a n cap] w fun e w' => (∃ (x : Rb) (ru su : Value) (nm : ByteArray), e = .returned (.tuple #[.agg #[.string x.nm, ru, su, .string x.ad, .int .i64 x.si, .int .i64 x.st], .string nm]) ∧ RcW w' w.heap.size (x, ru, su) ∧ nm.size ≤ maxLen) ∧ Below w.heap.size w w' := by
  obtain ⟨W1, hW1, kR, hB1, hz1⟩ : ∃ W1, w.alloc (.cells #[.string ⟨#[]⟩, .slice none 0 0, .slice none 0 0, .string ⟨#[]⟩, .int .i64 0, .int .i64 0] 26) = W1 ∧ CB W1 w.heap.size [.string ⟨#[]⟩, .slice none 0 0, .slice none 0 0, .string ⟨#[]⟩, .int .i64 0, .int .i64 0] ∧ Below w.heap.size w W1 ∧ w.heap.size < W1.heap.size := ⟨_, rfl, cb_alloc w _ _, (Below.refl _ _).alloc (Nat.le_refl _) _, by simp⟩
  have h1 : BytesAt W1 W1.heap.size (.slice a n cap) n := h.up hB1 hB1.size
  go_enter Tryz.func4, Tryz.ntmps4
  go_upto_region 1 with fail
  try rw [hW1]
  clear hW1 h
  go_upto_region 3 with (first
    | (go_at_call 14; refine (open_any a n cap _ h1 hcap hbig).mono ?_; rintro e w2 ⟨⟨rb, len, v, rfl, hR2, hrb⟩, hB2⟩; have hz2 := hB2.size; have hlt := hR2.lt)
    | (go_at_call 15; refine (anyOne25_any rb len 0 v _ hR2 (by omega)).mono ?_; rintro e w3 ⟨⟨x, ru, su, rfl, hq, hc⟩, hR3, hg3⟩; obtain ⟨g1, n1, m1, ee⟩ : NN ru := hc.nr; obtain ⟨g2, n2, m2, ef⟩ : NN su := hc.ns; subst ee ef))
  have hz3 := hg3.size
  obtain ⟨W4, hW4, kX, kR4, hR4, hG4, hc4⟩ : ∃ W4, w3.alloc (.cells #[.string x.nm, .slice (some ⟨g1, 0, none⟩) n1 m1, .slice (some ⟨g2, 0, none⟩) n2 m2, .string x.ad, .int .i64 x.si, .int .i64 x.st] 26) = W4 ∧ CB W4 w3.heap.size [.string x.nm, .slice (some ⟨g1, 0, none⟩) n1 m1, .slice (some ⟨g2, 0, none⟩) n2 m2, .string x.ad, .int .i64 x.si, .int .i64 x.st] ∧ CB W4 w.heap.size [.string ⟨#[]⟩, .slice none 0 0, .slice none 0 0, .string ⟨#[]⟩, .int .i64 0, .int .i64 0] ∧ Rd W4 rb v len (0 + 9900) ∧ w.grownBy W4 (some rb) ∧ RcW W4 w2.heap.size (x, .slice (some ⟨g1, 0, none⟩) n1 m1, .slice (some ⟨g2, 0, none⟩) n2 m2) := by
    have hb4 : Below w3.heap.size w3 (w3.alloc (.cells #[.string x.nm, .slice (some ⟨g1, 0, none⟩) n1 m1, .slice (some ⟨g2, 0, none⟩) n2 m2, .string x.ad, .int .i64 x.si, .int .i64 x.st] 26)) := (Below.refl _ _).alloc (Nat.le_refl _) _
    exact ⟨_, rfl, cb_alloc w3 _ _, ((kR.up hB2 (by omega)).kept hg3 (by simp; omega)).up hb4 (by omega), hR3.kept hb4, grown_trans (grown_trans (grown_below (up_trans hB1 hB2)) hg3) (grown_below hb4), hc.up hb4⟩
  try rw [hW4]
  clear hW4 hc hR3 hg3 kR hB1 hB2 hR2 h1
  generalize hXB : w3.heap.size = XB at *
  have hXz : XB < W4.heap.size := kX.2.2
  have hD : Drawn W4 w2.heap.size (.slice (some ⟨g1, 0, none⟩) n1 m1) x.ps := by
    have hr : W4.ownsRow w2.heap.size 34 8 (.slice (some ⟨g1, 0, none⟩) n1 m1) x.ps.length (rowP x.ps) := by rw [rowP_rowsF]; exact hc4.r
    obtain ⟨_, _, e⟩ := own_shape hr
    simp only [Value.slice.injEq] at e
    obtain ⟨-, rfl, -⟩ := e
    exact ⟨_, _, rfl, hr, hq.2.1, hq.2.2⟩
  have hS1 : World.cell? W4.drew ⟨XB, 0, none⟩ = some (.string x.nm) ∧ World.cell? W4.drew ⟨XB, 1, none⟩ = some (.slice (some ⟨g1, 0, none⟩) n1 m1) ∧ World.cell? W4.drew ⟨XB, 2, none⟩ = some (.slice (some ⟨g2, 0, none⟩) n2 m2) ∧ World.cell? W4.drew ⟨XB, 3, none⟩ = some (.string x.ad) ∧ World.cell? W4.drew ⟨XB, 4, none⟩ = some (.int .i64 x.si) ∧ World.cell? W4.drew ⟨XB, 5, none⟩ = some (.int .i64 x.st) := kX.c6
  have hRd : Rd W4.drew rb v len (0 + 9900) := hR4.drew
  have hGd : w.grownBy W4.drew (some rb) := grown_drew hG4
  have hDd : Drawn W4.drew w2.heap.size (.slice (some ⟨g1, 0, none⟩) n1 m1) x.ps := hD
  have kXd := kX.up (Below.refl _ _).drew kX.2.2
  have kRd := kR4.up (Below.refl _ _).drew kR4.2.2
  have hcd := hc4.up (Below.refl _ _).drew
  refine wp_region_x 99 (fun w' => World.cell? w' ⟨XB, 0, none⟩ = some (.string x.nm) ∧ World.cell? w' ⟨XB, 1, none⟩ = some (.slice (some ⟨g1, 0, none⟩) n1 m1) ∧ World.cell? w' ⟨XB, 2, none⟩ = some (.slice (some ⟨g2, 0, none⟩) n2 m2) ∧ World.cell? w' ⟨XB, 3, none⟩ = some (.string x.ad) ∧ World.cell? w' ⟨XB, 4, none⟩ = some (.int .i64 x.si) ∧ World.cell? w' ⟨XB, 5, none⟩ = some (.int .i64 x.st)) (by kernel_rfl) ?_
  generalize W4.drew = X1 at hS1 hRd hGd hDd kXd kRd hcd ⊢
  clear hR4 hG4 hD kX kR4 hc4
  refine tkx 0 rfl hS1 ?_
  refine tkx 1 rfl hS1 ?_
  refine tkx 2 rfl hS1 ?_
  refine tkx 3 rfl hS1 ?_
  have hcf := from_any rb len _ w2.heap.size v _ x.ps X1 hRd (by omega) hDd hlt
  refine anyX_one (i := 4) (by kernel_rfl) rfl (fun K hK => ?_)
  go_simp
  go_wp2_with (go_at_call 16; refine hcf.mono ?_; rintro e w5 ⟨⟨s, rfl, hs⟩, hR5, hg5⟩)
  have hG5 := grown_trans hGd hg5
  have kX5 := kXd.kept hg5 (by simp; omega)
  have kR5 := kRd.kept hg5 (by simp; omega)
  have hc5 := hcd.gr hg5 hlt
  have hS5 : World.cell? w5 ⟨XB, 0, none⟩ = some (.string x.nm) ∧ World.cell? w5 ⟨XB, 1, none⟩ = some (.slice (some ⟨g1, 0, none⟩) n1 m1) ∧ World.cell? w5 ⟨XB, 2, none⟩ = some (.slice (some ⟨g2, 0, none⟩) n2 m2) ∧ World.cell? w5 ⟨XB, 3, none⟩ = some (.string x.ad) ∧ World.cell? w5 ⟨XB, 4, none⟩ = some (.int .i64 x.si) ∧ World.cell? w5 ⟨XB, 5, none⟩ = some (.int .i64 x.st) := kX5.c6
  clear hcf hRd hGd hDd kXd kRd hcd hg5 hS1
  refine hK.out _ _ (fun _ => hS5) ?_; clear hK K
  obtain ⟨y0, y1, y2, y3, y4, y5⟩ := kR5.c6
  obtain ⟨f0, f1, f2, f3, f4, f5⟩ := kR5.f6
  have hg9 := grown_set6 w5 w.heap.size (.string x.nm) (.slice (some ⟨g1, 0, none⟩) n1 m1) (.slice (some ⟨g2, 0, none⟩) n2 m2) (.string x.ad) (.int .i64 x.si) (.int .i64 x.st)
  have hS6 := (kX5.kept hg9 (by simp; omega)).c6
  refine anyX_one (i := 5) (by kernel_rfl) rfl (fun K hK => ?_)
  go_simp
  refine hK.out _ _ (fun _ => hS6) ?_; clear hK K
  refine anyX_one (i := 6) (by kernel_rfl) rfl (fun K hK => ?_)
  go_simp
  refine hK.out _ _ (fun _ => hS6) ?_; clear hK K
  refine anyX_done (by kernel_rfl) ?_ _
  go_wp2_with fail
  refine end_cb6b Tryz.results4 Tryz.underlying26 rfl sizeRbR kR5 rfl rfl ?_
  have hB5 : Below w.heap.size w w5 := below_of_grown' hG5 (by omega)
  exact ⟨⟨x, _, _, s, rfl, (hc5.gr hg9 (by omega)).low (by omega), hs⟩, below_set6 hB5 (Nat.le_refl _) _ _ _ _ _ _⟩
end Go.Proofs.YtliebjbbomghiaaGreatDoor

/- What may yet be needed becomes less, in plain. -/
namespace Go.Proofs.YtliebjbbomghiaaGreatDoor
open Go.Maps

theorem thE_sub {l : List Sl} {ss tt : List ByteArray} (h : ∀ x ∈ keys ss, x ∈ keys tt) : allB2 (thE l ss) (thE l tt) = true := by
  rw [allB2_iff]
  intro x hx
  rw [(thE_keys l ss).2] at hx
  rw [(thE_keys l tt).2]
  simp only [keys, List.mem_map] at hx ⊢ h
  obtain ⟨_, ⟨s, hs, rfl⟩, rfl⟩ := hx
  obtain ⟨s', hs', e⟩ := h s.toList ⟨s, hs, rfl⟩
  obtain rfl := key_inj e
  exact ⟨_, ⟨_, hs', rfl⟩, rfl⟩
theorem slE_subs {ps : List Ph} (hok : recB ps = true) {k : Nat} (hk : k < ps.length) {nm : ByteArray} (ha : atI ps nm = (k : Int)) :
    (∀ x ∈ keys (ofL ps[k]), x ∈ keys (slE ps nm)) ∧ (∀ x ∈ keys (slE ps (ps[k]).t), x ∈ keys (slE ps nm)) ∧ ∀ x ∈ keys (slE ps (ps[k]).e), x ∈ keys (slE ps nm) := by
  have e : slE ps nm = bothL (bothL (ofL ps[k]) (slE ps (ps[k]).t)) (slE ps (ps[k]).e) := evL_step hok _ _ _ nm hk ha
  refine ⟨fun x hx => ?_, fun x hx => ?_, fun x hx => ?_⟩
  · rw [e]; exact ((both_keys _ _).1 x).2 (.inl (((both_keys _ _).1 x).2 (.inl hx)))
  · rw [e]; exact ((both_keys _ _).1 x).2 (.inl (((both_keys _ _).1 x).2 (.inr hx)))
  · rw [e]; exact ((both_keys _ _).1 x).2 (.inr hx)
theorem atI_name {ps : List Ph} (hok : recB ps = true) {k : Nat} (hk : k < ps.length) {nm : ByteArray} (he : ((ps[k]).nm.toList == nm.toList) = true) : atI ps nm = (k : Int) := by
  obtain rfl := key_inj (beq_iff_eq.1 he)
  have hs := ((recB_iffS ps).1 hok).2.2 k ps[k] hk (by simp [hk])
  simp only [stepS, Bool.and_eq_true, beq_iff_eq] at hs
  exact hs.1.1.2
/-- What may yet be needed behind a phase was among what may be needed from it on. -/
theorem rbThings_sub {x : Rb} (h : RbOk x) {k : Nat} (hk : k < x.ps.length) {nm : ByteArray} (he : ((x.ps[k]).nm.toList == nm.toList) = true) :
    allB2 (rbThings x (x.ps[k]).t) (rbThings x nm) = true ∧ allB2 (rbThings x (x.ps[k]).e) (rbThings x nm) = true := by
  obtain ⟨-, h2, h3⟩ := slE_subs h.2.1 hk (atI_name h.2.1 hk he)
  rw [rbThings_ok h, rbThings_ok h, rbThings_ok h]
  exact ⟨thE_sub h2, thE_sub h3⟩
theorem rbOwn_sub (x : Rb) : allB2 (rbOwn x) (rbThings x x.ad) = true := by
  by_cases h : RbOk x
  · obtain ⟨k, hk, ha⟩ := hasB_at h.2.2.2.2.1
    rw [rbThings_ok h, rbOwn_ok h, phOf_at hk ha]
    exact thE_sub (slE_subs h.2.1 hk ha).1
  · rw [rbThings_no h, rbOwn_no h]; rfl
theorem ofL_pos (p : Ph) : p.a.toList ∈ keys (ofL p) := by
  unfold ofL; split
  · exact ((ins_keys _ _).1 _).2 (.inl (by simp [keys]))
  · simp [keys]
theorem rbOwn_pos {x : Rb} (h : RbOk x) : 0 < (rbOwn x).length := by
  rw [rbOwn_ok h]
  have hm := ofL_pos (phOf x.ps x.ad)
  generalize ofL (phOf x.ps x.ad) = ss at *
  have h2 := (thE_keys x.sl ss).2
  cases ss with
  | nil => simp [keys] at hm
  | cons a r =>
    have := (h2 (firstT x.sl a).toList).2 (by simp [keys])
    cases h3 : thE x.sl (a :: r) with
    | nil => rw [h3] at this; simp [keys] at this
    | cons b s => simp
theorem rbOwn_len24 (x : Rb) : (rbOwn x).length ≤ 24 := by
  by_cases h : RbOk x
  · rw [rbOwn_ok h]
    have h1 := thE_len x.sl (ofL (phOf x.ps x.ad))
    have h2 := ofL_len (phOf x.ps x.ad)
    omega
  · rw [rbOwn_no h]; simp
theorem rbThings_len24 (x : Rb) (nm : ByteArray) : (rbThings x nm).length ≤ 24 := by
  by_cases h : RbOk x
  · rw [rbThings_ok h]
    have h1 := thE_len x.sl (slE x.ps nm)
    have h2 := slE_len x.ps nm
    have h12 : x.ps.length ≤ 12 := ((recB_iff x.ps).1 h.2.1).2.1
    omega
  · rw [rbThings_no h]; simp
end Go.Proofs.YtliebjbbomghiaaGreatDoor

/- The laws' own looks at lists of texts. -/
namespace Go.Proofs.YtliebjbbomghiaaGreatDoor
open Go.RowKit

set_option maxHeartbeats 1000000 in
theorem wrTexts_any (ss : List ByteArray) (va vb : Value) (w : World) (ha : Lst w va ss) (hb : Lst w vb ss) (hn : ss.length ≤ 1000) :
    Calls Tryz.prog 6 #[va, vb] w fun e w' => e = .returned (.bool true) ∧ Below w.heap.size w w' := by
  by_cases h0 : ss = []
  · subst h0
    obtain ⟨a1, c1, rfl⟩ := ha.shape
    obtain ⟨a2, c2, rfl⟩ := hb.shape
    simp only [List.length_nil]
    go_enter Tryz.func6, Tryz.ntmps6
    go_wp2
    go_rounds 1
    go_ret
    exact ⟨rfl, Below.refl _ _⟩
  rcases ha with ⟨_, h⟩ | ha
  · exact absurd h h0
  rcases hb with ⟨_, h⟩ | hb
  · exact absurd h h0
  obtain ⟨g1, c1, rfl, hS1, hg1, _, _⟩ := ha
  obtain ⟨g2, c2, rfl, hS2, hg2, _, _⟩ := hb
  go_enter Tryz.func6, Tryz.ntmps6
  go_wp2
  go_loopw [5] (fun i w' => ∃ k : Nat, k ≤ ss.length ∧ i = .int .i64 k ∧ Below w.heap.size w w') (fun i _ => ss.length - (intOf i).toNat)
  case atStart => exact ⟨0, by omega, rfl, Below.refl _ _⟩
  case round =>
    obtain ⟨k, hk, rfl, hB⟩ := hrel
    by_cases hp : k < ss.length
    · have c1 := (hB.cell (p := ⟨g1, 0 + k, none⟩) hg1).trans (hS1 k ss[k] (by simp))
      have c2 := (hB.cell (p := ⟨g2, 0 + k, none⟩) hg2).trans (hS2 k ss[k] (by simp))
      simp only [Nat.zero_add] at c1 c2
      go_wp2_with fail
      go_quiet (fail)
      go_wp2_with fail
      go_roundw
      case rel => exact ⟨k + 1, by omega, by go_num, below_drewN hB nq⟩
      case measure => simp [intOf]; omega
    · go_wp2_with fail
      go_ret
      exact ⟨rfl, hB⟩

theorem any_take (ss : List ByteArray) (nm : ByteArray) (k : Nat) (hk : k < ss.length) : ((ss.take (k + 1)).any fun y => y.toList == nm.toList) = (((ss.take k).any fun y => y.toList == nm.toList) || ((ss[k]).toList == nm.toList)) := by
  rw [List.take_succ_eq_append_getElem hk, List.any_append]; simp
set_option maxHeartbeats 1000000 in
theorem wrHas_any (ss : List ByteArray) (v : Value) (nm : ByteArray) (w : World) (h : Lst w v ss) (hn : ss.length ≤ 1000) :
    Calls Tryz.prog 32 #[v, .string nm] w fun e w' => e = .returned (.bool (ss.any fun y => y.toList == nm.toList)) ∧ w' = w := by
  by_cases h0 : ss = []
  · subst h0
    obtain ⟨a1, c1, rfl⟩ := h.shape
    simp only [List.length_nil]
    go_enter Tryz.func32, Tryz.ntmps32
    go_wp2
    go_rounds 1
    go_ret
    exact ⟨rfl, rfl⟩
  rcases h with ⟨_, h⟩ | h
  · exact absurd h h0
  obtain ⟨g, c, rfl, hS, hg, _, _⟩ := h
  go_enter Tryz.func32, Tryz.ntmps32
  go_wp2
  go_loop [5] (fun i => ∃ k : Nat, k ≤ ss.length ∧ i = .int .i64 k ∧ ((ss.take k).any fun y => y.toList == nm.toList) = false) (fun i => ss.length - (intOf i).toNat)
  case atStart => exact ⟨0, by omega, rfl, rfl⟩
  case round =>
    obtain ⟨k, hk, rfl, hal⟩ := hrel
    have Hal : Hid (((ss.take k).any fun y => y.toList == nm.toList) = false) := hal
    clear hal
    by_cases hp : k < ss.length
    · have c0 := hS k ss[k] (by simp)
      simp only [Nat.zero_add] at c0
      cases hq : ((ss[k]).toList == nm.toList)
      · have Hq : Hid (((ss[k]).toList == nm.toList) = false) := hq
        go_wp2
        go_round
        case rel => exact ⟨k + 1, by omega, by go_num, by rw [any_take ss nm k hp, Hal.out, Hq.out]; rfl⟩
        case measure => simp [intOf]; omega
      · have Hq : Hid ((ss.any fun y => y.toList == nm.toList) = true) := by
          show _ = _
          rw [List.any_eq_true]; exact ⟨ss[k], by simp, hq⟩
        go_wp2
        go_ret
        exact ⟨ret_bool Hq.out.symm, rfl⟩
    · have Hq : Hid ((ss.any fun y => y.toList == nm.toList) = false) := by
        show _ = _
        have := Hal.out
        rwa [List.take_of_length_le (by omega)] at this
      go_wp2
      go_ret
      exact ⟨ret_bool Hq.out.symm, rfl⟩

theorem all_take (a : List ByteArray) (f : ByteArray → Bool) (k : Nat) (hk : k < a.length) : (a.take (k + 1)).all f = ((a.take k).all f && f a[k]) := by
  rw [List.take_succ_eq_append_getElem hk, List.all_append]; simp
set_option maxHeartbeats 1000000 in
theorem wrAll_any (a b : List ByteArray) (va vb : Value) (w : World) (ha : Lst w va a) (hb : Lst w vb b) (hna : a.length ≤ 1000) (hnb : b.length ≤ 1000) (hall : allB2 a b = true) :
    Calls Tryz.prog 10 #[va, vb] w fun e w' => e = .returned (.bool true) ∧ w' = w := by
  by_cases h0 : a = []
  · subst h0
    obtain ⟨a1, c1, rfl⟩ := ha.shape
    simp only [List.length_nil]
    go_enter Tryz.func10, Tryz.ntmps10
    go_wp2
    go_rounds 1
    go_ret
    exact ⟨rfl, rfl⟩
  rcases ha with ⟨_, h⟩ | ha
  · exact absurd h h0
  obtain ⟨g, c, rfl, hS, hg, _, _⟩ := ha
  have Hall : Hid (∀ k (hk : k < a.length), (b.any fun y => y.toList == (a[k]).toList) = true) := by
    show _; intro k hk
    have := List.all_eq_true.1 hall a[k] (by simp)
    exact this
  clear hall
  go_enter Tryz.func10, Tryz.ntmps10
  go_wp2
  go_loop [5] (fun i => ∃ k : Nat, k ≤ a.length ∧ i = .int .i64 k) (fun i => a.length - (intOf i).toNat)
  case atStart => exact ⟨0, by omega, rfl⟩
  case round =>
    obtain ⟨k, hk, rfl⟩ := hrel
    by_cases hp : k < a.length
    · have c0 := hS k a[k] (by simp)
      simp only [Nat.zero_add] at c0
      have Hk := Hall.out k hp
      go_wp2_with fail
      refine (wrHas_any b vb (a[k]) w hb hnb).mono ?_
      rintro e w' ⟨he, hw⟩; obtain rfl := hw.symm; clear hw
      rw [Hk] at he
      subst he
      go_wp2_with fail
      go_round
      case rel => exact ⟨k + 1, by omega, by go_num⟩
      case measure => simp [intOf]; omega
    · go_wp2
      go_ret
      exact ⟨rfl, rfl⟩
end Go.Proofs.YtliebjbbomghiaaGreatDoor

/- The law of promise 20: its walk. -/
namespace Go.Proofs.YtliebjbbomghiaaGreatDoor
open Go.RowKit

theorem RcW.shapes {w : World} {base : Nat} {x : Rb} {ru su : Value} (h : RcW w base (x, ru, su)) : ∃ g1 m1 g2 m2, ru = .slice (some ⟨g1, 0, none⟩) x.ps.length m1 ∧ su = .slice (some ⟨g2, 0, none⟩) x.sl.length m2 := by
  obtain ⟨g1, n1, m1, e1⟩ : NN ru := h.nr
  obtain ⟨g2, n2, m2, e2⟩ : NN su := h.ns
  obtain ⟨_, _, e3⟩ := own_shape (v := ru) h.r
  obtain ⟨_, _, e4⟩ := own_shape (v := su) h.s
  subst e1 e2
  simp only [Value.slice.injEq] at e3 e4
  exact ⟨g1, m1, g2, m2, by rw [e3.2.1], by rw [e4.2.1]⟩
theorem RcW.recAt {w : World} {base g1 m1 : Nat} {x : Rb} {su : Value} (h : RcW w base (x, .slice (some ⟨g1, 0, none⟩) x.ps.length m1, su)) : RecAt w g1 0 x.ps ∧ g1 < w.heap.size := by
  have hr : w.ownsRow base 34 8 (.slice (some ⟨g1, 0, none⟩) x.ps.length m1) x.ps.length (rowP x.ps) := by rw [rowP_rowsF]; exact h.r
  exact ⟨recAt_own hr, (hr.lt g1 rfl).2⟩
set_option maxRecDepth 20000 in
set_option maxHeartbeats 16000000 in
theorem lawRunThings_any (a : Option Addr) (n cap : Nat) (a' : Option Addr) (n' cap' : Nat) (w : World) (hE : Ends w) (h : BytesAt w w.heap.size (.slice a n cap) n) (hcap : n ≤ cap) (hbig : cap ≤ maxLen) (h' : BytesAt w w.heap.size (.slice a' n' cap') n') (hcap' : n' ≤ cap') (hbig' : cap' ≤ maxLen) :
    Calls Tryz.prog 3 #[.slice a n cap, .slice a' n' cap'] w fun e' w' => e' = .returned (.bool true) ∧ Below w.heap.size w w' := by
  by_cases hn : 1048576 < n
  · go_enter Tryz.func3, Tryz.ntmps3
    go_wp2_with fail
    go_ret
    exact ⟨rfl, Below.refl _ _⟩
  by_cases hn' : 1048576 < n'
  · go_enter Tryz.func3, Tryz.ntmps3
    go_wp2_with fail
    go_ret
    exact ⟨rfl, Below.refl _ _⟩
  go_enter Tryz.func3, Tryz.ntmps3
  go_upto_region 4 with (go_at_call 4; refine (drawThings_any a n cap _ h hcap hbig).mono ?_; rintro e w1 ⟨⟨x, ru, su, nm, rfl, hc, hnm⟩, hB1⟩; obtain ⟨g1, m1, g2, m2, rfl, rfl⟩ := hc.shapes)
  obtain ⟨W2, hW2, kX, hb2⟩ : ∃ W2, w1.alloc (.cells #[.string x.nm, .slice (some ⟨g1, 0, none⟩) x.ps.length m1, .slice (some ⟨g2, 0, none⟩) x.sl.length m2, .string x.ad, .int .i64 x.si, .int .i64 x.st] 26) = W2 ∧ CB W2 w1.heap.size [.string x.nm, .slice (some ⟨g1, 0, none⟩) x.ps.length m1, .slice (some ⟨g2, 0, none⟩) x.sl.length m2, .string x.ad, .int .i64 x.si, .int .i64 x.st] ∧ Below w1.heap.size w1 W2 := ⟨_, rfl, cb_alloc w1 _ _, (Below.refl _ _).alloc (Nat.le_refl _) _⟩
  try rw [hW2]
  have hB2 := up_trans hB1 hb2
  have hc2 := hc.up hb2
  obtain ⟨hr2, hg2⟩ := hc2.recAt
  have hv2 : RbV W2 x (.slice (some ⟨g1, 0, none⟩) x.ps.length m1) (.slice (some ⟨g2, 0, none⟩) x.sl.length m2) := hc2.v
  clear hW2 hc hc2 hB1 hb2 h
  generalize w1.heap.size = q at *
  obtain ⟨ok, hok⟩ : ∃ ok, pB (RbOk x) = ok := ⟨_, rfl⟩
  have Hsub : Hid (ok = true → ∀ k (hk : k < x.ps.length), ((x.ps[k]).nm.toList == nm.toList) = true → allB2 (rbThings x (x.ps[k]).t) (rbThings x nm) = true ∧ allB2 (rbThings x (x.ps[k]).e) (rbThings x nm) = true) := fun e k hk he => rbThings_sub (pB_iff.1 (hok.trans e)) hk he
  have Hlen : Hid (∀ s, (rbThings x s).length ≤ 24) := rbThings_len24 x
  have hl1 := rbThings_len24 x nm
  have hkz := kX.2.2
  obtain ⟨d0, d1, d2, d3, d4, d5⟩ := kX.c6
  go_upto_region 5 with (go_at_call 5; refine (thingsP_any x _ _ nm W2 (hE.up hB2) hv2).mono ?_; rintro e w3 ⟨⟨u, rfl, hO⟩, hb3⟩; have hL3 := hO.lst; obtain ⟨al, cl, rfl⟩ := hL3.shape)
  clear d0 d1 d2 d3 d4 d5 hO
  have hB3 := up_trans hB2 hb3
  have hv3 := hv2.up hb3
  have hr3 := hr2.up hb3 hg2
  have kX3 := kX.up hb3 hkz
  have hg3 := Nat.lt_of_lt_of_le hg2 hb3.size
  clear hv2 kX hr2 hg2 hb3 hB2 hkz
  have hE3 := hE.up hB3
  have hkz := kX3.2.2
  go_cut [39] (fun v39 wc => v39 = .bool false ∧ Below w3.heap.size w3 wc)
  case first =>
    have hS1 : World.cell? w3.drew ⟨q, 0, none⟩ = some (.string x.nm) ∧ World.cell? w3.drew ⟨q, 1, none⟩ = some (.slice (some ⟨g1, 0, none⟩) x.ps.length m1) ∧ World.cell? w3.drew ⟨q, 2, none⟩ = some (.slice (some ⟨g2, 0, none⟩) x.sl.length m2) ∧ World.cell? w3.drew ⟨q, 3, none⟩ = some (.string x.ad) ∧ World.cell? w3.drew ⟨q, 4, none⟩ = some (.int .i64 x.si) ∧ World.cell? w3.drew ⟨q, 5, none⟩ = some (.int .i64 x.st) := kX3.c6
    have hbd : Below w3.heap.size w3 w3.drew := (Below.refl _ _).drew
    refine wp_region_x 99 (fun w' => World.cell? w' ⟨q, 0, none⟩ = some (.string x.nm) ∧ World.cell? w' ⟨q, 1, none⟩ = some (.slice (some ⟨g1, 0, none⟩) x.ps.length m1) ∧ World.cell? w' ⟨q, 2, none⟩ = some (.slice (some ⟨g2, 0, none⟩) x.sl.length m2) ∧ World.cell? w' ⟨q, 3, none⟩ = some (.string x.ad) ∧ World.cell? w' ⟨q, 4, none⟩ = some (.int .i64 x.si) ∧ World.cell? w' ⟨q, 5, none⟩ = some (.int .i64 x.st)) (by kernel_rfl) ?_
    generalize w3.drew = X1 at hS1 hbd ⊢
    refine tkx 0 rfl hS1 ?_
    refine tkx 1 rfl hS1 ?_
    refine tkx 2 rfl hS1 ?_
    refine anyX_one (i := 3) (by kernel_rfl) rfl (fun K hK => ?_)
    go_simp
    go_wp2_with (go_at_call 7; refine (thingsS_any x _ _ nm X1 (hv3.up hbd)).mono ?_; rintro e w4 ⟨⟨ut, rfl, hT⟩, hb4⟩)
    obtain ⟨gt, ct, rfl, -⟩ := id hT
    have hB4 := up_trans hbd hb4
    have hS4 : World.cell? w4 ⟨q, 0, none⟩ = some (.string x.nm) ∧ World.cell? w4 ⟨q, 1, none⟩ = some (.slice (some ⟨g1, 0, none⟩) x.ps.length m1) ∧ World.cell? w4 ⟨q, 2, none⟩ = some (.slice (some ⟨g2, 0, none⟩) x.sl.length m2) ∧ World.cell? w4 ⟨q, 3, none⟩ = some (.string x.ad) ∧ World.cell? w4 ⟨q, 4, none⟩ = some (.int .i64 x.si) ∧ World.cell? w4 ⟨q, 5, none⟩ = some (.int .i64 x.st) := (kX3.up hB4 hkz).c6
    refine hK.out _ _ (fun _ => hS4) ?_; clear hK K
    refine anyX_one (i := 4) (by kernel_rfl) rfl (fun K hK => ?_)
    go_simp
    go_wp2_with (go_at_call 6; refine (wrTexts_any (rbThings x nm) _ _ w4 (hL3.up hB4) (.inr hT) (by omega)).mono ?_; rintro e w5 ⟨rfl, hb5⟩)
    have hB5 := up_trans hB4 hb5
    have hS5 : World.cell? w5 ⟨q, 0, none⟩ = some (.string x.nm) ∧ World.cell? w5 ⟨q, 1, none⟩ = some (.slice (some ⟨g1, 0, none⟩) x.ps.length m1) ∧ World.cell? w5 ⟨q, 2, none⟩ = some (.slice (some ⟨g2, 0, none⟩) x.sl.length m2) ∧ World.cell? w5 ⟨q, 3, none⟩ = some (.string x.ad) ∧ World.cell? w5 ⟨q, 4, none⟩ = some (.int .i64 x.si) ∧ World.cell? w5 ⟨q, 5, none⟩ = some (.int .i64 x.st) := (kX3.up hB5 hkz).c6
    refine hK.out _ _ (fun _ => hS5) ?_; clear hK K
    refine tkx 5 rfl hS5 ?_
    refine tkx 6 rfl hS5 ?_
    refine tkx 7 rfl hS5 ?_
    refine tkx 9 rfl hS5 ?_
    refine anyX_one (i := 8) (by kernel_rfl) rfl (fun K hK => ?_)
    go_simp
    go_wp2_with (go_at_call 8; refine (batchOkP_any x _ _ w5 (hE3.up hB5) (hv3.up hB5)).mono ?_; rw [hok]; rintro e w6 ⟨rfl, hb6⟩)
    have hB6 := up_trans hB5 hb6
    have hS6 : World.cell? w6 ⟨q, 0, none⟩ = some (.string x.nm) ∧ World.cell? w6 ⟨q, 1, none⟩ = some (.slice (some ⟨g1, 0, none⟩) x.ps.length m1) ∧ World.cell? w6 ⟨q, 2, none⟩ = some (.slice (some ⟨g2, 0, none⟩) x.sl.length m2) ∧ World.cell? w6 ⟨q, 3, none⟩ = some (.string x.ad) ∧ World.cell? w6 ⟨q, 4, none⟩ = some (.int .i64 x.si) ∧ World.cell? w6 ⟨q, 5, none⟩ = some (.int .i64 x.st) := (kX3.up hB6 hkz).c6
    refine hK.out _ _ (fun _ => hS6) ?_; clear hK K
    refine anyX_one (i := 10) (by kernel_rfl) rfl (fun K hK => ?_)
    go_simp
    go_wp2_with (go_at_call 9; refine (batchOkS_any x _ _ w6 (hv3.up hB6)).mono ?_; rw [hok]; rintro e w7 ⟨rfl, hb7⟩)
    have hB7 := up_trans hB6 hb7
    have hS7 : World.cell? w7 ⟨q, 0, none⟩ = some (.string x.nm) ∧ World.cell? w7 ⟨q, 1, none⟩ = some (.slice (some ⟨g1, 0, none⟩) x.ps.length m1) ∧ World.cell? w7 ⟨q, 2, none⟩ = some (.slice (some ⟨g2, 0, none⟩) x.sl.length m2) ∧ World.cell? w7 ⟨q, 3, none⟩ = some (.string x.ad) ∧ World.cell? w7 ⟨q, 4, none⟩ = some (.int .i64 x.si) ∧ World.cell? w7 ⟨q, 5, none⟩ = some (.int .i64 x.st) := (kX3.up hB7 hkz).c6
    refine hK.out _ _ (fun _ => hS7) ?_; clear hK K
    refine tkx 11 rfl hS7 ?_
    refine anyX_one (i := 12) (by kernel_rfl) rfl (fun K hK => ?_)
    go_simp
    refine hK.out _ _ (fun _ => hS7) ?_; clear hK K
    refine anyX_done (by kernel_rfl) ?_ _
    clear hS1 hS4 hS5 hS6 hS7 hb4 hb5 hb6 hb7 hT
    go_wp2_with fail
    go_meet
    case rel => exact ⟨rfl, hB7⟩
  case rest =>
  obtain ⟨rfl, hBc⟩ := hcut
  have hB4 := up_trans hB3 hBc
  have hv4 := hv3.up hBc
  have hr4 := hr3.up hBc hg3
  have kX4 := kX3.up hBc hkz
  have hL4 := hL3.up hBc
  have hg4 := Nat.lt_of_lt_of_le hg3 hBc.size
  have hE4 := hE3.up hBc
  clear hv3 hr3 kX3 hL3 hg3 hE3 hBc hB3 hkz
  have hkz := kX4.2.2
  have hnp : x.ps.length ≤ 1048576 := hv4.np
  obtain ⟨W, rfl⟩ : ∃ W, W = wc := ⟨_, rfl⟩
  go_wp2_with fail
  go_loopw [8] (fun i w' => ∃ k : Nat, k ≤ x.ps.length ∧ i = .int .i64 k ∧ Below W.heap.size W w') (fun i _ => x.ps.length - (intOf i).toNat)
  case atStart => exact ⟨0, by omega, rfl, Below.refl _ _⟩
  case round =>
    obtain ⟨k, hk, rfl, hB⟩ := hrel
    have hBW := up_trans hB4 hB
    have kXr := kX4.up hB hkz
    have hvr := hv4.up hB
    obtain ⟨d0, d1, d2, d3, d4, d5⟩ := kXr.c6
    by_cases hp : k < x.ps.length
    case neg =>
      have hp' : ¬ (k : Int) < (x.ps.length : Int) := by omega
      clear hvr kXr
      go_upto_region 12 with fail
      clear d0 d1 d2 d3 d4 d5
      obtain ⟨WL, rfl⟩ : ∃ WL, WL = wr := ⟨_, rfl⟩
      have hBL := hBW
      clear hBW hB hv4 hr4 kX4 hL4 Hsub Hlen hok
      (go_upto_region 13 with (go_at_call 11; refine (drawOwn_any a' n' cap' _ (h'.up hBL hBL.size) hcap' hbig').mono ?_; rintro e v1 ⟨⟨y, ru, su, rfl, hc1⟩, hb1⟩; obtain ⟨g3, m3, g4, m4, rfl, rfl⟩ := hc1.shapes); obtain ⟨V2, hV2, kY, hb2⟩ : ∃ V2, v1.alloc (.cells #[.string y.nm, .slice (some ⟨g3, 0, none⟩) y.ps.length m3, .slice (some ⟨g4, 0, none⟩) y.sl.length m4, .string y.ad, .int .i64 y.si, .int .i64 y.st] 26) = V2 ∧ CB V2 v1.heap.size [.string y.nm, .slice (some ⟨g3, 0, none⟩) y.ps.length m3, .slice (some ⟨g4, 0, none⟩) y.sl.length m4, .string y.ad, .int .i64 y.si, .int .i64 y.st] ∧ Below v1.heap.size v1 V2 := ⟨_, rfl, cb_alloc v1 _ _, (Below.refl _ _).alloc (Nat.le_refl _) _⟩; (try rw [hV2]); have hB2 := up_trans (up_trans hBL hb1) hb2; have hv2 : RbV V2 y (.slice (some ⟨g3, 0, none⟩) y.ps.length m3) (.slice (some ⟨g4, 0, none⟩) y.sl.length m4) := (hc1.up hb2).v; clear hV2 hc1 hb1 hb2; generalize v1.heap.size = r at *; obtain ⟨ok, hok⟩ : ∃ ok, pB (RbOk y) = ok := ⟨_, rfl⟩; have Hp : Hid (ok = true → 0 < (rbOwn y).length) := (fun e => rbOwn_pos (pB_iff.1 (hok.trans e))); have hl1 := rbOwn_len24 y; have hl2 := rbThings_len24 y y.ad; have Hs : Hid (allB2 (rbOwn y) (rbThings y y.ad) = true) := rbOwn_sub y; have hkz := kY.2.2; obtain ⟨d0, d1, d2, d3, d4, d5⟩ := kY.c6; go_upto_region 14 with (go_at_call 12; refine (ownP_any y _ _ V2 (hE.up hB2) hv2).mono ?_; rintro e v3 ⟨⟨uo, rfl, hO⟩, hb3⟩; have hL3 := hO.lst; obtain ⟨ao, co, rfl⟩ := hL3.shape; have hB3 := up_trans hB2 hb3; have hv3 := hv2.up hb3; have kY3 := kY.up hb3 hkz; clear d0 d1 d2 d3 d4 d5; obtain ⟨d0, d1, d2, d3, d4, d5⟩ := kY3.c6); clear hO hv2 kY; go_wp2_with (first | (go_at_call 13; refine (ownS_any y _ _ v3 hv3).mono ?_; rintro e v4 ⟨⟨ut, rfl, hT⟩, hb4⟩; obtain ⟨gt, ct, rfl, -⟩ := id hT; have hB4 := up_trans hB3 hb4; have hv4 := hv3.up hb4; have kY4 := kY3.up hb4 kY3.2.2; have hL4 := hL3.up hb4; clear d0 d1 d2 d3 d4 d5; obtain ⟨d0, d1, d2, d3, d4, d5⟩ := kY4.c6) | (go_at_call 6; refine (wrTexts_any (rbOwn y) _ _ v4 hL4 (.inr hT) (by omega)).mono ?_; rintro e v5 ⟨rfl, hb5⟩; have hB5 := up_trans hB4 hb5; have hv5 := hv4.up hb5; have kY5 := kY4.up hb5 kY4.2.2; have hL5 := hL4.up hb5; clear d0 d1 d2 d3 d4 d5; obtain ⟨d0, d1, d2, d3, d4, d5⟩ := kY5.c6) | (go_at_call 5; refine (thingsP_any y _ _ y.ad v5 (hE.up hB5) hv5).mono ?_; rintro e v6 ⟨⟨uq, rfl, hQ⟩, hb6⟩; have hQ6 := hQ.lst; obtain ⟨aq, cq, rfl⟩ := hQ6.shape; have hB6 := up_trans hB5 hb6; have hv6 := hv5.up hb6; have kY6 := kY5.up hb6 kY5.2.2; have hL6 := hL5.up hb6; clear d0 d1 d2 d3 d4 d5; obtain ⟨d0, d1, d2, d3, d4, d5⟩ := kY6.c6) | (go_at_call 10; refine (wrAll_any (rbOwn y) (rbThings y y.ad) _ _ v6 hL6 hQ6 (by omega) (by omega) Hs.out).mono ?_; rintro e w' ⟨rfl, hw⟩; obtain rfl := hw.symm; clear hw)); clear hT hQ hQ6 hv3 hv4 hv5 kY3 kY4 kY5 hL3 hL4 hL5 hL6; refine (batchOkS_any y _ _ v6 hv6).mono ?_; rw [hok]; rintro e v7 ⟨rfl, hb7⟩; have hB7 := up_trans hB6 hb7; clear hok; cases ok; (go_wp2_with fail; go_ret; exact ⟨rfl, hB7⟩); (have hp7 : 0 < (rbOwn y).length := Hp.out (by simp); go_wp2_with fail; go_ret; exact ⟨ret_bool (decide_eq_true hp7), hB7⟩))
    case pos =>
      have hp' : (k : Int) < (x.ps.length : Int) := by omega
      cases ok
      case false =>
        go_upto_region 12 with (go_at_call 9; refine (batchOkS_any x _ _ wr hvr).mono ?_; rw [hok]; rintro e w5 ⟨rfl, hb5⟩)
        have hBL := up_trans hBW hb5
        clear d0 d1 d2 d3 d4 d5 hvr kXr hB hBW hb5 hv4 hr4 kX4 hL4 Hsub Hlen hok
        (go_upto_region 13 with (go_at_call 11; refine (drawOwn_any a' n' cap' _ (h'.up hBL hBL.size) hcap' hbig').mono ?_; rintro e v1 ⟨⟨y, ru, su, rfl, hc1⟩, hb1⟩; obtain ⟨g3, m3, g4, m4, rfl, rfl⟩ := hc1.shapes); obtain ⟨V2, hV2, kY, hb2⟩ : ∃ V2, v1.alloc (.cells #[.string y.nm, .slice (some ⟨g3, 0, none⟩) y.ps.length m3, .slice (some ⟨g4, 0, none⟩) y.sl.length m4, .string y.ad, .int .i64 y.si, .int .i64 y.st] 26) = V2 ∧ CB V2 v1.heap.size [.string y.nm, .slice (some ⟨g3, 0, none⟩) y.ps.length m3, .slice (some ⟨g4, 0, none⟩) y.sl.length m4, .string y.ad, .int .i64 y.si, .int .i64 y.st] ∧ Below v1.heap.size v1 V2 := ⟨_, rfl, cb_alloc v1 _ _, (Below.refl _ _).alloc (Nat.le_refl _) _⟩; (try rw [hV2]); have hB2 := up_trans (up_trans hBL hb1) hb2; have hv2 : RbV V2 y (.slice (some ⟨g3, 0, none⟩) y.ps.length m3) (.slice (some ⟨g4, 0, none⟩) y.sl.length m4) := (hc1.up hb2).v; clear hV2 hc1 hb1 hb2; generalize v1.heap.size = r at *; obtain ⟨ok, hok⟩ : ∃ ok, pB (RbOk y) = ok := ⟨_, rfl⟩; have Hp : Hid (ok = true → 0 < (rbOwn y).length) := (fun e => rbOwn_pos (pB_iff.1 (hok.trans e))); have hl1 := rbOwn_len24 y; have hl2 := rbThings_len24 y y.ad; have Hs : Hid (allB2 (rbOwn y) (rbThings y y.ad) = true) := rbOwn_sub y; have hkz := kY.2.2; obtain ⟨d0, d1, d2, d3, d4, d5⟩ := kY.c6; go_upto_region 14 with (go_at_call 12; refine (ownP_any y _ _ V2 (hE.up hB2) hv2).mono ?_; rintro e v3 ⟨⟨uo, rfl, hO⟩, hb3⟩; have hL3 := hO.lst; obtain ⟨ao, co, rfl⟩ := hL3.shape; have hB3 := up_trans hB2 hb3; have hv3 := hv2.up hb3; have kY3 := kY.up hb3 hkz; clear d0 d1 d2 d3 d4 d5; obtain ⟨d0, d1, d2, d3, d4, d5⟩ := kY3.c6); clear hO hv2 kY; go_wp2_with (first | (go_at_call 13; refine (ownS_any y _ _ v3 hv3).mono ?_; rintro e v4 ⟨⟨ut, rfl, hT⟩, hb4⟩; obtain ⟨gt, ct, rfl, -⟩ := id hT; have hB4 := up_trans hB3 hb4; have hv4 := hv3.up hb4; have kY4 := kY3.up hb4 kY3.2.2; have hL4 := hL3.up hb4; clear d0 d1 d2 d3 d4 d5; obtain ⟨d0, d1, d2, d3, d4, d5⟩ := kY4.c6) | (go_at_call 6; refine (wrTexts_any (rbOwn y) _ _ v4 hL4 (.inr hT) (by omega)).mono ?_; rintro e v5 ⟨rfl, hb5⟩; have hB5 := up_trans hB4 hb5; have hv5 := hv4.up hb5; have kY5 := kY4.up hb5 kY4.2.2; have hL5 := hL4.up hb5; clear d0 d1 d2 d3 d4 d5; obtain ⟨d0, d1, d2, d3, d4, d5⟩ := kY5.c6) | (go_at_call 5; refine (thingsP_any y _ _ y.ad v5 (hE.up hB5) hv5).mono ?_; rintro e v6 ⟨⟨uq, rfl, hQ⟩, hb6⟩; have hQ6 := hQ.lst; obtain ⟨aq, cq, rfl⟩ := hQ6.shape; have hB6 := up_trans hB5 hb6; have hv6 := hv5.up hb6; have kY6 := kY5.up hb6 kY5.2.2; have hL6 := hL5.up hb6; clear d0 d1 d2 d3 d4 d5; obtain ⟨d0, d1, d2, d3, d4, d5⟩ := kY6.c6) | (go_at_call 10; refine (wrAll_any (rbOwn y) (rbThings y y.ad) _ _ v6 hL6 hQ6 (by omega) (by omega) Hs.out).mono ?_; rintro e w' ⟨rfl, hw⟩; obtain rfl := hw.symm; clear hw)); clear hT hQ hQ6 hv3 hv4 hv5 kY3 kY4 kY5 hL3 hL4 hL5 hL6; refine (batchOkS_any y _ _ v6 hv6).mono ?_; rw [hok]; rintro e v7 ⟨rfl, hb7⟩; have hB7 := up_trans hB6 hb7; clear hok; cases ok; (go_wp2_with fail; go_ret; exact ⟨rfl, hB7⟩); (have hp7 : 0 < (rbOwn y).length := Hp.out (by simp); go_wp2_with fail; go_ret; exact ⟨ret_bool (decide_eq_true hp7), hB7⟩))
      case true =>
        go_upto_region 10 with (go_at_call 9; refine (batchOkS_any x _ _ wr hvr).mono ?_; rw [hok]; rintro e w5 ⟨rfl, hb5⟩)
        clear d0 d1 d2 d3 d4 d5
        have hB5 := up_trans hB hb5
        have hBW5 := up_trans hBW hb5
        clear hvr kXr hB hBW hb5
        have hv5 := hv4.up hB5
        have kX5 := kX4.up hB5 hkz
        have hL5 := hL4.up hB5
        have hE5 := hE4.up hB5
        have hkz5 := kX5.2.2
        obtain ⟨c0, -, -, -, -, -, c6, c7⟩ := (hr4.up hB5 hg4).cells k hp
        have hg5 := Nat.lt_of_lt_of_le hg4 hB5.size
        simp only [Nat.zero_add] at c0 c6 c7
        have Hs2 : Hid (((x.ps[k]).nm.toList == nm.toList) = true → allB2 (rbThings x (x.ps[k]).t) (rbThings x nm) = true ∧ allB2 (rbThings x (x.ps[k]).e) (rbThings x nm) = true) := Hsub.out (by simp) k hp
        have Hp : Hid (k < x.ps.length) := hp
        generalize x.ps[k] = p at *
        have hl2 := Hlen.out p.t
        have hl3 := Hlen.out p.e
        have hS0 : (World.cell? w5.drew ⟨q, 0, none⟩ = some (.string x.nm) ∧ World.cell? w5.drew ⟨q, 1, none⟩ = some (.slice (some ⟨g1, 0, none⟩) x.ps.length m1) ∧ World.cell? w5.drew ⟨q, 2, none⟩ = some (.slice (some ⟨g2, 0, none⟩) x.sl.length m2) ∧ World.cell? w5.drew ⟨q, 3, none⟩ = some (.string x.ad) ∧ World.cell? w5.drew ⟨q, 4, none⟩ = some (.int .i64 x.si) ∧ World.cell? w5.drew ⟨q, 5, none⟩ = some (.int .i64 x.st)) ∧ World.cell? w5.drew ⟨g1, k * 8, none⟩ = some (.string p.nm) ∧ World.cell? w5.drew ⟨g1, k * 8 + 6, none⟩ = some (.string p.t) ∧ World.cell? w5.drew ⟨g1, k * 8 + 7, none⟩ = some (.string p.e) := ⟨kX5.c6, c0, c6, c7⟩
        have hbd : Below w5.heap.size w5 w5.drew := (Below.refl _ _).drew
        have HS : Hid (∀ w', Below w5.heap.size w5 w' → (World.cell? w' ⟨q, 0, none⟩ = some (.string x.nm) ∧ World.cell? w' ⟨q, 1, none⟩ = some (.slice (some ⟨g1, 0, none⟩) x.ps.length m1) ∧ World.cell? w' ⟨q, 2, none⟩ = some (.slice (some ⟨g2, 0, none⟩) x.sl.length m2) ∧ World.cell? w' ⟨q, 3, none⟩ = some (.string x.ad) ∧ World.cell? w' ⟨q, 4, none⟩ = some (.int .i64 x.si) ∧ World.cell? w' ⟨q, 5, none⟩ = some (.int .i64 x.st)) ∧ World.cell? w' ⟨g1, k * 8, none⟩ = some (.string p.nm) ∧ World.cell? w' ⟨g1, k * 8 + 6, none⟩ = some (.string p.t) ∧ World.cell? w' ⟨g1, k * 8 + 7, none⟩ = some (.string p.e)) := fun w' hb => ⟨(kX5.up hb hkz5).c6, (hb.cell (p := ⟨g1, k * 8, none⟩) hg5).trans c0, (hb.cell (p := ⟨g1, k * 8 + 6, none⟩) hg5).trans c6, (hb.cell (p := ⟨g1, k * 8 + 7, none⟩) hg5).trans c7⟩
        clear c0 c6 c7 Hsub hv4 hr4 kX4 hL4
        go_cut [84] (fun v84 wc => v84 = .bool false ∧ Below w5.heap.size w5 wc)
        case first =>
          refine wp_region_x 99 (fun w' => (World.cell? w' ⟨q, 0, none⟩ = some (.string x.nm) ∧ World.cell? w' ⟨q, 1, none⟩ = some (.slice (some ⟨g1, 0, none⟩) x.ps.length m1) ∧ World.cell? w' ⟨q, 2, none⟩ = some (.slice (some ⟨g2, 0, none⟩) x.sl.length m2) ∧ World.cell? w' ⟨q, 3, none⟩ = some (.string x.ad) ∧ World.cell? w' ⟨q, 4, none⟩ = some (.int .i64 x.si) ∧ World.cell? w' ⟨q, 5, none⟩ = some (.int .i64 x.st)) ∧ World.cell? w' ⟨g1, k * 8, none⟩ = some (.string p.nm) ∧ World.cell? w' ⟨g1, k * 8 + 6, none⟩ = some (.string p.t) ∧ World.cell? w' ⟨g1, k * 8 + 7, none⟩ = some (.string p.e)) (by kernel_rfl) ?_
          generalize w5.drew = X1 at hS0 hbd ⊢
          cases hq : (p.nm.toList == nm.toList)
          · clear Hs2
            refine tkx 0 rfl hS0 ?_
            refine tkx 1 rfl hS0 ?_
            refine tkx 2 rfl hS0 ?_
            refine tkx 3 rfl hS0 ?_
            refine tkx 4 rfl hS0 ?_
            refine tkx 5 rfl hS0 ?_
            refine tkx 6 rfl hS0 ?_
            refine tkx 7 rfl hS0 ?_
            refine tkx 8 rfl hS0 ?_
            refine skx 9 rfl hS0 ?_
            refine skx 10 rfl hS0 ?_
            refine skx 11 rfl hS0 ?_
            refine skx 12 rfl hS0 ?_
            refine skx 13 rfl hS0 ?_
            refine skx 14 rfl hS0 ?_
            refine skx 15 rfl hS0 ?_
            refine skx 16 rfl hS0 ?_
            refine skx 17 rfl hS0 ?_
            refine skx 18 rfl hS0 ?_
            refine skx 19 rfl hS0 ?_
            refine skx 20 rfl hS0 ?_
            refine skx 21 rfl hS0 ?_
            refine skx 22 rfl hS0 ?_
            refine skx 23 rfl hS0 ?_
            refine skx 24 rfl hS0 ?_
            refine skx 25 rfl hS0 ?_
            refine skx 26 rfl hS0 ?_
            refine skx 27 rfl hS0 ?_
            refine skx 28 rfl hS0 ?_
            refine skx 29 rfl hS0 ?_
            refine skx 30 rfl hS0 ?_
            refine skx 31 rfl hS0 ?_
            refine skx 32 rfl hS0 ?_
            refine anyX_one (i := 33) (by kernel_rfl) rfl (fun K hK => ?_)
            go_simp
            refine hK.out _ _ (fun _ => hS0) ?_; clear hK K
            refine anyX_done (by kernel_rfl) ?_ _
            clear hS0 HS
            go_wp2_with fail
            go_meet
            case rel => exact ⟨rfl, hbd⟩
          · have Hsa := (Hs2.out hq).1
            have Hsb := (Hs2.out hq).2
            have Hsa : Hid (allB2 (rbThings x p.t) (rbThings x nm) = true) := Hsa
            have Hsb : Hid (allB2 (rbThings x p.e) (rbThings x nm) = true) := Hsb
            clear Hs2
            refine tkx 0 rfl hS0 ?_
            refine tkx 1 rfl hS0 ?_
            refine tkx 2 rfl hS0 ?_
            refine tkx 3 rfl hS0 ?_
            refine tkx 4 rfl hS0 ?_
            refine tkx 5 rfl hS0 ?_
            refine tkx 6 rfl hS0 ?_
            refine tkx 7 rfl hS0 ?_
            refine tkx 8 rfl hS0 ?_
            refine tkx 9 rfl hS0 ?_
            refine tkx 10 rfl hS0 ?_
            refine tkx 11 rfl hS0 ?_
            refine tkx 12 rfl hS0 ?_
            refine tkx 13 rfl hS0 ?_
            refine tkx 14 rfl hS0 ?_
            refine tkx 15 rfl hS0 ?_
            refine tkx 17 rfl hS0 ?_
            refine anyX_one (i := 16) (by kernel_rfl) rfl (fun K hK => ?_)
            go_simp
            go_wp2_with (go_at_call 5; refine (thingsP_any x _ _ p.t _ (hE5.up hbd) (hv5.up hbd)).mono ?_; rintro e w6 ⟨⟨uq, rfl, hQ⟩, hb6⟩)
            have hQ6 := hQ.lst
            clear hQ
            obtain ⟨aq6, cq6, rfl⟩ := hQ6.shape
            have hB6 := up_trans hbd hb6
            have hS6 : (World.cell? w6 ⟨q, 0, none⟩ = some (.string x.nm) ∧ World.cell? w6 ⟨q, 1, none⟩ = some (.slice (some ⟨g1, 0, none⟩) x.ps.length m1) ∧ World.cell? w6 ⟨q, 2, none⟩ = some (.slice (some ⟨g2, 0, none⟩) x.sl.length m2) ∧ World.cell? w6 ⟨q, 3, none⟩ = some (.string x.ad) ∧ World.cell? w6 ⟨q, 4, none⟩ = some (.int .i64 x.si) ∧ World.cell? w6 ⟨q, 5, none⟩ = some (.int .i64 x.st)) ∧ World.cell? w6 ⟨g1, k * 8, none⟩ = some (.string p.nm) ∧ World.cell? w6 ⟨g1, k * 8 + 6, none⟩ = some (.string p.t) ∧ World.cell? w6 ⟨g1, k * 8 + 7, none⟩ = some (.string p.e) := HS.out _ hB6
            refine hK.out _ _ (fun _ => hS6) ?_; clear hK K
            refine anyX_one (i := 18) (by kernel_rfl) rfl (fun K hK => ?_)
            go_simp
            go_wp2_with (go_at_call 10; refine (wrAll_any (rbThings x p.t) (rbThings x nm) _ _ w6 hQ6 (hL5.up hB6) (by omega) (by omega) Hsa.out).mono ?_; rintro e w' ⟨rfl, hw⟩; obtain rfl := hw.symm; clear hw)
            refine hK.out _ _ (fun _ => hS6) ?_; clear hK K
            refine tkx 19 rfl hS6 ?_
            refine tkx 20 rfl hS6 ?_
            refine tkx 21 rfl hS6 ?_
            refine tkx 22 rfl hS6 ?_
            refine tkx 23 rfl hS6 ?_
            refine tkx 24 rfl hS6 ?_
            refine tkx 25 rfl hS6 ?_
            refine tkx 26 rfl hS6 ?_
            refine tkx 27 rfl hS6 ?_
            refine tkx 29 rfl hS6 ?_
            refine anyX_one (i := 28) (by kernel_rfl) rfl (fun K hK => ?_)
            go_simp
            go_wp2_with (go_at_call 5; refine (thingsP_any x _ _ p.e _ (hE5.up hB6) (hv5.up hB6)).mono ?_; rintro e w7 ⟨⟨uq, rfl, hQ⟩, hb7⟩)
            have hQ7 := hQ.lst
            clear hQ
            obtain ⟨aq7, cq7, rfl⟩ := hQ7.shape
            have hB7 := up_trans hB6 hb7
            have hS7 : (World.cell? w7 ⟨q, 0, none⟩ = some (.string x.nm) ∧ World.cell? w7 ⟨q, 1, none⟩ = some (.slice (some ⟨g1, 0, none⟩) x.ps.length m1) ∧ World.cell? w7 ⟨q, 2, none⟩ = some (.slice (some ⟨g2, 0, none⟩) x.sl.length m2) ∧ World.cell? w7 ⟨q, 3, none⟩ = some (.string x.ad) ∧ World.cell? w7 ⟨q, 4, none⟩ = some (.int .i64 x.si) ∧ World.cell? w7 ⟨q, 5, none⟩ = some (.int .i64 x.st)) ∧ World.cell? w7 ⟨g1, k * 8, none⟩ = some (.string p.nm) ∧ World.cell? w7 ⟨g1, k * 8 + 6, none⟩ = some (.string p.t) ∧ World.cell? w7 ⟨g1, k * 8 + 7, none⟩ = some (.string p.e) := HS.out _ hB7
            refine hK.out _ _ (fun _ => hS7) ?_; clear hK K
            refine anyX_one (i := 30) (by kernel_rfl) rfl (fun K hK => ?_)
            go_simp
            go_wp2_with (go_at_call 10; refine (wrAll_any (rbThings x p.e) (rbThings x nm) _ _ w7 hQ7 (hL5.up hB7) (by omega) (by omega) Hsb.out).mono ?_; rintro e w' ⟨rfl, hw⟩; obtain rfl := hw.symm; clear hw)
            refine hK.out _ _ (fun _ => hS7) ?_; clear hK K
            refine tkx 31 rfl hS7 ?_
            refine tkx 32 rfl hS7 ?_
            refine anyX_one (i := 33) (by kernel_rfl) rfl (fun K hK => ?_)
            go_simp
            refine hK.out _ _ (fun _ => hS7) ?_; clear hK K
            refine anyX_done (by kernel_rfl) ?_ _
            clear hS0 hS6 hS7 HS
            go_wp2_with fail
            go_meet
            case rel => exact ⟨rfl, hB7⟩
        case rest =>
        obtain ⟨rfl, hBc⟩ := hcut
        have hB7 := up_trans hB5 hBc
        clear hS0 HS Hs2 hv5 kX5 hL5
        go_wp2_with fail
        go_roundw
        case rel => exact ⟨k + 1, by have := Hp.out; omega, by go_num, hB7⟩
        case measure => simp [intOf]; have := Hp.out; omega
end Go.Proofs.YtliebjbbomghiaaGreatDoor
