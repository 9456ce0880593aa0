/- Drawing: a recipe is spoilt. -/
import Derived.Test.YtcofjoacehacjaaGreatDoorDt
import Derived.Test.YtcofjoacehacjaaGreatDoorDs1
namespace Go.Proofs.YtcofjoacehacjaaGreatDoor
open Go.RowKit

theorem rowP_set : ∀ (qs : List Ph) (k : Nat) (p : Ph), k < qs.length → ((((((((rowP qs).set (k * 8) (.string p.nm)).set (k * 8 + 1) (.int .i64 p.k)).set (k * 8 + 2) (.string p.a)).set (k * 8 + 3) (.string p.b)).set (k * 8 + 4) (.int .i64 p.n)).set (k * 8 + 5) (.int .i64 p.wi)).set (k * 8 + 6) (.string p.t)).set (k * 8 + 7) (.string p.e) = rowP (qs.set k p)
  | q :: rest, 0, p, _ => by simp [rowP, Ph.cells]
  | q :: rest, k + 1, p, h => by
    have ih := rowP_set rest k p (by simpa using h)
    rw [List.set_cons_succ, rowP, rowP, ← ih]
    have hl : q.cells.length = 8 := rfl
    have hs : ∀ (l : List Value) (j : Nat) (u : Value), (q.cells ++ l).set ((k + 1) * 8 + j) u = q.cells ++ l.set (k * 8 + j) u := fun l j u => by
      rw [List.set_append_right _ _ (by rw [hl]; omega), hl, show (k + 1) * 8 + j - 8 = k * 8 + j by omega]
    have h0 := hs (rowP rest) 0 (.string p.nm)
    rw [Nat.add_zero, Nat.add_zero] at h0
    rw [h0, hs, hs, hs, hs, hs, hs, hs]; rfl
theorem own_store {w : World} {base e g cap k : Nat} {qs : List Ph} {p : Ph} (h : w.ownsRow base e 8 (.slice (some ⟨g, 0, none⟩) qs.length cap) qs.length (rowP qs)) (hk : k < qs.length) :
    (w.setCells g (k * 8) p.cells).ownsRow base e 8 (.slice (some ⟨g, 0, none⟩) qs.length cap) qs.length (rowP (qs.set k p)) ∧ w.grownBy (w.setCells g (k * 8) p.cells) (some g) := by
  have h0 := h.stored (k * 8) (.string p.nm)
  have h1 := h0.1.stored (k * 8 + 1) (.int .i64 p.k)
  have h2 := h1.1.stored (k * 8 + 2) (.string p.a)
  have h3 := h2.1.stored (k * 8 + 3) (.string p.b)
  have h4 := h3.1.stored (k * 8 + 4) (.int .i64 p.n)
  have h5 := h4.1.stored (k * 8 + 5) (.int .i64 p.wi)
  have h6 := h5.1.stored (k * 8 + 6) (.string p.t)
  have h7 := h6.1.stored (k * 8 + 7) (.string p.e)
  rw [rowP_set qs k p hk] at h7
  exact ⟨h7.1, grown_trans (grown_trans (grown_trans (grown_trans (grown_trans (grown_trans (grown_trans h0.2 h1.2) h2.2) h3.2) h4.2) h5.2) h6.2) h7.2⟩
theorem rowP_one : ∀ (ps : List Ph), ∀ u ∈ rowP ps, u.oneCell' = true
  | [], u, hu => by simp [rowP] at hu
  | p :: rest, u, hu => by
    rw [rowP, List.mem_append] at hu
    rcases hu with hu | hu
    · exact one8 p u hu
    · exact rowP_one rest u hu
theorem size_z (s : ByteArray) (h : s.size ≤ 20) : ((⟨#[122]⟩ : ByteArray) ++ s).size ≤ maxLen := by
  rw [ByteArray.size_append]; unfold maxLen; show 1 + s.size ≤ _; omega
theorem own_there {w : World} {base e g cap n : Nat} {xs : List Value} (h : w.ownsRow base e 8 (.slice (some ⟨g, 0, none⟩) n cap) n xs) : w.there g 0 (n * 8) := fun j hj => by
  rw [Nat.zero_add]
  refine ⟨?_, h.frozenAt j⟩
  rw [h.cellAt j hj, List.getElem?_eq_getElem (by rw [h.1]; exact hj)]; rfl

set_option maxRecDepth 20000 in
set_option maxHeartbeats 4000000 in
theorem spoilR_any (rb len N : Nat) (v : Value) (ps : List Ph) (gx cx : Nat) (w : World) (hR : Rd w rb v len N) (hN : N ≤ 850000) (hx : RecAt w gx 0 ps) (h1 : 1 ≤ ps.length) (h12 : ps.length ≤ 12) (hpz : ∀ p ∈ ps, p.sz) (hgx : gx < w.heap.size) :
    Calls Tryz.prog 46 #[.pointer (some ⟨rb, 0, none⟩), .slice (some ⟨gx, 0, none⟩) ps.length cx] w
      fun e w' => (∃ (u : Value) (qs : List Ph), e = .returned u ∧ 1 ≤ qs.length ∧ qs.length ≤ 13 ∧ (∀ p ∈ qs, p.sz) ∧ w'.ownsRow w.heap.size 37 8 u qs.length (rowP qs)) ∧ Rd w' rb v len (N + 300) ∧ w.grownBy w' (some rb) := by
  have hlt := hR.lt
  obtain ⟨ii, hi, iz0, iz1, iz2⟩ := info_parts infoPh8
  have hnews : ∀ (j : Nat) (u : Value), (rowP ps)[j]? = some u → (w.alloc (.cells #[] 37)).cell? ((⟨gx, 0, none⟩ : Addr).add j) = some u := fun j u hu => by
    have hj : j < ps.length * 8 := by rw [← rowP_length]; exact (List.getElem?_eq_some_iff.1 hu).1
    have hp : ps[j / 8]? = some (ps[j / 8]'(by omega)) := by simp
    have hc := rowP_at ps (j / 8) _ hp (j % 8) ((ps[j / 8]'(by omega)).cells[j % 8]'(by show _ < 8; omega)) (by simp)
    rw [show j / 8 * 8 + j % 8 = j by omega, hu] at hc
    have hr := hx (j / 8) _ hp (j % 8) u (by rw [Option.some.inj hc]; simp)
    rw [Addr.add_mid, World.cell?_alloc_lt _ _ _ hgx]
    rw [show 0 + j / 8 * 8 + j % 8 = 0 + j by omega] at hr; exact hr
  have hone : ∀ u ∈ rowP ps, u.oneCell' = true := rowP_one ps
  go_enter Tryz.func46, Tryz.ntmps46
  go_wp2_with (at_builtin; refine wpList_append_own _ rfl _ _ 23 rfl w.heap.size 37 ii _ 8 104 Tryz.underlying23 hi iz0 iz1 iz2 rfl (by decide) (.slice (some ⟨w.heap.size, 0, none⟩) 0 0) 0 _ rfl (World.ownsRow_lit w #[] 0 (Nat.le_refl _) (by unfold maxLen; omega) rfl) ⟨gx, 0, none⟩ ps.length cx (rowP ps) rfl (rowP_length ps) hnews hone (by unfold maxLen; omega) (by omega) (by simp) ?_)
  intro v1 w1 hown1 hgrow1 _
  have hown1 : w1.ownsRow w.heap.size 37 8 v1 ps.length (rowP ps) := by simpa using hown1
  have hR1 := (hR.alloc (.cells #[] 37)).row (k := w.heap.size) hgrow1 hlt
  have hG1 : w.grownBy w1 (some rb) := grown_new (grown_alloc (grown_refl w (some rb)) _) hgrow1 (Nat.le_refl _)
  have hs1 : w.heap.size < w1.heap.size := by have := hgrow1.size; simp at this; omega
  obtain ⟨g, cap, rfl⟩ := own_ptr2 hown1 (by omega)
  clear hgrow1 hR hnews hone
  go_wp2_with fail
  refine (pick_any rb len _ v _ _ hR1 (by omega)).mono ?_
  rintro e w2 ⟨⟨x, rfl, hx0, hx1⟩, hR2, hg2⟩
  have hx2 := hx1 (by omega)
  obtain ⟨k, rfl⟩ : ∃ k : Nat, x = (k : Int) := ⟨x.toNat, by omega⟩
  have hk : k < ps.length := by omega
  have hown2 := own_grown hown1 hg2 hlt
  have hG2 := grown_trans hG1 hg2
  have hs2 := hg2.size
  clear hx1 hx2 hx0 hown1 hG1 hR1 hg2
  go_wp2_with fail
  refine (pick_any rb len _ v 6 _ hR2 (by omega)).mono ?_
  rintro e w3 ⟨⟨y, rfl, hy0, hy1⟩, hR3, hg3⟩
  have hy2 := hy1 (by omega)
  have hown3 := own_grown hown2 hg3 hlt
  have hG3 := grown_trans hG2 hg3
  have hs3 := hg3.size
  clear hy1 hown2 hG2 hR2 hg3
  have hRA := recAt_own hown3
  obtain ⟨c0, c1, c2, c3, c4, c5, c6, c7⟩ := hRA.cells k hk
  simp only [Nat.zero_add] at c0 c1 c2 c3 c4 c5 c6 c7
  have hpk : (ps[k]).sz := hpz _ (by simp)
  generalize hP : ps[k] = p at *
  rcases (by omega : y = 0 ∨ y = 1 ∨ y = 2 ∨ (3 ≤ y ∧ y ≤ 5)) with rfl | rfl | rfl | hy
  · have hown4 := hown3.alloc (.cells #[.string p.nm, .int .i64 p.k, .string p.a, .string p.b, .int .i64 p.n, .int .i64 p.wi, .string p.t, .string p.e] 37)
    have Hpz : Hid (∀ q ∈ ps ++ [p], q.sz) := by
      show _; intro q hq
      rcases List.mem_append.1 hq with hq | hq
      · exact hpz q hq
      · obtain rfl : q = p := by simpa using hq
        exact hpk
    go_wp2_with (at_builtin; refine wpList_append_own _ rfl _ _ 23 rfl w.heap.size 37 ii _ 8 104 Tryz.underlying23 hi iz0 iz1 iz2 rfl (by decide) (.slice (some ⟨g, 0, none⟩) ps.length cap) _ _ rfl hown4 ⟨w3.heap.size, 0, none⟩ 1 1 p.cells rfl rfl (fun j u hj => new8 _ _ _ hj) (one8 p) (by unfold maxLen; omega) (by omega) (by simp; omega) ?_)
    intro v' w5 hown5 hgrow5 _
    have hR5 := (hR3.alloc (.cells #[.string p.nm, .int .i64 p.k, .string p.a, .string p.b, .int .i64 p.n, .int .i64 p.wi, .string p.t, .string p.e] 37)).own hown4 hgrow5 hlt
    have hG5 := grown_own (grown_alloc hG3 _) hown4 hgrow5 (Nat.le_refl _)
    clear hgrow5 hown4 hown3 hR3 hG3 c0 c1 c2 c3 c4 c5 c6 c7 hRA
    go_wp2_with fail
    go_ret
    exact ⟨⟨_, ps ++ [p], rfl, by simp, by simp; omega, Hpz.out, by rw [rowP_append, List.length_append]; simpa [rowP] using hown5⟩, hR5.mono (by omega), hG5⟩
  · have hst := own_store (k := 0) (p := p) hown3 (by omega)
    rw [Nat.zero_mul] at hst
    have hth := own_there hown3
    have Hpz : Hid (∀ q ∈ ps.set 0 p, q.sz) := by
      show _; intro q hq
      rcases List.mem_or_eq_of_mem_set hq with hq | rfl
      · exact hpz q hq
      · exact hpk
    go_wp2_with (refine wpList_store_mid rfl 37 _ _ rfl g 0 _ rfl rfl (fun j hj => by
          have := hth j (by simp at hj; omega)
          simpa using this) sizeRecPhase (by simp [Value.oneCell']) ?_)
    go_ret
    exact ⟨⟨_, ps.set 0 p, rfl, by simp; omega, by simp; omega, Hpz.out, by rw [List.length_set]; exact hst.1⟩, (hR3.row hst.2 (by have := (hown3.lt g rfl).1; omega)).mono (by omega), grown_new hG3 hst.2 (by have := (hown3.lt g rfl).1; omega)⟩
  · clear c0 c1 c2 c3 c4 c5 c6 c7 hRA hx hP hpk
    go_wp2_with fail
    refine (pick_any rb len _ v 2 _ hR3 (by omega)).mono ?_
    rintro e w4 ⟨⟨z, rfl, hz0, hz1⟩, hR4, hg4⟩
    have hz2 := hz1 (by omega)
    obtain ⟨m, rfl⟩ : ∃ m : Nat, z = (m : Int) := ⟨z.toNat, by omega⟩
    have hown4 := own_grown hown3 hg4 hlt
    have hG4 := grown_trans hG3 hg4
    have hs4 := hg4.size
    clear hg4 hown3 hG3 hR3 hz1
    go_wp2_with fail
    go_loopw [5, 8] (fun u i w' => ∃ (k : Nat) (qs : List Ph), i = .int .i64 k ∧ qs.length = ps.length + k ∧ qs.length ≤ 13 ∧ (∀ p ∈ qs, p.sz) ∧ w'.ownsRow w.heap.size 37 8 u qs.length (rowP qs) ∧ Rd w' rb v len (N + 10 + 12 * k) ∧ w.grownBy w' (some rb)) (fun _ i _ => 13 - (intOf i).toNat)
    case atStart => exact ⟨0, ps, rfl, rfl, by omega, hpz, hown4, hR4.mono (by omega), hG4⟩
    case round =>
      clear hown4 hR4 hG4 hpz hs4
      obtain ⟨k, qs, rfl, hql, hq13, hqz, hown, hRk, hGk⟩ := hrel
      have hBk := hGk.size
      obtain ⟨g, cap, rfl⟩ := own_ptr2 hown (by omega)
      have Hql : Hid (qs.length = ps.length + k) := hql
      have hkb : ps.length + k ≤ 13 := by omega
      by_cases hq : (qs.length : Int) < 12 + (m : Int)
      · have hq' : qs.length < 13 := by omega
        have hkc : ps.length + k < 13 := by omega
        clear hql
        have hk9 : (k : Int) < 100 := by omega
        go_wp2_with fail
        refine (dec_any k wr (by omega) (by omega)).mono ?_
        rintro e w3 ⟨⟨s, rfl, hs⟩, hB3⟩
        have hw3 := hB3.size
        have hR3 := (hRk.kept hB3).alloc (.cells #[] 9)
        have hG3 := grown_alloc (grown_trans hGk (grown_below hB3)) (.cells #[] 9)
        have hown3 := (own_grown hown (grown_below hB3) hlt).alloc (.cells #[] 9)
        clear hRk hGk hown
        go_wp2_with fail
        refine (phase_any rb len _ v _ [] w3.heap.size 0 0 0 _ hR3 (by omega) (size_z s hs) (fun s hs => by simp at hs) rfl (by omega) (fun i s hs => by simp at hs) (by omega)).mono ?_
        rintro e w4 ⟨⟨q, rfl, hq4⟩, hR4, hg4⟩
        have hw4 : w3.heap.size ≤ w4.heap.size := by have := hg4.size; simp at this; omega
        have hown4 := (own_grown hown3 hg4 hlt).alloc (.cells #[.string q.nm, .int .i64 q.k, .string q.a, .string q.b, .int .i64 q.n, .int .i64 q.wi, .string q.t, .string q.e] 37)
        have hG4 := grown_alloc (grown_trans hG3 hg4) (.cells #[.string q.nm, .int .i64 q.k, .string q.a, .string q.b, .int .i64 q.n, .int .i64 q.wi, .string q.t, .string q.e] 37)
        have Hpz : Hid (∀ p ∈ qs ++ [q], p.sz) := by
          show _; intro p hp
          rcases List.mem_append.1 hp with hp | hp
          · exact hqz p hp
          · obtain rfl : p = q := by simpa using hp
            exact hq4
        clear hR3 hG3 hown3 hg4 hqz hq4
        go_wp2_with (at_builtin; refine wpList_append_own _ rfl _ _ 23 rfl w.heap.size 37 ii _ 8 104 Tryz.underlying23 hi iz0 iz1 iz2 rfl (by decide) (.slice (some ⟨g, 0, none⟩) qs.length cap) _ _ rfl hown4 ⟨w4.heap.size, 0, none⟩ 1 1 q.cells rfl rfl (fun j u hj => new8 _ _ _ hj) (one8 q) (by unfold maxLen; omega) (by omega) (by simp; omega) ?_)
        intro v' w5 hown5 hgrow5 _
        have hR5 := (hR4.alloc (.cells #[.string q.nm, .int .i64 q.k, .string q.a, .string q.b, .int .i64 q.n, .int .i64 q.wi, .string q.t, .string q.e] 37)).own hown4 hgrow5 hlt
        have hG5 := grown_own hG4 hown4 hgrow5 (by omega)
        clear hR4 hG4 hgrow5 hown4
        go_wp2_with fail
        go_roundw
        case rel => exact ⟨k + 1, qs ++ [q], by go_num, by rw [List.length_append, Hql.out]; simp; omega, by rw [List.length_append]; simp; omega, Hpz.out, by rw [rowP_append, List.length_append]; simpa [rowP] using hown5, hR5.mono (by omega), hG5⟩
        case measure => simp [intOf]; omega
      · clear hql
        go_wp2_with fail
        go_ret
        first
          | exact ⟨⟨_, rfl, qs, by omega, hq13, hqz, hown⟩, hRk.mono (by omega), hGk⟩
          | exact ⟨⟨_, qs, rfl, by omega, hq13, hqz, hown⟩, hRk.mono (by omega), hGk⟩
  · have hy00 : (y == 0) = false := by simp; omega
    have hy01 : (y == 1) = false := by simp; omega
    have hy02 : (y == 2) = false := by simp; omega
    go_wp2_with fail
    refine (spoil_any rb len _ v p _ hR3 (by omega) hpk).mono ?_
    rintro e w4 ⟨⟨q, rfl, hq⟩, hR4, hg4⟩
    have hown4 := own_grown hown3 hg4 hlt
    have hG4 := grown_trans hG3 hg4
    have hst := own_store (k := k) (p := q) hown4 hk
    have hth := own_there hown4
    have hgb := (hown4.lt g rfl).1
    have Hpz : Hid (∀ p ∈ ps.set k q, p.sz) := by
      show _; intro q' hq'
      rcases List.mem_or_eq_of_mem_set hq' with hq' | rfl
      · exact hpz _ hq'
      · exact hq
    clear hg4 hown3 hG3 hR3 c0 c1 c2 c3 c4 c5 c6 c7 hRA
    go_wp2_with (refine wpList_store_mid rfl 37 _ _ rfl g (k * 8) _ rfl rfl (fun j hj => by
          have := hth (k * 8 + j) (by simp at hj; omega)
          simpa using this) sizeRecPhase (by simp [Value.oneCell']) ?_)
    go_ret
    exact ⟨⟨_, ps.set k q, rfl, by simp; omega, by simp; omega, Hpz.out, by rw [List.length_set]; exact hst.1⟩, (hR4.row hst.2 (by omega)).mono (by omega), grown_new hG4 hst.2 (by omega)⟩
end Go.Proofs.YtcofjoacehacjaaGreatDoor
