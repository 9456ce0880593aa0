/- The law of promise 6: its walk. -/
import Derived.Test.YtkapodkidlgkjaaDoorDy
import Derived.Test.YtkapodkidlgkjaaDoorWg4
namespace Go.Proofs.YtkapodkidlgkjaaDoor
open Go.RowKit

theorem hold_nw {ps : List Ph} (h : recB ps = true) : ∀ p ∈ ps, p.k = 3 → p.n ≤ p.wi := by
  obtain ⟨_, _, ha⟩ := (recB_iff ps).1 h
  intro p hp hk
  obtain ⟨i, hi, rfl⟩ := List.getElem_of_mem hp
  have hs := ha i ps[i] hi (by simp [hi])
  simp only [stepI, Bool.and_eq_true, Ph.okB, phaseB, argsB, hk, inB, decide_eq_true_eq] at hs
  have := hs.1.1.1.1.1.2
  simp only [show (3 : Int) ≠ 1 by omega, show (3 : Int) ≠ 2 by omega, if_false, if_true, Bool.and_eq_true, decide_eq_true_eq] at this
  exact this.2.2
/-- How it goes, in few words. -/
theorem goes_how (p : Ph) (y : Sy) (hw : 1 ≤ p.wi) (hn : p.k = 3 → p.n ≤ p.wi) :
    (wellT p y = true ∧ nextT p y = p.t ∧ y.well = true ∧ y.t ≤ p.wi ∧ (p.k = 3 → p.n ≤ ticksT p y)) ∨ (wellT p y = false ∧ nextT p y = p.e ∧ (p.k = 3 → y.well = true → p.wi < y.t)) := by
  cases hwl : wellT p y
  · right
    refine ⟨rfl, by simp [nextT, hwl], fun h3 hy => ?_⟩
    have := hn h3
    have hh : heldT p y = max (max y.t 0) p.n := by unfold heldT; rw [if_pos ⟨h3, hy⟩]
    unfold wellT at hwl
    rw [hh] at hwl
    by_cases h' : p.wi < max (max y.t 0) p.n
    · omega
    · rw [if_neg h', hy] at hwl; cases hwl
  · left
    unfold wellT at hwl
    by_cases hh : p.wi < heldT p y
    · rw [if_pos hh] at hwl; cases hwl
    · rw [if_neg hh] at hwl
      refine ⟨rfl, by simp [nextT, wellT, hh, hwl], hwl, ?_, fun h3 => ?_⟩
      · unfold heldT at hh; split at hh <;> omega
      · unfold ticksT
        rw [if_neg hh]
        unfold heldT
        rw [if_pos ⟨h3, hwl⟩]
        omega
theorem first_no {ps : List Ph} {nm : ByteArray} {k j : Nat} (ha : atI ps nm = (k : Int)) (hj : j < k) (hl : j < ps.length) : ((ps[j]).nm.toList == nm.toList) = false := by
  rcases atI_cases ps nm with ⟨_, h⟩ | ⟨i, q, hq, he, h, hf⟩
  · omega
  · rw [← Bool.not_eq_true]
    intro hc
    rw [hf j ps[j] (by omega) (by simp [hl])] at hc
    cases hc

theorem first_yes {ps : List Ph} {nm : ByteArray} {k : Nat} (ha : atI ps nm = (k : Int)) (hl : k < ps.length) : ((ps[k]).nm.toList == nm.toList) = true := by
  rcases atI_cases ps nm with ⟨_, h⟩ | ⟨i, q, hq, he, h, _⟩
  · omega
  · obtain rfl : i = k := by omega
    rw [List.getElem?_eq_getElem hl] at hq
    obtain rfl := Option.some.inj hq
    exact he

set_option maxRecDepth 100000 in
set_option maxHeartbeats 4000000 in
theorem lawGo6_any (a : Option Addr) (n cap : Nat) (w : World) (hE : Ends w) (h : BytesAt w w.heap.size (.slice a n cap) n) (hcap : n ≤ cap) (hbig : cap ≤ maxLen) :
    Calls Tryd.prog 4 #[.slice a n cap] w fun e' w' => e' = .returned (.bool true) ∧ Below w.heap.size w w' := by
  by_cases hn : 1048576 < n
  · go_enter Tryd.func4, Tryd.ntmps4
    go_wp2_with fail
    go_ret
    exact ⟨rfl, Below.refl _ _⟩
  have HE : Hid (Ends w) := hE
  clear hE
  go_enter Tryd.func4, Tryd.ntmps4
  go_wp2_with fail
  refine (drawGo_any a n cap _ h hcap hbig).mono ?_
  rintro e w1 ⟨⟨g, c, ps, s, y, rfl, hr, hg, hlc, hc9, hs, h13⟩, hB⟩
  clear h
  go_upto_region 4 with fail
  obtain ⟨W2, hW2, k4, k5, hb2, hs2⟩ : ∃ W2, (((w1.alloc (.cells #[.string s.nm, .int .i64 s.now, .int .i64 s.left] 36)).alloc (.cells #[.int .i64 y.t, .bool y.well] 38))) = W2 ∧ CB W2 w1.heap.size s.cells ∧ CB W2 (w1.heap.size + 1) y.cellsI ∧ Below w1.heap.size w1 W2 ∧ W2.heap.size = w1.heap.size + 2 := ⟨_, rfl, cb2 w1 s.cells y.cellsI _ _⟩
  rw [hW2]
  clear hW2
  have hB := up_trans hB hb2
  have hr := hr.up hb2 hg
  have hg := Nat.lt_of_lt_of_le hg hb2.size
  obtain ⟨q, hq⟩ : ∃ q, w1.heap.size = q := ⟨_, rfl⟩
  rw [hq] at k4 k5 hs2 ⊢
  clear hq hb2
  obtain ⟨⟨a0, a1, a2⟩, -⟩ := k4.c3
  obtain ⟨⟨b0, b1⟩, -⟩ := k5.c2
  go_wp2_with fail
  refine (recGo_big ps g 0 c s y _ (HE.out.up hB) hr hg hs hlc hc9).mono ?_
  rintro e w3 ⟨rfl, hb3⟩
  have HZ : Hid (∀ w b o c, RecAt w b o ps → b < w.heap.size → Calls Tryd.prog 18 #[.slice (some ⟨b, o, none⟩) ps.length c, .agg #[.string s.nm, .int .i64 s.now, .int .i64 s.left], .agg #[.int .i64 y.t, .bool y.well]] w fun e w' => e = .returned (.tuple #[.agg #[.string (goS ps s y).nm, .int .i64 (goS ps s y).now, .int .i64 (goS ps s y).left], .bool (goOk ps s)]) ∧ Below w.heap.size w w') := fun w b o c hr hb => specGo_any ps b o c s y w hr hb hs (by omega)
  obtain ⟨z, hz⟩ : ∃ z, goS ps s y = z := ⟨_, rfl⟩
  rw [hz] at HZ ⊢
  have Hz : Hid (goS ps s y = z) := hz
  have hB := up_trans hB hb3; have hr := hr.up hb3 hg; have hg := Nat.lt_of_lt_of_le hg (hb3).size; have k4 := k4.up hb3 k4.2.2; have k5 := k5.up hb3 k5.2.2
  clear hz a0 a1 a2 b0 b1 hb3 hs2
  go_upto_region 5 with fail
  obtain ⟨W4, hW4, k6, hb4, hs4⟩ : ∃ W4, w3.alloc (.cells #[.string z.nm, .int .i64 z.now, .int .i64 z.left] 36) = W4 ∧ CB W4 w3.heap.size z.cells ∧ Below w3.heap.size w3 W4 ∧ W4.heap.size = w3.heap.size + 1 := ⟨_, rfl, cb1 w3 z.cells _⟩
  rw [hW4]
  have hB := up_trans hB hb4; have hr := hr.up hb4 hg; have hg := Nat.lt_of_lt_of_le hg (hb4).size; have k4 := k4.up hb4 k4.2.2; have k5 := k5.up hb4 k5.2.2
  clear hW4 hb4
  obtain ⟨⟨a0, a1, a2⟩, -⟩ := k4.c3
  obtain ⟨⟨b0, b1⟩, -⟩ := k5.c2
  go_wp2_with fail
  refine (HZ.out _ _ _ _ hr hg).mono ?_
  rintro e w5 ⟨rfl, hb5⟩
  have hB := up_trans hB hb5; have hr := hr.up hb5 hg; have hg := Nat.lt_of_lt_of_le hg (hb5).size; have k4 := k4.up hb5 k4.2.2; have k5 := k5.up hb5 k5.2.2
  have k6 := k6.up hb5 k6.2.2
  clear a0 a1 a2 b0 b1 hb5 hs4
  go_upto_region 6 with fail
  obtain ⟨W6, hW6, k8, hb6, hs6⟩ : ∃ W6, w5.alloc (.cells #[.string z.nm, .int .i64 z.now, .int .i64 z.left] 36) = W6 ∧ CB W6 w5.heap.size z.cells ∧ Below w5.heap.size w5 W6 ∧ W6.heap.size = w5.heap.size + 1 := ⟨_, rfl, cb1 w5 z.cells _⟩
  rw [hW6]
  have hB := up_trans hB hb6; have hr := hr.up hb6 hg; have hg := Nat.lt_of_lt_of_le hg (hb6).size; have k4 := k4.up hb6 k4.2.2; have k5 := k5.up hb6 k5.2.2
  have k6 := k6.up hb6 k6.2.2
  clear hW6 hb6
  obtain ⟨⟨a0, a1, a2⟩, -⟩ := k4.c3
  obtain ⟨⟨b0, b1⟩, -⟩ := k5.c2
  obtain ⟨⟨c0, c1, c2⟩, -⟩ := k6.c3
  obtain ⟨⟨d0, d1, d2⟩, -⟩ := k8.c3
  cases hgo : goOk ps s
  · have hzs : z = s := by rw [← Hz.out, goS, hgo]; rfl
    subst hzs
    go_wp2_with fail
    go_ret
    exact ⟨rfl, hB⟩
  have HG : Hid (goOk ps s = true) := hgo
  obtain ⟨k, hk, ha⟩ := at_nat (ps := ps) (nm := s.nm) (by simp only [goOk, Bool.and_eq_true, decide_eq_true_eq] at hgo; exact hgo.2)
  have hok : recB ps = true := by simp only [goOk, Bool.and_eq_true] at hgo; exact hgo.1.1
  have hnow := (inB_iff s.now 0 12000).1 (by simp only [goOk, Bool.and_eq_true] at hgo; exact hgo.1.2)
  have hw := wi_of_recB hok ps[k] (by simp)
  have hT := ticks_bd ps[k] y hw.1
  have HW : Hid _ := goes_how ps[k] y hw.1 (hold_nw hok ps[k] (by simp))
  have HZV : Hid (z = stAt ps (nextT ps[k] y) (s.now + ticksT ps[k] y)) := by show _ = _; rw [← Hz.out, goS, hgo, if_pos rfl, goV_at y hk ha]
  have HAt : Hid (atI ps s.nm = (k : Int)) := ha
  clear ha HZ Hz
  go_wp2_with fail
  go_loopw [10] (fun i w' => ∃ j : Nat, j ≤ k ∧ i = .int .i64 j ∧ Below W6.heap.size W6 w') (fun i _ => k - (intOf i).toNat)
  case atStart => exact ⟨0, by omega, rfl, Below.refl _ _⟩
  case round =>
    obtain ⟨j, hj, rfl, hbj⟩ := hrel
    clear a0 a1 a2 b0 b1 c0 c1 c2 d0 d1 d2
    have hB := up_trans hB hbj; have hr := hr.up hbj hg; have hg := Nat.lt_of_lt_of_le hg (hbj).size; have k4 := k4.up hbj k4.2.2; have k5 := k5.up hbj k5.2.2
    have k6 := k6.up hbj k6.2.2
    obtain ⟨c0, c1, c2, c3, c4, c5, c6, c7⟩ := hr.cells j (by omega)
    simp only [Nat.zero_add] at c0 c1 c2 c3 c4 c5 c6 c7
    have HP : Hid (j < k → ((ps[j]).nm.toList == s.nm.toList) = false) := fun h => first_no HAt.out h (by omega)
    have HPk : Hid (j = k → ((ps[j]).nm.toList == s.nm.toList) = true ∧ ps[j] = ps[k]) := fun h => by subst h; exact ⟨first_yes HAt.out hk, rfl⟩
    obtain ⟨p, hp⟩ : ∃ p, ps[j] = p := ⟨_, rfl⟩
    rw [hp] at c0 c1 c2 c3 c4 c5 c6 c7 HP HPk
    clear hp
    go_upto_region 14 with fail
    clear c0 c1 c2 c3 c4 c5 c6 c7
    obtain ⟨W7, hW7, k11, hb7, hs7⟩ : ∃ W7, wr.alloc (.cells #[.string p.nm, .int .i64 p.k, .string p.a, .string p.b, .int .i64 p.n, .int .i64 p.wi, .string p.t, .string p.e] 32) = W7 ∧ CB W7 wr.heap.size p.cells ∧ Below wr.heap.size wr W7 ∧ W7.heap.size = wr.heap.size + 1 := ⟨_, rfl, cb1 wr p.cells _⟩
    rw [hW7]
    have hbj := up_trans hbj hb7
    have hB := up_trans hB hb7; have hr := hr.up hb7 hg; have hg := Nat.lt_of_lt_of_le hg (hb7).size; have k4 := k4.up hb7 k4.2.2; have k5 := k5.up hb7 k5.2.2
    have k6 := k6.up hb7 k6.2.2
    clear hW7 hb7
    obtain ⟨⟨c0, c1, c2, c3, c4, c5, c6, c7⟩, -⟩ := k11.c8
    obtain ⟨⟨a0, a1, a2⟩, -⟩ := k4.c3
    obtain ⟨⟨b0, b1⟩, -⟩ := k5.c2
    obtain ⟨⟨x0, x1, x2⟩, -⟩ := k6.c3
    by_cases hjk : j < k
    · have hne := HP.out hjk
      go_wp2_with fail
      go_roundw
      case rel => exact ⟨j + 1, by omega, by go_num, hbj⟩
      case measure => simp [intOf]; omega
    · obtain ⟨he, hpk⟩ := HPk.out (by omega)
      have HW := HW.out
      have HZV := HZV.out
      rw [← hpk] at HW HZV hT hw
      clear hpk
      have y0 : W7.cell? ⟨w3.heap.size, 0, none⟩ = some (.string (nextT p y)) := by rw [x0, HZV]; rfl
      have y1 : W7.cell? ⟨w3.heap.size, 1, none⟩ = some (.int .i64 (s.now + ticksT p y)) := by rw [x1, HZV]; rfl
      clear x0 x1 x2 HZV HP k4 k5 k6 k11
      generalize ticksT p y = T at *
      rcases HW with ⟨-, hnx, hyw, hyt, hkn⟩ | ⟨-, hnx, hcon⟩
      · rw [hnx] at y0
        rw [hyw] at b1
        clear hnx hyw
        by_cases hk3 : p.k = 3
        · have hkn := hkn hk3
          go_wp2_with fail
          go_ret
          exact ⟨ret_bool (decide_eq_true (by omega)), hB⟩
        · clear hkn
          go_wp2_with fail
          go_ret
          exact ⟨rfl, hB⟩
      · rw [hnx] at y0
        clear hnx
        cases hee : (p.e.toList == p.t.toList) <;> cases hyw : y.well <;> rw [hyw] at b1 hcon <;> clear hyw
        · clear hcon
          by_cases hgt : p.wi < y.t <;> by_cases hk3 : p.k = 3
          all_goals
            go_wp2_with fail
            go_ret
            exact ⟨rfl, hB⟩
        · by_cases hgt : p.wi < y.t <;> by_cases hk3 : p.k = 3
          all_goals
            first | (exact absurd (hcon hk3 rfl) hgt) | skip
          all_goals
            clear hcon
            go_wp2_with fail
            go_ret
            exact ⟨rfl, hB⟩
        · clear hcon
          by_cases hgt : p.wi < y.t <;> by_cases hk3 : p.k = 3
          all_goals
            go_wp2_with fail
            go_ret
            exact ⟨rfl, hB⟩
        · by_cases hgt : p.wi < y.t <;> by_cases hk3 : p.k = 3
          all_goals
            first | (exact absurd (hcon hk3 rfl) hgt) | skip
          all_goals
            clear hcon
            go_wp2_with fail
            go_ret
            exact ⟨rfl, hB⟩
end Go.Proofs.YtkapodkidlgkjaaDoor
