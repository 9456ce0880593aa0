/- Runs by the program: RecGo. -/
import Derived.Test.YtmccabenfdigdaaGreatDoorWg3
namespace Go.Proofs.YtmccabenfdigdaaGreatDoor
open Go.RowKit

theorem goI_no {ps : List Ph} {s : St} {y : Sy} (h : goOk ps s = false) : Ending.returned (.tuple #[.agg #[.string (s).nm, .int .i64 (s).now, .int .i64 (s).left], .bool false]) = .returned (.tuple #[.agg #[.string (goS ps s y).nm, .int .i64 (goS ps s y).now, .int .i64 (goS ps s y).left], .bool (goOk ps s)]) := by
  rw [goS, h]; rfl
theorem goI_yes {ps : List Ph} {s : St} {y : Sy} {k : Nat} {nm : ByteArray} (hk : k < ps.length) (ha : atI ps s.nm = (k : Int)) (h : goOk ps s = true) (hnm : nextT ps[k] y = nm) :
    Ending.returned (.tuple #[.agg #[.string (stAt ps nm (s.now + ticksT ps[k] y)).nm, .int .i64 (stAt ps nm (s.now + ticksT ps[k] y)).now, .int .i64 (stAt ps nm (s.now + ticksT ps[k] y)).left], .bool true]) = .returned (.tuple #[.agg #[.string (goS ps s y).nm, .int .i64 (goS ps s y).now, .int .i64 (goS ps s y).left], .bool (goOk ps s)]) := by
  rw [goS, h, if_pos rfl, goV_at y hk ha, hnm]
theorem has_at_iff (ps : List Ph) (nm : ByteArray) : hasB ps nm = true ↔ 0 ≤ atI ps nm := by
  rcases atI_cases ps nm with ⟨hn, ha⟩ | ⟨j, q, hq, he, ha, _⟩
  · rw [hn, ha]; simp
  · exact ⟨fun _ => by omega, fun _ => (hasB_iff _ _).2 ⟨j, q, hq, he⟩⟩

set_option maxHeartbeats 2000000 in
theorem recGo_big (ps : List Ph) (b o c : Nat) (s : St) (y : Sy) (w : World) (hE : Ends w) (hr : RecAt w b o ps) (hb : b < w.heap.size) (hs : Sized ps) (hcap : ps.length ≤ c) (hc9 : c ≤ 9223372036854775807) :
    Calls Tryz.prog 13 #[.slice (some ⟨b, o, none⟩) ps.length c, .agg #[.string (s).nm, .int .i64 (s).now, .int .i64 (s).left], .agg #[.int .i64 (y).t, .bool (y).well]] w fun e w' => e = .returned (.tuple #[.agg #[.string (goS ps s y).nm, .int .i64 (goS ps s y).now, .int .i64 (goS ps s y).left], .bool (goOk ps s)]) ∧ Below w.heap.size w w' := by
  have HE : Hid (Ends w) := hE
  clear hE
  go_enter Tryz.func13, Tryz.ntmps13
  go_upto_region 1 with fail
  obtain ⟨W1, hW1, k1, k2, k3, hB1, hs1⟩ : ∃ W1, ((w.alloc (.cells #[.string s.nm, .int .i64 s.now, .int .i64 s.left] 28)).alloc (.cells #[.int .i64 y.t, .bool y.well] 41)).alloc (.cells #[.string ⟨#[]⟩, .int .i64 0, .int .i64 0] 28) = W1 ∧ CB W1 w.heap.size s.cells ∧ CB W1 (w.heap.size + 1) y.cellsI ∧ CB W1 (w.heap.size + 1 + 1) St.none.cells ∧ Below w.heap.size w W1 ∧ W1.heap.size = w.heap.size + 3 := ⟨_, rfl, cb3 w s.cells y.cellsI St.none.cells _ _ _⟩
  rw [hW1]
  clear hW1
  have hr1 := hr.up hB1 hb
  go_wp2_with fail
  refine (recOk_big ps _ _ _ _ (HE.out.up hB1) hr1 (by omega) hs hcap hc9).mono ?_
  rintro e w2 ⟨rfl, hB2⟩
  have hB := hB1.trans (hB2.mono (by omega))
  have hr2 := hr.up hB hb
  have k1 := k1.up hB2 k1.2.2
  have k2 := k2.up hB2 k2.2.2
  have k3 := k3.up hB2 k3.2.2
  have hz := hB2.size
  rw [hs1] at hz
  clear hr1 hB1 hB2 hs1
  obtain ⟨⟨a0, a1, a2⟩, -⟩ := k1.c3
  obtain ⟨⟨d0, d1, d2⟩, f0, f1, f2⟩ := k3.c3
  cases hok : recB ps
  · have HG : Hid (goOk ps s = false) := by show _ = _; simp [goOk, hok]
    go_wp2_with fail
    refine end_cb3b Tryz.results13 Tryz.underlying28 rfl sizeStI k3 rfl rfl ?_
    exact ⟨goI_no HG.out, below_set3 hB (by omega) _ _ _⟩
  by_cases hn0 : s.now < 0
  · have HG : Hid (goOk ps s = false) := by show _ = _; simp [goOk, hok, inB]; omega
    go_wp2_with fail
    refine end_cb3b Tryz.results13 Tryz.underlying28 rfl sizeStI k3 rfl rfl ?_
    exact ⟨goI_no HG.out, below_set3 hB (by omega) _ _ _⟩
  by_cases hn1 : 12000 < s.now
  · have HG : Hid (goOk ps s = false) := by show _ = _; simp [goOk, hok, inB]; omega
    go_wp2_with fail
    refine end_cb3b Tryz.results13 Tryz.underlying28 rfl sizeStI k3 rfl rfl ?_
    exact ⟨goI_no HG.out, below_set3 hB (by omega) _ _ _⟩
  go_wp2_with fail
  refine (phaseOf_any ps _ _ _ _ _ hr2 (by omega) (by have := ((recB_iff ps).1 hok).2.1; omega)).mono ?_
  rintro e w3 ⟨⟨p, rfl, hp⟩, hB3⟩
  have hB := hB.trans (hB3.mono (by omega))
  have hr3 := hr.up hB hb
  have k1 := k1.up hB3 k1.2.2
  have k2 := k2.up hB3 k2.2.2
  have k3 := k3.up hB3 k3.2.2
  have hz3 := hB3.size
  clear a0 a1 a2 d0 d1 d2 f0 f1 f2 hr2 hB3
  go_upto_region 4 with fail
  obtain ⟨W4, hW4, k4, hB4, hs4⟩ : ∃ W4, w3.alloc (.cells #[.string p.nm, .int .i64 p.k, .string p.a, .string p.b, .int .i64 p.n, .int .i64 p.wi, .string p.t, .string p.e] 37) = W4 ∧ CB W4 w3.heap.size p.cells ∧ Below w3.heap.size w3 W4 ∧ W4.heap.size = w3.heap.size + 1 := ⟨_, rfl, cb1 w3 p.cells _⟩
  rw [hW4]
  clear hW4
  have hB := hB.trans (hB4.mono (by omega))
  have hr4 := hr.up hB hb
  have k1 := k1.up hB4 k1.2.2
  have k2 := k2.up hB4 k2.2.2
  have k3 := k3.up hB4 k3.2.2
  clear hr3 hB4
  obtain ⟨⟨a0, a1, a2⟩, -⟩ := k1.c3
  obtain ⟨⟨b0, b1⟩, -⟩ := k2.c2
  obtain ⟨⟨d0, d1, d2⟩, f0, f1, f2⟩ := k3.c3
  obtain ⟨⟨c0, c1, c2, c3, c4, c5, c6, c7⟩, -⟩ := k4.c8
  cases hhas : hasB ps s.nm
  · have HG : Hid (goOk ps s = false) := by
      show _ = _
      have : ¬ 0 ≤ atI ps s.nm := fun h => by rw [(has_at_iff ps s.nm).2 h] at hhas; cases hhas
      simp [goOk, hok, this]
    go_wp2_with fail
    refine end_cb3b Tryz.results13 Tryz.underlying28 rfl sizeStI k3 rfl rfl ?_
    exact ⟨goI_no HG.out, below_set3 hB (by omega) _ _ _⟩
  obtain ⟨k, hk, ha⟩ := at_nat (ps := ps) (nm := s.nm) ((has_at_iff ps s.nm).1 hhas)
  have HG : Hid (goOk ps s = true) := by show _ = _; simp [goOk, hok, inB, ha]; omega
  have HA : Hid (atI ps s.nm = (k : Int)) := ha
  have HP : Hid (p = ps[k]) := hp k hk ha
  have hw := wi_of_recB hok ps[k] (by simp)
  rw [← HP.out] at hw
  have hT := ticks_bd p y hw.1
  clear ha hp
  go_wp2_with fail
  refine (recWent_any p y _).mono ?_
  rintro e w5 ⟨rfl, hB5⟩
  have hB := hB.trans (hB5.mono (by omega))
  have hr5 := hr.up hB hb
  have k1 := k1.up hB5 k1.2.2
  have k3 := k3.up hB5 k3.2.2
  have k4 := k4.up hB5 k4.2.2
  have hz5 := hB5.size
  clear a0 a1 a2 b0 b1 d0 d1 d2 f0 f1 f2 c0 c1 c2 c3 c4 c5 c6 c7 hr4 hB5 k2
  go_upto_region 7 with fail
  obtain ⟨W6, hW6, k6, hB6, hs6⟩ : ∃ W6, w5.alloc (.cells #[.int .i64 (ticksT p y), .bool (wellT p y)] 41) = W6 ∧ CB W6 w5.heap.size [.int .i64 (ticksT p y), .bool (wellT p y)] ∧ Below w5.heap.size w5 W6 ∧ W6.heap.size = w5.heap.size + 1 := ⟨_, rfl, cb1 w5 _ _⟩
  rw [hW6]
  clear hW6
  have hB := hB.trans (hB6.mono (by omega))
  have hr6 := hr.up hB hb
  have k1 := k1.up hB6 k1.2.2
  have k3 := k3.up hB6 k3.2.2
  have k4 := k4.up hB6 k4.2.2
  clear hr5 hB6
  obtain ⟨⟨a0, a1, a2⟩, -⟩ := k1.c3
  obtain ⟨⟨b0, b1⟩, -⟩ := k6.c2
  obtain ⟨⟨c0, c1, c2, c3, c4, c5, c6, c7⟩, -⟩ := k4.c8
  cases hwl : wellT p y
  all_goals
    rw [hwl] at b1
    go_wp2_with fail
    refine (recStateAt_any ps _ _ _ _ _ _ (HE.out.up hB) hok hr6 (by omega) hs hcap hc9).mono ?_
    rintro e w7 ⟨rfl, hB7⟩
    have hB := hB.trans (hB7.mono (by omega))
    have k3 := k3.up hB7 k3.2.2
    clear a0 a1 a2 b0 b1 c0 c1 c2 c3 c4 c5 c6 c7
    obtain ⟨⟨d0, d1, d2⟩, f0, f1, f2⟩ := k3.c3
    go_wp2_with fail
    refine end_cb3b Tryz.results13 Tryz.underlying28 rfl sizeStI k3 rfl rfl ?_
    refine ⟨?_, below_set3 hB (by omega) _ _ _⟩
    have hPk := HP.out
    subst hPk
    exact goI_yes hk HA.out HG.out (by simp [nextT, hwl])
end Go.Proofs.YtmccabenfdigdaaGreatDoor
