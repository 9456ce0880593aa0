/- Runs by the specification: RecGo. -/
import Derived.Test.YtcofjoacehacjaaGreatDoorWg1
namespace Go.Proofs.YtcofjoacehacjaaGreatDoor
open Go.RowKit

theorem go_no {ps : List Ph} {s : St} {y : Sy} (h : goOk ps s = false) : Ending.returned (.tuple #[.agg #[.string (s).nm, .int .i64 (s).now, .int .i64 (s).left], .bool false]) = .returned (.tuple #[.agg #[.string (goS ps s y).nm, .int .i64 (goS ps s y).now, .int .i64 (goS ps s y).left], .bool (goOk ps s)]) := by
  rw [goS, h]; rfl
theorem go_yes {ps : List Ph} {s : St} {y : Sy} {k : Nat} (hk : k < ps.length) (ha : atI ps s.nm = (k : Int)) (h : goOk ps s = true) :
    Ending.returned (.tuple #[.agg #[.string (stAt ps (nextT ps[k] y) (s.now + ticksT ps[k] y)).nm, .int .i64 (stAt ps (nextT ps[k] y) (s.now + ticksT ps[k] y)).now, .int .i64 (stAt ps (nextT ps[k] y) (s.now + ticksT ps[k] y)).left], .bool true]) = .returned (.tuple #[.agg #[.string (goS ps s y).nm, .int .i64 (goS ps s y).now, .int .i64 (goS ps s y).left], .bool (goOk ps s)]) := by
  rw [goS, h, if_pos rfl, goV_at y hk ha]

set_option maxHeartbeats 2000000 in
theorem specGo_any (ps : List Ph) (b o c : Nat) (s : St) (y : Sy) (w : World) (hr : RecAt w b o ps) (hb : b < w.heap.size) (hs : Sized ps) (hn : ps.length ≤ 1048576) :
    Calls Tryz.prog 24 #[.slice (some ⟨b, o, none⟩) ps.length c, .agg #[.string (s).nm, .int .i64 (s).now, .int .i64 (s).left], .agg #[.int .i64 (y).t, .bool (y).well]] w fun e w' => e = .returned (.tuple #[.agg #[.string (goS ps s y).nm, .int .i64 (goS ps s y).now, .int .i64 (goS ps s y).left], .bool (goOk ps s)]) ∧ Below w.heap.size w w' := by
  go_enter Tryz.func24, Tryz.ntmps24
  go_upto_region 1 with fail
  obtain ⟨W1, hW1, k1, k2, k3, hB1, hs1⟩ : ∃ W1, ((w.alloc (.cells #[.string s.nm, .int .i64 s.now, .int .i64 s.left] 28)).alloc (.cells #[.int .i64 y.t, .bool y.well] 41)).alloc (.cells #[.string ⟨#[]⟩, .int .i64 0, .int .i64 0] 28) = W1 ∧ CB W1 w.heap.size s.cells ∧ CB W1 (w.heap.size + 1) y.cells ∧ CB W1 (w.heap.size + 1 + 1) St.none.cells ∧ Below w.heap.size w W1 ∧ W1.heap.size = w.heap.size + 3 := ⟨_, rfl, cb3 w s.cells y.cells St.none.cells _ _ _⟩
  rw [hW1]
  clear hW1
  have hr1 := hr.up hB1 hb
  obtain ⟨⟨a0, a1, a2⟩, -⟩ := k1.c3
  go_wp2_with fail
  refine (at_any ps _ _ _ _ _ hr1 hn).mono ?_
  rintro e w' ⟨rfl, hw⟩; obtain rfl := hw.symm; clear hw
  go_wp2_with fail
  refine (specOk_any ps _ _ _ _ hr1 (by omega) hs hn).mono ?_
  rintro e w2 ⟨rfl, hB2⟩
  have hB := hB1.trans (hB2.mono (by omega))
  have hr2 := hr.up hB hb
  have k1 := k1.up hB2 k1.2.2
  have k2 := k2.up hB2 k2.2.2
  have k3 := k3.up hB2 k3.2.2
  have hz := hB2.size
  rw [hs1] at hz
  clear a0 a1 a2 hr1 hB1 hB2 hs1
  obtain ⟨⟨a0, a1, a2⟩, -⟩ := k1.c3
  obtain ⟨⟨b0, b1⟩, -⟩ := k2.c2
  obtain ⟨⟨d0, d1, d2⟩, f0, f1, f2⟩ := k3.c3
  cases hok : recB ps
  · have HG : Hid (goOk ps s = false) := by show _ = _; simp [goOk, hok]
    go_wp2_with fail
    refine end_cb3b Tryz.results24 Tryz.underlying28 rfl sizeSt k3 rfl rfl ?_
    exact ⟨go_no HG.out, below_set3 hB (by omega) _ _ _⟩
  by_cases hat : atI ps s.nm < 0
  · have HG : Hid (goOk ps s = false) := by show _ = _; simp [goOk, hok, hat]
    go_wp2_with fail
    refine end_cb3b Tryz.results24 Tryz.underlying28 rfl sizeSt k3 rfl rfl ?_
    exact ⟨go_no HG.out, below_set3 hB (by omega) _ _ _⟩
  go_wp2_with fail
  refine (in_any _ _ _ _).mono ?_
  rintro e w' ⟨rfl, hw⟩; obtain rfl := hw.symm; clear hw
  cases hin : inB s.now 0 12000
  · have HG : Hid (goOk ps s = false) := by show _ = _; simp [goOk, hok, hin]
    go_wp2_with fail
    refine end_cb3b Tryz.results24 Tryz.underlying28 rfl sizeSt k3 rfl rfl ?_
    exact ⟨go_no HG.out, below_set3 hB (by omega) _ _ _⟩
  have hnow := (inB_iff _ _ _).1 hin
  have HG : Hid (goOk ps s = true) := by show _ = _; simp [goOk, hok, hin]; omega
  obtain ⟨k, hk, ha⟩ := at_nat (ps := ps) (nm := s.nm) (by omega)
  have HA : Hid (atI ps s.nm = (k : Int)) := ha
  rw [ha]
  clear ha hat hin
  go_wp2_with fail
  refine (l4Go_any ps _ _ _ s y k _ hok hr2 (by omega) hk hnow.1 hnow.2).mono ?_
  rintro e w3 ⟨rfl, hB3⟩
  have hB := hB.trans (hB3.mono (by omega))
  have k3 := k3.up hB3 k3.2.2
  clear a0 a1 a2 b0 b1 d0 d1 d2 f0 f1 f2
  obtain ⟨⟨d0, d1, d2⟩, f0, f1, f2⟩ := k3.c3
  go_wp2_with fail
  refine end_cb3b Tryz.results24 Tryz.underlying28 rfl sizeSt k3 rfl rfl ?_
  exact ⟨go_yes hk HA.out HG.out, below_set3 hB (by omega) _ _ _⟩
end Go.Proofs.YtcofjoacehacjaaGreatDoor
