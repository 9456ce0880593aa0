/- Runs by the program: RecGo. -/
import Derived.Test.YtcofjoacehacjaaGreatDoorWg3
import Derived.Test.YtcofjoacehacjaaGreatDoorXr
namespace Go.Proofs.YtcofjoacehacjaaGreatDoor
open Go.RowKit

theorem goI_no {ps : List Ph} {s : St} {y : Sy} (h : goOk ps s = false) : Ending.returned (.tuple #[.agg #[.string (s).nm, .int .i64 (s).now, .int .i64 (s).left], .bool false]) = .returned (.tuple #[.agg #[.string (goS ps s y).nm, .int .i64 (goS ps s y).now, .int .i64 (goS ps s y).left], .bool (goOk ps s)]) := by
  rw [goS, h]; rfl
theorem goI_yes {ps : List Ph} {s : St} {y : Sy} {k : Nat} {nm : ByteArray} (hk : k < ps.length) (ha : atI ps s.nm = (k : Int)) (h : goOk ps s = true) (hnm : nextT ps[k] y = nm) :
    Ending.returned (.tuple #[.agg #[.string (stAt ps nm (s.now + ticksT ps[k] y)).nm, .int .i64 (stAt ps nm (s.now + ticksT ps[k] y)).now, .int .i64 (stAt ps nm (s.now + ticksT ps[k] y)).left], .bool true]) = .returned (.tuple #[.agg #[.string (goS ps s y).nm, .int .i64 (goS ps s y).now, .int .i64 (goS ps s y).left], .bool (goOk ps s)]) := by
  rw [goS, h, if_pos rfl, goV_at y hk ha, hnm]
theorem has_at_iff (ps : List Ph) (nm : ByteArray) : hasB ps nm = true ↔ 0 ≤ atI ps nm := by
  rcases atI_cases ps nm with ⟨hn, ha⟩ | ⟨j, q, hq, he, ha, _⟩
  · rw [hn, ha]; simp
  · exact ⟨fun _ => by omega, fun _ => (hasB_iff _ _).2 ⟨j, q, hq, he⟩⟩

set_option maxHeartbeats 2000000 in
theorem recGo_big (ps : List Ph) (b o c : Nat) (s : St) (y : Sy) (w : World) (hE : Ends w) (hr : RecAt w b o ps) (hb : b < w.heap.size) (hs : Sized ps) (hcap : ps.length ≤ c) (hc9 : c ≤ 9223372036854775807) :
    Calls Tryz.prog 13 #[.slice (some ⟨b, o, none⟩) ps.length c, .agg #[.string (s).nm, .int .i64 (s).now, .int .i64 (s).left], .agg #[.int .i64 (y).t, .bool (y).well]] w fun e w' => e = .returned (.tuple #[.agg #[.string (goS ps s y).nm, .int .i64 (goS ps s y).now, .int .i64 (goS ps s y).left], .bool (goOk ps s)]) ∧ Below w.heap.size w w' := by
  have HE : Hid (Ends w) := hE
  clear hE
  go_enter Tryz.func13, Tryz.ntmps13
  go_upto_region 1 with fail
  obtain ⟨W1, hW1, k1, k2, k3, hB1, hs1⟩ : ∃ W1, ((w.alloc (.cells #[.string s.nm, .int .i64 s.now, .int .i64 s.left] 28)).alloc (.cells #[.int .i64 y.t, .bool y.well] 41)).alloc (.cells #[.string ⟨#[]⟩, .int .i64 0, .int .i64 0] 28) = W1 ∧ CB W1 w.heap.size s.cells ∧ CB W1 (w.heap.size + 1) y.cellsI ∧ CB W1 (w.heap.size + 1 + 1) St.none.cells ∧ Below w.heap.size w W1 ∧ W1.heap.size = w.heap.size + 3 := ⟨_, rfl, cb3 w s.cells y.cellsI St.none.cells _ _ _⟩
  rw [hW1]
  clear hW1
  have hr1 := hr.up hB1 hb
  go_wp2_with fail
  refine (recOk_big ps _ _ _ _ (HE.out.up hB1) hr1 (by omega) hs hcap hc9).mono ?_
  rintro e w2 ⟨rfl, hB2⟩
  have hB := hB1.trans (hB2.mono (by omega))
  have hr2 := hr.up hB hb
  have k1 := k1.up hB2 k1.2.2
  have k2 := k2.up hB2 k2.2.2
  have k3 := k3.up hB2 k3.2.2
  have hz := hB2.size
  rw [hs1] at hz
  clear hr1 hB1 hB2 hs1
  obtain ⟨⟨a0, a1, a2⟩, -⟩ := k1.c3
  obtain ⟨⟨d0, d1, d2⟩, f0, f1, f2⟩ := k3.c3
  cases hok : recB ps
  · have HG : Hid (goOk ps s = false) := by show _ = _; simp [goOk, hok]
    go_wp2_with fail
    refine end_cb3b Tryz.results13 Tryz.underlying28 rfl sizeStI k3 rfl rfl ?_
    exact ⟨goI_no HG.out, below_set3 hB (by omega) _ _ _⟩
  by_cases hn0 : s.now < 0
  · have HG : Hid (goOk ps s = false) := by show _ = _; simp [goOk, hok, inB]; omega
    go_wp2_with fail
    refine end_cb3b Tryz.results13 Tryz.underlying28 rfl sizeStI k3 rfl rfl ?_
    exact ⟨goI_no HG.out, below_set3 hB (by omega) _ _ _⟩
  by_cases hn1 : 12000 < s.now
  · have HG : Hid (goOk ps s = false) := by show _ = _; simp [goOk, hok, inB]; omega
    go_wp2_with fail
    refine end_cb3b Tryz.results13 Tryz.underlying28 rfl sizeStI k3 rfl rfl ?_
    exact ⟨goI_no HG.out, below_set3 hB (by omega) _ _ _⟩
  go_wp2_with fail
  refine (phaseOf_any ps _ _ _ _ _ hr2 (by omega) (by have := ((recB_iff ps).1 hok).2.1; omega)).mono ?_
  rintro e w3 ⟨⟨p, rfl, hp⟩, hB3⟩
  have hB := hB.trans (hB3.mono (by omega))
  have hr3 := hr.up hB hb
  have k1 := k1.up hB3 k1.2.2
  have k2 := k2.up hB3 k2.2.2
  have k3 := k3.up hB3 k3.2.2
  have hz3 := hB3.size
  clear a0 a1 a2 d0 d1 d2 f0 f1 f2 hr2 hB3
  go_upto_region 4 with fail
  obtain ⟨W4, hW4, k4, hB4, hs4⟩ : ∃ W4, w3.alloc (.cells #[.string p.nm, .int .i64 p.k, .string p.a, .string p.b, .int .i64 p.n, .int .i64 p.wi, .string p.t, .string p.e] 37) = W4 ∧ CB W4 w3.heap.size p.cells ∧ Below w3.heap.size w3 W4 ∧ W4.heap.size = w3.heap.size + 1 := ⟨_, rfl, cb1 w3 p.cells _⟩
  rw [hW4]
  clear hW4
  have hB := hB.trans (hB4.mono (by omega))
  have hr4 := hr.up hB hb
  have k1 := k1.up hB4 k1.2.2
  have k2 := k2.up hB4 k2.2.2
  have k3 := k3.up hB4 k3.2.2
  clear hr3 hB4
  obtain ⟨⟨a0, a1, a2⟩, -⟩ := k1.c3
  obtain ⟨⟨b0, b1⟩, -⟩ := k2.c2
  obtain ⟨⟨d0, d1, d2⟩, f0, f1, f2⟩ := k3.c3
  obtain ⟨⟨c0, c1, c2, c3, c4, c5, c6, c7⟩, -⟩ := k4.c8
  cases hhas : hasB ps s.nm
  · have HG : Hid (goOk ps s = false) := by
      show _ = _
      have : ¬ 0 ≤ atI ps s.nm := fun h => by rw [(has_at_iff ps s.nm).2 h] at hhas; cases hhas
      simp [goOk, hok, this]
    go_wp2_with fail
    refine end_cb3b Tryz.results13 Tryz.underlying28 rfl sizeStI k3 rfl rfl ?_
    exact ⟨goI_no HG.out, below_set3 hB (by omega) _ _ _⟩
  obtain ⟨k, hk, ha⟩ := at_nat (ps := ps) (nm := s.nm) ((has_at_iff ps s.nm).1 hhas)
  have HG : Hid (goOk ps s = true) := by show _ = _; simp [goOk, hok, inB, ha]; omega
  have HA : Hid (atI ps s.nm = (k : Int)) := ha
  have HP : Hid (p = ps[k]) := hp k hk ha
  have hw := wi_of_recB hok ps[k] (by simp)
  rw [← HP.out] at hw
  have hT := ticks_bd p y hw.1
  clear ha hp
  go_wp2_with fail
  refine (recWent_any p y _).mono ?_
  rintro e w5 ⟨rfl, hB5⟩
  have hB := hB.trans (hB5.mono (by omega))
  have hr5 := hr.up hB hb
  have k1 := k1.up hB5 k1.2.2
  have k3 := k3.up hB5 k3.2.2
  have k4 := k4.up hB5 k4.2.2
  have hz5 := hB5.size
  clear a0 a1 a2 b0 b1 d0 d1 d2 f0 f1 f2 c0 c1 c2 c3 c4 c5 c6 c7 hr4 hB5 k2
  go_upto_region 7 with fail
  obtain ⟨W6, hW6, k6, hB6, hs6⟩ : ∃ W6, w5.alloc (.cells #[.int .i64 (ticksT p y), .bool (wellT p y)] 41) = W6 ∧ CB W6 w5.heap.size [.int .i64 (ticksT p y), .bool (wellT p y)] ∧ Below w5.heap.size w5 W6 ∧ W6.heap.size = w5.heap.size + 1 := ⟨_, rfl, cb1 w5 _ _⟩
  rw [hW6]
  clear hW6
  have hB := hB.trans (hB6.mono (by omega))
  have hr6 := hr.up hB hb
  have k1 := k1.up hB6 k1.2.2
  have k3 := k3.up hB6 k3.2.2
  have k4 := k4.up hB6 k4.2.2
  clear hr5 hB6
  obtain ⟨⟨a0, a1, a2⟩, -⟩ := k1.c3
  obtain ⟨⟨b0, b1⟩, -⟩ := k6.c2
  obtain ⟨⟨c0, c1, c2, c3, c4, c5, c6, c7⟩, -⟩ := k4.c8
  cases hwl : wellT p y
  case false =>
    rw [hwl] at b1
    have hx4 := k4.2.2
    have hx6 := k6.2.2
    have hx1 := k1.2.2
    have hwr : IntKind.i64.wrap (s.now + ticksT p y) = s.now + ticksT p y := IntWalk.i64_in _ (by omega)
    have Mk : Hid (∀ X, (∀ j, j < 8 → X.cell? ⟨w3.heap.size, j, none⟩ = W6.cell? ⟨w3.heap.size, j, none⟩) → X.cell? ⟨w5.heap.size, 0, none⟩ = W6.cell? ⟨w5.heap.size, 0, none⟩ → X.cell? ⟨w5.heap.size, 1, none⟩ = W6.cell? ⟨w5.heap.size, 1, none⟩ → X.cell? ⟨w.heap.size, 1, none⟩ = W6.cell? ⟨w.heap.size, 1, none⟩ → (World.cell? X ⟨w3.heap.size, 0, none⟩ = some (.string p.nm) ∧ World.cell? X ⟨w3.heap.size, 1, none⟩ = some (.int .i64 p.k) ∧ World.cell? X ⟨w3.heap.size, 2, none⟩ = some (.string p.a) ∧ World.cell? X ⟨w3.heap.size, 3, none⟩ = some (.string p.b) ∧ World.cell? X ⟨w3.heap.size, 4, none⟩ = some (.int .i64 p.n) ∧ World.cell? X ⟨w3.heap.size, 5, none⟩ = some (.int .i64 p.wi) ∧ World.cell? X ⟨w3.heap.size, 6, none⟩ = some (.string p.t) ∧ World.cell? X ⟨w3.heap.size, 7, none⟩ = some (.string p.e) ∧ World.cell? X ⟨w5.heap.size, 0, none⟩ = some (.int .i64 (ticksT p y)) ∧ World.cell? X ⟨w5.heap.size, 1, none⟩ = some (.bool false) ∧ World.cell? X ⟨w.heap.size, 1, none⟩ = some (.int .i64 s.now))) := fun X e4 e5 e6 e7 =>
      ⟨(e4 0 (by omega)).trans c0, (e4 1 (by omega)).trans c1, (e4 2 (by omega)).trans c2, (e4 3 (by omega)).trans c3, (e4 4 (by omega)).trans c4, (e4 5 (by omega)).trans c5, (e4 6 (by omega)).trans c6, (e4 7 (by omega)).trans c7, e5.trans b0, e6.trans b1, e7.trans a1⟩
    have Up : Hid (∀ X, Below W6.heap.size W6 X → (World.cell? X ⟨w3.heap.size, 0, none⟩ = some (.string p.nm) ∧ World.cell? X ⟨w3.heap.size, 1, none⟩ = some (.int .i64 p.k) ∧ World.cell? X ⟨w3.heap.size, 2, none⟩ = some (.string p.a) ∧ World.cell? X ⟨w3.heap.size, 3, none⟩ = some (.string p.b) ∧ World.cell? X ⟨w3.heap.size, 4, none⟩ = some (.int .i64 p.n) ∧ World.cell? X ⟨w3.heap.size, 5, none⟩ = some (.int .i64 p.wi) ∧ World.cell? X ⟨w3.heap.size, 6, none⟩ = some (.string p.t) ∧ World.cell? X ⟨w3.heap.size, 7, none⟩ = some (.string p.e) ∧ World.cell? X ⟨w5.heap.size, 0, none⟩ = some (.int .i64 (ticksT p y)) ∧ World.cell? X ⟨w5.heap.size, 1, none⟩ = some (.bool false) ∧ World.cell? X ⟨w.heap.size, 1, none⟩ = some (.int .i64 s.now))) := fun X hX => Mk.out X (fun j _ => hX.cell (p := ⟨w3.heap.size, j, none⟩) hx4) (hX.cell (p := ⟨w5.heap.size, 0, none⟩) hx6) (hX.cell (p := ⟨w5.heap.size, 1, none⟩) hx6) (hX.cell (p := ⟨w.heap.size, 1, none⟩) hx1)
    have hbd : Below W6.heap.size W6 W6.drew := (Below.refl _ _).drew
    have hS1 := Up.out W6.drew hbd
    clear a0 a1 a2 b0 b1 c0 c1 c2 c3 c4 c5 c6 c7
    go_wp2_with fail
    refine wp_region_x 12 (fun w' => (World.cell? w' ⟨w3.heap.size, 0, none⟩ = some (.string p.nm) ∧ World.cell? w' ⟨w3.heap.size, 1, none⟩ = some (.int .i64 p.k) ∧ World.cell? w' ⟨w3.heap.size, 2, none⟩ = some (.string p.a) ∧ World.cell? w' ⟨w3.heap.size, 3, none⟩ = some (.string p.b) ∧ World.cell? w' ⟨w3.heap.size, 4, none⟩ = some (.int .i64 p.n) ∧ World.cell? w' ⟨w3.heap.size, 5, none⟩ = some (.int .i64 p.wi) ∧ World.cell? w' ⟨w3.heap.size, 6, none⟩ = some (.string p.t) ∧ World.cell? w' ⟨w3.heap.size, 7, none⟩ = some (.string p.e) ∧ World.cell? w' ⟨w5.heap.size, 0, none⟩ = some (.int .i64 (ticksT p y)) ∧ World.cell? w' ⟨w5.heap.size, 1, none⟩ = some (.bool false) ∧ World.cell? w' ⟨w.heap.size, 1, none⟩ = some (.int .i64 s.now))) (by kernel_rfl) ?_
    refine anyX_take (i := 0) (v := ?_) rfl (by kernel_rfl) (by kernel_rfl) (by kernel_rfl) (by kernel_rfl) (fun _ _ _ h => h) (by kernel_rfl) hS1 ?_ ?_; rotate_left; focus (intro w hSw; (try dsimp only at hSw); go_simp; try with_reducible rfl); (try simp only [Act.put, List.setIfInBounds_toArray, List.set_cons_zero, List.set_cons_succ])
    refine anyX_take (i := 1) (v := ?_) rfl (by kernel_rfl) (by kernel_rfl) (by kernel_rfl) (by kernel_rfl) (fun _ _ _ h => h) (by kernel_rfl) hS1 ?_ ?_; rotate_left; focus (intro w hSw; (try dsimp only at hSw); go_simp; try with_reducible rfl); (try simp only [Act.put, List.setIfInBounds_toArray, List.set_cons_zero, List.set_cons_succ])
    refine anyX_take (i := 2) (v := ?_) rfl (by kernel_rfl) (by kernel_rfl) (by kernel_rfl) (by kernel_rfl) (fun _ _ _ h => h) (by kernel_rfl) hS1 ?_ ?_; rotate_left; focus (intro w hSw; (try dsimp only at hSw); go_simp; try with_reducible rfl); (try simp only [Act.put, List.setIfInBounds_toArray, List.set_cons_zero, List.set_cons_succ])
    refine anyX_take (i := 3) (v := ?_) rfl (by kernel_rfl) (by kernel_rfl) (by kernel_rfl) (by kernel_rfl) (fun _ _ _ h => h) (by kernel_rfl) hS1 ?_ ?_; rotate_left; focus (intro w hSw; (try dsimp only at hSw); go_simp; try with_reducible rfl); (try simp only [Act.put, List.setIfInBounds_toArray, List.set_cons_zero, List.set_cons_succ])
    refine anyX_take (i := 5) (v := ?_) rfl (by kernel_rfl) (by kernel_rfl) (by kernel_rfl) (by kernel_rfl) (fun _ _ _ h => h) (by kernel_rfl) hS1 ?_ ?_; rotate_left; focus (intro w hSw; (try dsimp only at hSw); go_simp; try with_reducible rfl); (try simp only [Act.put, List.setIfInBounds_toArray, List.set_cons_zero, List.set_cons_succ])
    refine anyX_take (i := 6) (v := ?_) rfl (by kernel_rfl) (by kernel_rfl) (by kernel_rfl) (by kernel_rfl) (fun _ _ _ h => h) (by kernel_rfl) hS1 ?_ ?_; rotate_left; focus (intro w hSw; (try dsimp only at hSw); go_simp; try with_reducible rfl); (try simp only [Act.put, List.setIfInBounds_toArray, List.set_cons_zero, List.set_cons_succ])
    refine anyX_take (i := 7) (v := ?_) rfl (by kernel_rfl) (by kernel_rfl) (by kernel_rfl) (by kernel_rfl) (fun _ _ _ h => h) (by kernel_rfl) hS1 ?_ ?_; rotate_left; focus (intro w hSw; (try dsimp only at hSw); go_simp; try with_reducible rfl); (try simp only [Act.put, List.setIfInBounds_toArray, List.set_cons_zero, List.set_cons_succ])
    refine anyX_take (i := 8) (v := ?_) rfl (by kernel_rfl) (by kernel_rfl) (by kernel_rfl) (by kernel_rfl) (fun _ _ _ h => h) (by kernel_rfl) hS1 ?_ ?_; rotate_left; focus (intro w hSw; (try dsimp only at hSw); go_simp; try with_reducible rfl); (try simp only [Act.put, List.setIfInBounds_toArray, List.set_cons_zero, List.set_cons_succ])
    refine anyX_take (i := 9) (v := ?_) rfl (by kernel_rfl) (by kernel_rfl) (by kernel_rfl) (by kernel_rfl) (fun _ _ _ h => h) (by kernel_rfl) hS1 ?_ ?_; rotate_left; focus (intro w hSw; (try dsimp only at hSw); go_simp; try with_reducible rfl); (try simp only [Act.put, List.setIfInBounds_toArray, List.set_cons_zero, List.set_cons_succ])
    try rw [hwr]
    refine anyX_one (i := 4) (by kernel_rfl) rfl (fun K hK => ?_)
    go_simp
    go_wp2_with (go_at_call 39; refine (recNext_any p false _).mono ?_; rintro e w7 ⟨rfl, hB7⟩; have hB7 := up_trans hbd hB7; have hS7 := Up.out _ hB7)
    refine hK.out _ _ (fun _ => hS7) ?_; clear hK K; (try simp only [Act.put, List.setIfInBounds_toArray, List.set_cons_zero, List.set_cons_succ])
    refine anyX_one (i := 10) (by kernel_rfl) rfl (fun K hK => ?_)
    go_simp
    go_wp2_with (go_at_call 36; refine (recStateAt_any ps _ _ _ _ _ _ (HE.out.up (hB.trans (hB7.mono (by omega)))) hok (hr.up (hB.trans (hB7.mono (by omega))) hb) (Nat.lt_of_lt_of_le hb (hB.trans (hB7.mono (by omega))).size) hs hcap hc9).mono ?_; rintro e w8 ⟨rfl, hB8⟩; have hB8 := up_trans hB7 hB8; have hS8 := Up.out _ hB8)
    refine hK.out _ _ (fun _ => hS8) ?_; clear hK K; (try simp only [Act.put, List.setIfInBounds_toArray, List.set_cons_zero, List.set_cons_succ])
    have hBz := hB.trans (hB8.mono (by omega))
    have k3 := k3.up hB8 k3.2.2
    obtain ⟨⟨d0, d1, d2⟩, f0, f1, f2⟩ := k3.c3
    obtain ⟨st, Hst, hst⟩ : ∃ st, Hid (stAt ps p.e (s.now + ticksT p y) = st) ∧ stAt ps p.e (s.now + ticksT p y) = st := ⟨_, rfl, rfl⟩
    try rw [hst]
    clear hst
    have k4' := (((k4.up hB8 hx4).other (q := w.heap.size + 1 + 1) (j := 0) (u := .string st.nm) (by omega)).other (q := w.heap.size + 1 + 1) (j := 1) (u := .int .i64 st.now) (by omega)).other (q := w.heap.size + 1 + 1) (j := 2) (u := .int .i64 st.left) (by omega)
    have k6' := (((k6.up hB8 hx6).other (q := w.heap.size + 1 + 1) (j := 0) (u := .string st.nm) (by omega)).other (q := w.heap.size + 1 + 1) (j := 1) (u := .int .i64 st.now) (by omega)).other (q := w.heap.size + 1 + 1) (j := 2) (u := .int .i64 st.left) (by omega)
    have k1' := (((k1.up hB8 hx1).other (q := w.heap.size + 1 + 1) (j := 0) (u := .string st.nm) (by omega)).other (q := w.heap.size + 1 + 1) (j := 1) (u := .int .i64 st.now) (by omega)).other (q := w.heap.size + 1 + 1) (j := 2) (u := .int .i64 st.left) (by omega)
    have hS9 : (World.cell? (((w8.setCell ⟨w.heap.size + 1 + 1, 0, none⟩ (.string st.nm)).setCell ⟨w.heap.size + 1 + 1, 1, none⟩ (.int .i64 st.now)).setCell ⟨w.heap.size + 1 + 1, 2, none⟩ (.int .i64 st.left)) ⟨w3.heap.size, 0, none⟩ = some (.string p.nm) ∧ World.cell? (((w8.setCell ⟨w.heap.size + 1 + 1, 0, none⟩ (.string st.nm)).setCell ⟨w.heap.size + 1 + 1, 1, none⟩ (.int .i64 st.now)).setCell ⟨w.heap.size + 1 + 1, 2, none⟩ (.int .i64 st.left)) ⟨w3.heap.size, 1, none⟩ = some (.int .i64 p.k) ∧ World.cell? (((w8.setCell ⟨w.heap.size + 1 + 1, 0, none⟩ (.string st.nm)).setCell ⟨w.heap.size + 1 + 1, 1, none⟩ (.int .i64 st.now)).setCell ⟨w.heap.size + 1 + 1, 2, none⟩ (.int .i64 st.left)) ⟨w3.heap.size, 2, none⟩ = some (.string p.a) ∧ World.cell? (((w8.setCell ⟨w.heap.size + 1 + 1, 0, none⟩ (.string st.nm)).setCell ⟨w.heap.size + 1 + 1, 1, none⟩ (.int .i64 st.now)).setCell ⟨w.heap.size + 1 + 1, 2, none⟩ (.int .i64 st.left)) ⟨w3.heap.size, 3, none⟩ = some (.string p.b) ∧ World.cell? (((w8.setCell ⟨w.heap.size + 1 + 1, 0, none⟩ (.string st.nm)).setCell ⟨w.heap.size + 1 + 1, 1, none⟩ (.int .i64 st.now)).setCell ⟨w.heap.size + 1 + 1, 2, none⟩ (.int .i64 st.left)) ⟨w3.heap.size, 4, none⟩ = some (.int .i64 p.n) ∧ World.cell? (((w8.setCell ⟨w.heap.size + 1 + 1, 0, none⟩ (.string st.nm)).setCell ⟨w.heap.size + 1 + 1, 1, none⟩ (.int .i64 st.now)).setCell ⟨w.heap.size + 1 + 1, 2, none⟩ (.int .i64 st.left)) ⟨w3.heap.size, 5, none⟩ = some (.int .i64 p.wi) ∧ World.cell? (((w8.setCell ⟨w.heap.size + 1 + 1, 0, none⟩ (.string st.nm)).setCell ⟨w.heap.size + 1 + 1, 1, none⟩ (.int .i64 st.now)).setCell ⟨w.heap.size + 1 + 1, 2, none⟩ (.int .i64 st.left)) ⟨w3.heap.size, 6, none⟩ = some (.string p.t) ∧ World.cell? (((w8.setCell ⟨w.heap.size + 1 + 1, 0, none⟩ (.string st.nm)).setCell ⟨w.heap.size + 1 + 1, 1, none⟩ (.int .i64 st.now)).setCell ⟨w.heap.size + 1 + 1, 2, none⟩ (.int .i64 st.left)) ⟨w3.heap.size, 7, none⟩ = some (.string p.e) ∧ World.cell? (((w8.setCell ⟨w.heap.size + 1 + 1, 0, none⟩ (.string st.nm)).setCell ⟨w.heap.size + 1 + 1, 1, none⟩ (.int .i64 st.now)).setCell ⟨w.heap.size + 1 + 1, 2, none⟩ (.int .i64 st.left)) ⟨w5.heap.size, 0, none⟩ = some (.int .i64 (ticksT p y)) ∧ World.cell? (((w8.setCell ⟨w.heap.size + 1 + 1, 0, none⟩ (.string st.nm)).setCell ⟨w.heap.size + 1 + 1, 1, none⟩ (.int .i64 st.now)).setCell ⟨w.heap.size + 1 + 1, 2, none⟩ (.int .i64 st.left)) ⟨w5.heap.size, 1, none⟩ = some (.bool false) ∧ World.cell? (((w8.setCell ⟨w.heap.size + 1 + 1, 0, none⟩ (.string st.nm)).setCell ⟨w.heap.size + 1 + 1, 1, none⟩ (.int .i64 st.now)).setCell ⟨w.heap.size + 1 + 1, 2, none⟩ (.int .i64 st.left)) ⟨w.heap.size, 1, none⟩ = some (.int .i64 s.now)) := by
      obtain ⟨⟨c0, c1, c2, c3, c4, c5, c6, c7⟩, -⟩ := k4'.c8
      obtain ⟨⟨b0, b1⟩, -⟩ := k6'.c2
      rw [hwl] at b1
      obtain ⟨⟨a0, a1, a2⟩, -⟩ := k1'.c3
      exact ⟨c0, c1, c2, c3, c4, c5, c6, c7, b0, b1, a1⟩
    clear k4' k6' k1' k4 k6 k1
    refine anyX_one (i := 11) (by kernel_rfl) rfl (fun K hK => ?_)
    go_simp
    refine hK.out _ _ (fun _ => hS9) ?_; clear hK K; (try simp only [Act.put, List.setIfInBounds_toArray, List.set_cons_zero, List.set_cons_succ])
    refine anyX_one (i := 12) (by kernel_rfl) rfl (fun K hK => ?_)
    go_simp
    refine hK.out _ _ (fun h => absurd rfl h) ?_
    clear hK K
    refine anyX_done (by kernel_rfl) ?_ _
    clear hS1 hS7 hS8 hS9 d0 d1 d2 f0 f1 f2
    go_wp2_with fail
    refine end_cb3b Tryz.results13 Tryz.underlying28 rfl sizeStI k3 rfl rfl ?_
    refine ⟨?_, below_set3 hBz (by omega) _ _ _⟩
    have hPk := HP.out
    subst hPk
    rw [← Hst.out]
    exact goI_yes hk HA.out HG.out (by simp [nextT, hwl])
  case true =>
    rw [hwl] at b1
    have hx4 := k4.2.2
    have hx6 := k6.2.2
    have hx1 := k1.2.2
    have hwr : IntKind.i64.wrap (s.now + ticksT p y) = s.now + ticksT p y := IntWalk.i64_in _ (by omega)
    have Mk : Hid (∀ X, (∀ j, j < 8 → X.cell? ⟨w3.heap.size, j, none⟩ = W6.cell? ⟨w3.heap.size, j, none⟩) → X.cell? ⟨w5.heap.size, 0, none⟩ = W6.cell? ⟨w5.heap.size, 0, none⟩ → X.cell? ⟨w5.heap.size, 1, none⟩ = W6.cell? ⟨w5.heap.size, 1, none⟩ → X.cell? ⟨w.heap.size, 1, none⟩ = W6.cell? ⟨w.heap.size, 1, none⟩ → (World.cell? X ⟨w3.heap.size, 0, none⟩ = some (.string p.nm) ∧ World.cell? X ⟨w3.heap.size, 1, none⟩ = some (.int .i64 p.k) ∧ World.cell? X ⟨w3.heap.size, 2, none⟩ = some (.string p.a) ∧ World.cell? X ⟨w3.heap.size, 3, none⟩ = some (.string p.b) ∧ World.cell? X ⟨w3.heap.size, 4, none⟩ = some (.int .i64 p.n) ∧ World.cell? X ⟨w3.heap.size, 5, none⟩ = some (.int .i64 p.wi) ∧ World.cell? X ⟨w3.heap.size, 6, none⟩ = some (.string p.t) ∧ World.cell? X ⟨w3.heap.size, 7, none⟩ = some (.string p.e) ∧ World.cell? X ⟨w5.heap.size, 0, none⟩ = some (.int .i64 (ticksT p y)) ∧ World.cell? X ⟨w5.heap.size, 1, none⟩ = some (.bool true) ∧ World.cell? X ⟨w.heap.size, 1, none⟩ = some (.int .i64 s.now))) := fun X e4 e5 e6 e7 =>
      ⟨(e4 0 (by omega)).trans c0, (e4 1 (by omega)).trans c1, (e4 2 (by omega)).trans c2, (e4 3 (by omega)).trans c3, (e4 4 (by omega)).trans c4, (e4 5 (by omega)).trans c5, (e4 6 (by omega)).trans c6, (e4 7 (by omega)).trans c7, e5.trans b0, e6.trans b1, e7.trans a1⟩
    have Up : Hid (∀ X, Below W6.heap.size W6 X → (World.cell? X ⟨w3.heap.size, 0, none⟩ = some (.string p.nm) ∧ World.cell? X ⟨w3.heap.size, 1, none⟩ = some (.int .i64 p.k) ∧ World.cell? X ⟨w3.heap.size, 2, none⟩ = some (.string p.a) ∧ World.cell? X ⟨w3.heap.size, 3, none⟩ = some (.string p.b) ∧ World.cell? X ⟨w3.heap.size, 4, none⟩ = some (.int .i64 p.n) ∧ World.cell? X ⟨w3.heap.size, 5, none⟩ = some (.int .i64 p.wi) ∧ World.cell? X ⟨w3.heap.size, 6, none⟩ = some (.string p.t) ∧ World.cell? X ⟨w3.heap.size, 7, none⟩ = some (.string p.e) ∧ World.cell? X ⟨w5.heap.size, 0, none⟩ = some (.int .i64 (ticksT p y)) ∧ World.cell? X ⟨w5.heap.size, 1, none⟩ = some (.bool true) ∧ World.cell? X ⟨w.heap.size, 1, none⟩ = some (.int .i64 s.now))) := fun X hX => Mk.out X (fun j _ => hX.cell (p := ⟨w3.heap.size, j, none⟩) hx4) (hX.cell (p := ⟨w5.heap.size, 0, none⟩) hx6) (hX.cell (p := ⟨w5.heap.size, 1, none⟩) hx6) (hX.cell (p := ⟨w.heap.size, 1, none⟩) hx1)
    have hbd : Below W6.heap.size W6 W6.drew := (Below.refl _ _).drew
    have hS1 := Up.out W6.drew hbd
    clear a0 a1 a2 b0 b1 c0 c1 c2 c3 c4 c5 c6 c7
    go_wp2_with fail
    refine wp_region_x 12 (fun w' => (World.cell? w' ⟨w3.heap.size, 0, none⟩ = some (.string p.nm) ∧ World.cell? w' ⟨w3.heap.size, 1, none⟩ = some (.int .i64 p.k) ∧ World.cell? w' ⟨w3.heap.size, 2, none⟩ = some (.string p.a) ∧ World.cell? w' ⟨w3.heap.size, 3, none⟩ = some (.string p.b) ∧ World.cell? w' ⟨w3.heap.size, 4, none⟩ = some (.int .i64 p.n) ∧ World.cell? w' ⟨w3.heap.size, 5, none⟩ = some (.int .i64 p.wi) ∧ World.cell? w' ⟨w3.heap.size, 6, none⟩ = some (.string p.t) ∧ World.cell? w' ⟨w3.heap.size, 7, none⟩ = some (.string p.e) ∧ World.cell? w' ⟨w5.heap.size, 0, none⟩ = some (.int .i64 (ticksT p y)) ∧ World.cell? w' ⟨w5.heap.size, 1, none⟩ = some (.bool true) ∧ World.cell? w' ⟨w.heap.size, 1, none⟩ = some (.int .i64 s.now))) (by kernel_rfl) ?_
    refine anyX_take (i := 0) (v := ?_) rfl (by kernel_rfl) (by kernel_rfl) (by kernel_rfl) (by kernel_rfl) (fun _ _ _ h => h) (by kernel_rfl) hS1 ?_ ?_; rotate_left; focus (intro w hSw; (try dsimp only at hSw); go_simp; try with_reducible rfl); (try simp only [Act.put, List.setIfInBounds_toArray, List.set_cons_zero, List.set_cons_succ])
    refine anyX_take (i := 1) (v := ?_) rfl (by kernel_rfl) (by kernel_rfl) (by kernel_rfl) (by kernel_rfl) (fun _ _ _ h => h) (by kernel_rfl) hS1 ?_ ?_; rotate_left; focus (intro w hSw; (try dsimp only at hSw); go_simp; try with_reducible rfl); (try simp only [Act.put, List.setIfInBounds_toArray, List.set_cons_zero, List.set_cons_succ])
    refine anyX_take (i := 2) (v := ?_) rfl (by kernel_rfl) (by kernel_rfl) (by kernel_rfl) (by kernel_rfl) (fun _ _ _ h => h) (by kernel_rfl) hS1 ?_ ?_; rotate_left; focus (intro w hSw; (try dsimp only at hSw); go_simp; try with_reducible rfl); (try simp only [Act.put, List.setIfInBounds_toArray, List.set_cons_zero, List.set_cons_succ])
    refine anyX_take (i := 3) (v := ?_) rfl (by kernel_rfl) (by kernel_rfl) (by kernel_rfl) (by kernel_rfl) (fun _ _ _ h => h) (by kernel_rfl) hS1 ?_ ?_; rotate_left; focus (intro w hSw; (try dsimp only at hSw); go_simp; try with_reducible rfl); (try simp only [Act.put, List.setIfInBounds_toArray, List.set_cons_zero, List.set_cons_succ])
    refine anyX_take (i := 5) (v := ?_) rfl (by kernel_rfl) (by kernel_rfl) (by kernel_rfl) (by kernel_rfl) (fun _ _ _ h => h) (by kernel_rfl) hS1 ?_ ?_; rotate_left; focus (intro w hSw; (try dsimp only at hSw); go_simp; try with_reducible rfl); (try simp only [Act.put, List.setIfInBounds_toArray, List.set_cons_zero, List.set_cons_succ])
    refine anyX_take (i := 6) (v := ?_) rfl (by kernel_rfl) (by kernel_rfl) (by kernel_rfl) (by kernel_rfl) (fun _ _ _ h => h) (by kernel_rfl) hS1 ?_ ?_; rotate_left; focus (intro w hSw; (try dsimp only at hSw); go_simp; try with_reducible rfl); (try simp only [Act.put, List.setIfInBounds_toArray, List.set_cons_zero, List.set_cons_succ])
    refine anyX_take (i := 7) (v := ?_) rfl (by kernel_rfl) (by kernel_rfl) (by kernel_rfl) (by kernel_rfl) (fun _ _ _ h => h) (by kernel_rfl) hS1 ?_ ?_; rotate_left; focus (intro w hSw; (try dsimp only at hSw); go_simp; try with_reducible rfl); (try simp only [Act.put, List.setIfInBounds_toArray, List.set_cons_zero, List.set_cons_succ])
    refine anyX_take (i := 8) (v := ?_) rfl (by kernel_rfl) (by kernel_rfl) (by kernel_rfl) (by kernel_rfl) (fun _ _ _ h => h) (by kernel_rfl) hS1 ?_ ?_; rotate_left; focus (intro w hSw; (try dsimp only at hSw); go_simp; try with_reducible rfl); (try simp only [Act.put, List.setIfInBounds_toArray, List.set_cons_zero, List.set_cons_succ])
    refine anyX_take (i := 9) (v := ?_) rfl (by kernel_rfl) (by kernel_rfl) (by kernel_rfl) (by kernel_rfl) (fun _ _ _ h => h) (by kernel_rfl) hS1 ?_ ?_; rotate_left; focus (intro w hSw; (try dsimp only at hSw); go_simp; try with_reducible rfl); (try simp only [Act.put, List.setIfInBounds_toArray, List.set_cons_zero, List.set_cons_succ])
    try rw [hwr]
    refine anyX_one (i := 4) (by kernel_rfl) rfl (fun K hK => ?_)
    go_simp
    go_wp2_with (go_at_call 39; refine (recNext_any p true _).mono ?_; rintro e w7 ⟨rfl, hB7⟩; have hB7 := up_trans hbd hB7; have hS7 := Up.out _ hB7)
    refine hK.out _ _ (fun _ => hS7) ?_; clear hK K; (try simp only [Act.put, List.setIfInBounds_toArray, List.set_cons_zero, List.set_cons_succ])
    refine anyX_one (i := 10) (by kernel_rfl) rfl (fun K hK => ?_)
    go_simp
    go_wp2_with (go_at_call 36; refine (recStateAt_any ps _ _ _ _ _ _ (HE.out.up (hB.trans (hB7.mono (by omega)))) hok (hr.up (hB.trans (hB7.mono (by omega))) hb) (Nat.lt_of_lt_of_le hb (hB.trans (hB7.mono (by omega))).size) hs hcap hc9).mono ?_; rintro e w8 ⟨rfl, hB8⟩; have hB8 := up_trans hB7 hB8; have hS8 := Up.out _ hB8)
    refine hK.out _ _ (fun _ => hS8) ?_; clear hK K; (try simp only [Act.put, List.setIfInBounds_toArray, List.set_cons_zero, List.set_cons_succ])
    have hBz := hB.trans (hB8.mono (by omega))
    have k3 := k3.up hB8 k3.2.2
    obtain ⟨⟨d0, d1, d2⟩, f0, f1, f2⟩ := k3.c3
    obtain ⟨st, Hst, hst⟩ : ∃ st, Hid (stAt ps p.t (s.now + ticksT p y) = st) ∧ stAt ps p.t (s.now + ticksT p y) = st := ⟨_, rfl, rfl⟩
    try rw [hst]
    clear hst
    have k4' := (((k4.up hB8 hx4).other (q := w.heap.size + 1 + 1) (j := 0) (u := .string st.nm) (by omega)).other (q := w.heap.size + 1 + 1) (j := 1) (u := .int .i64 st.now) (by omega)).other (q := w.heap.size + 1 + 1) (j := 2) (u := .int .i64 st.left) (by omega)
    have k6' := (((k6.up hB8 hx6).other (q := w.heap.size + 1 + 1) (j := 0) (u := .string st.nm) (by omega)).other (q := w.heap.size + 1 + 1) (j := 1) (u := .int .i64 st.now) (by omega)).other (q := w.heap.size + 1 + 1) (j := 2) (u := .int .i64 st.left) (by omega)
    have k1' := (((k1.up hB8 hx1).other (q := w.heap.size + 1 + 1) (j := 0) (u := .string st.nm) (by omega)).other (q := w.heap.size + 1 + 1) (j := 1) (u := .int .i64 st.now) (by omega)).other (q := w.heap.size + 1 + 1) (j := 2) (u := .int .i64 st.left) (by omega)
    have hS9 : (World.cell? (((w8.setCell ⟨w.heap.size + 1 + 1, 0, none⟩ (.string st.nm)).setCell ⟨w.heap.size + 1 + 1, 1, none⟩ (.int .i64 st.now)).setCell ⟨w.heap.size + 1 + 1, 2, none⟩ (.int .i64 st.left)) ⟨w3.heap.size, 0, none⟩ = some (.string p.nm) ∧ World.cell? (((w8.setCell ⟨w.heap.size + 1 + 1, 0, none⟩ (.string st.nm)).setCell ⟨w.heap.size + 1 + 1, 1, none⟩ (.int .i64 st.now)).setCell ⟨w.heap.size + 1 + 1, 2, none⟩ (.int .i64 st.left)) ⟨w3.heap.size, 1, none⟩ = some (.int .i64 p.k) ∧ World.cell? (((w8.setCell ⟨w.heap.size + 1 + 1, 0, none⟩ (.string st.nm)).setCell ⟨w.heap.size + 1 + 1, 1, none⟩ (.int .i64 st.now)).setCell ⟨w.heap.size + 1 + 1, 2, none⟩ (.int .i64 st.left)) ⟨w3.heap.size, 2, none⟩ = some (.string p.a) ∧ World.cell? (((w8.setCell ⟨w.heap.size + 1 + 1, 0, none⟩ (.string st.nm)).setCell ⟨w.heap.size + 1 + 1, 1, none⟩ (.int .i64 st.now)).setCell ⟨w.heap.size + 1 + 1, 2, none⟩ (.int .i64 st.left)) ⟨w3.heap.size, 3, none⟩ = some (.string p.b) ∧ World.cell? (((w8.setCell ⟨w.heap.size + 1 + 1, 0, none⟩ (.string st.nm)).setCell ⟨w.heap.size + 1 + 1, 1, none⟩ (.int .i64 st.now)).setCell ⟨w.heap.size + 1 + 1, 2, none⟩ (.int .i64 st.left)) ⟨w3.heap.size, 4, none⟩ = some (.int .i64 p.n) ∧ World.cell? (((w8.setCell ⟨w.heap.size + 1 + 1, 0, none⟩ (.string st.nm)).setCell ⟨w.heap.size + 1 + 1, 1, none⟩ (.int .i64 st.now)).setCell ⟨w.heap.size + 1 + 1, 2, none⟩ (.int .i64 st.left)) ⟨w3.heap.size, 5, none⟩ = some (.int .i64 p.wi) ∧ World.cell? (((w8.setCell ⟨w.heap.size + 1 + 1, 0, none⟩ (.string st.nm)).setCell ⟨w.heap.size + 1 + 1, 1, none⟩ (.int .i64 st.now)).setCell ⟨w.heap.size + 1 + 1, 2, none⟩ (.int .i64 st.left)) ⟨w3.heap.size, 6, none⟩ = some (.string p.t) ∧ World.cell? (((w8.setCell ⟨w.heap.size + 1 + 1, 0, none⟩ (.string st.nm)).setCell ⟨w.heap.size + 1 + 1, 1, none⟩ (.int .i64 st.now)).setCell ⟨w.heap.size + 1 + 1, 2, none⟩ (.int .i64 st.left)) ⟨w3.heap.size, 7, none⟩ = some (.string p.e) ∧ World.cell? (((w8.setCell ⟨w.heap.size + 1 + 1, 0, none⟩ (.string st.nm)).setCell ⟨w.heap.size + 1 + 1, 1, none⟩ (.int .i64 st.now)).setCell ⟨w.heap.size + 1 + 1, 2, none⟩ (.int .i64 st.left)) ⟨w5.heap.size, 0, none⟩ = some (.int .i64 (ticksT p y)) ∧ World.cell? (((w8.setCell ⟨w.heap.size + 1 + 1, 0, none⟩ (.string st.nm)).setCell ⟨w.heap.size + 1 + 1, 1, none⟩ (.int .i64 st.now)).setCell ⟨w.heap.size + 1 + 1, 2, none⟩ (.int .i64 st.left)) ⟨w5.heap.size, 1, none⟩ = some (.bool true) ∧ World.cell? (((w8.setCell ⟨w.heap.size + 1 + 1, 0, none⟩ (.string st.nm)).setCell ⟨w.heap.size + 1 + 1, 1, none⟩ (.int .i64 st.now)).setCell ⟨w.heap.size + 1 + 1, 2, none⟩ (.int .i64 st.left)) ⟨w.heap.size, 1, none⟩ = some (.int .i64 s.now)) := by
      obtain ⟨⟨c0, c1, c2, c3, c4, c5, c6, c7⟩, -⟩ := k4'.c8
      obtain ⟨⟨b0, b1⟩, -⟩ := k6'.c2
      rw [hwl] at b1
      obtain ⟨⟨a0, a1, a2⟩, -⟩ := k1'.c3
      exact ⟨c0, c1, c2, c3, c4, c5, c6, c7, b0, b1, a1⟩
    clear k4' k6' k1' k4 k6 k1
    refine anyX_one (i := 11) (by kernel_rfl) rfl (fun K hK => ?_)
    go_simp
    refine hK.out _ _ (fun _ => hS9) ?_; clear hK K; (try simp only [Act.put, List.setIfInBounds_toArray, List.set_cons_zero, List.set_cons_succ])
    refine anyX_one (i := 12) (by kernel_rfl) rfl (fun K hK => ?_)
    go_simp
    refine hK.out _ _ (fun h => absurd rfl h) ?_
    clear hK K
    refine anyX_done (by kernel_rfl) ?_ _
    clear hS1 hS7 hS8 hS9 d0 d1 d2 f0 f1 f2
    go_wp2_with fail
    refine end_cb3b Tryz.results13 Tryz.underlying28 rfl sizeStI k3 rfl rfl ?_
    refine ⟨?_, below_set3 hBz (by omega) _ _ _⟩
    have hPk := HP.out
    subst hPk
    rw [← Hst.out]
    exact goI_yes hk HA.out HG.out (by simp [nextT, hwl])
end Go.Proofs.YtcofjoacehacjaaGreatDoor
