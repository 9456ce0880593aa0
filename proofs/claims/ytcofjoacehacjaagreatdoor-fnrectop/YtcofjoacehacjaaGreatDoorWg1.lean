/- Runs by the specification: beginning, going on. -/
import Derived.Test.YtcofjoacehacjaaGreatDoorRn
import Derived.Test.YtcofjoacehacjaaGreatDoorJ23
import Derived.Deep.Cut
namespace Go.Proofs.YtcofjoacehacjaaGreatDoor
open Go.RowKit
def Sy.cells (y : Sy) : List Value := [.int .i64 y.t, .bool y.well]
theorem sizeSt : (Tryz.prog.info? 28).map (·.size) = some 3 := by kernel_rfl

theorem l4At_any (ps : List Ph) (b o c : Nat) (nm : ByteArray) (now : Int) (w : World) (hok : recB ps = true) (hr : RecAt w b o ps) (hb : b < w.heap.size) :
    Calls Tryz.prog 52 #[.slice (some ⟨b, o, none⟩) ps.length c, .string nm, .int .i64 now] w fun e w' => e = .returned (.agg #[.string nm, .int .i64 now, .int .i64 (evL feI fpI 0 ps nm)]) ∧ Below w.heap.size w w' := by
  have h12 : ps.length ≤ 12 := ((recB_iff ps).1 hok).2.1
  have Hc : Hid (atI ps nm < 0 ∨ (ps.length : Int) ≤ atI ps nm + (12 : Nat)) := by show _ ∨ _; omega
  go_enter Tryz.func52, Tryz.ntmps52
  go_wp2_with fail
  obtain ⟨W1, hW1, k1, hB1, hs1⟩ : ∃ W1, w.alloc (.cells #[.string ⟨#[]⟩, .int .i64 0, .int .i64 0] 28) = W1 ∧ CB W1 w.heap.size St.none.cells ∧ Below w.heap.size w W1 ∧ W1.heap.size = w.heap.size + 1 := ⟨_, rfl, cb1 w St.none.cells _⟩
  rw [hW1]
  refine (l2Bound_any ps _ _ _ hok 12 _ _ (hr.up hB1 hb) Hc.out).mono ?_
  rintro e w' ⟨rfl, hw⟩; obtain rfl := hw.symm; clear hw hW1
  obtain ⟨⟨c0, c1, c2⟩, f0, f1, f2⟩ := k1.c3
  go_wp2_with fail
  refine bodyPost_ret (ret_cb (rk := w.heap.size) (cs := [.string nm, .int .i64 now, .int .i64 (evL feI fpI 0 ps nm)]) Tryz.results52 Tryz.underlying28 rfl sizeSt ?ht ?hZ) rfl ?_
  case ht => rfl
  case hZ => exact k1.copy3 _ _ _
  exact ⟨rfl, below_set3 hB1 (Nat.le_refl _) _ _ _⟩

theorem specBegin_any (ps : List Ph) (b o c : Nat) (w : World) (hr : RecAt w b o ps) (hb : b < w.heap.size) (hs : Sized ps) (hn : ps.length ≤ 1048576) :
    Calls Tryz.prog 22 #[.slice (some ⟨b, o, none⟩) ps.length c] w fun e w' => e = .returned (.agg #[.string (beginS ps).nm, .int .i64 (beginS ps).now, .int .i64 (beginS ps).left]) ∧ Below w.heap.size w w' := by
  go_enter Tryz.func22, Tryz.ntmps22
  go_wp2_with fail
  obtain ⟨W1, hW1, k1, hB1, hs1⟩ : ∃ W1, w.alloc (.cells #[.string ⟨#[]⟩, .int .i64 0, .int .i64 0] 28) = W1 ∧ CB W1 w.heap.size St.none.cells ∧ Below w.heap.size w W1 ∧ W1.heap.size = w.heap.size + 1 := ⟨_, rfl, cb1 w St.none.cells _⟩
  rw [hW1]
  refine (specOk_any _ _ _ _ _ (hr.up hB1 hb) (by omega) hs hn).mono ?_
  rintro e w1 ⟨rfl, hB⟩
  have k2 := k1.up hB (by omega)
  have hB2 := hB1.trans (hB.mono (by omega))
  obtain ⟨⟨c0, c1, c2⟩, f0, f1, f2⟩ := k2.c3
  clear hW1 k1 hB1
  cases hok : recB ps
  · have HV : Hid (beginS ps = St.none) := begin_no hok
    go_wp2_with fail
    refine bodyPost_ret (ret_cb (rk := w.heap.size) (cs := St.none.cells) Tryz.results22 Tryz.underlying28 rfl sizeSt ?ht ?hZ) rfl ?_
    case ht => rfl
    case hZ => exact k2.copy3 _ _ _
    exact ⟨by rw [HV.out]; rfl, below_set3 hB2 (Nat.le_refl _) _ _ _⟩
  · have hl : 0 < ps.length := ((recB_iff ps).1 hok).1
    have HV : Hid (beginS ps = stAt ps (ps[0]).nm 0) := begin_yes hok hl
    obtain ⟨n0, -⟩ := (hr.up hB2 hb).cells 0 hl
    simp only [Nat.zero_mul, Nat.add_zero] at n0
    clear c0 c1 c2 f0 f1 f2
    go_wp2_with fail
    refine (l4At_any ps _ _ _ _ _ _ hok (hr.up hB2 hb) (by have := hB2.size; omega)).mono ?_
    rintro e w3 ⟨rfl, hB3⟩
    have k3 := k2.up hB3 k2.2.2
    have hB4 := hB2.trans (hB3.mono hB2.size)
    obtain ⟨⟨c0, c1, c2⟩, f0, f1, f2⟩ := k3.c3
    go_wp2_with fail
    refine bodyPost_ret (ret_cb (rk := w.heap.size) (cs := [.string (ps[0]).nm, .int .i64 0, .int .i64 (evL feI fpI 0 ps (ps[0]).nm)]) Tryz.results22 Tryz.underlying28 rfl sizeSt ?ht ?hZ) rfl ?_
    case ht => rfl
    case hZ => exact k3.copy3 _ _ _
    exact ⟨by rw [HV.out]; rfl, below_set3 hB4 (Nat.le_refl _) _ _ _⟩

theorem go_fin {ps : List Ph} {p : Ph} {y : Sy} {s : St} {nm : ByteArray} {now : Int} (e1 : nextT p y = nm) (e2 : s.now + ticksT p y = now) :
    Ending.returned (.agg #[.string nm, .int .i64 now, .int .i64 (evL feI fpI 0 ps nm)]) = .returned (.agg #[.string (stAt ps (nextT p y) (s.now + ticksT p y)).nm, .int .i64 (stAt ps (nextT p y) (s.now + ticksT p y)).now, .int .i64 (stAt ps (nextT p y) (s.now + ticksT p y)).left]) := by subst e1 e2; rfl
theorem hs_hold {p : Ph} {y : Sy} (h1 : p.k = 3) (h2 : y.well = true) (h3 : y.t < p.n) : heldS p y = p.n := by unfold heldS; rw [if_pos ⟨h1, h2, h3⟩]
theorem hs_late {p : Ph} {y : Sy} (h3 : p.n ≤ y.t) : heldS p y = y.t := by unfold heldS; rw [if_neg (by omega)]
theorem hs_bad {p : Ph} {y : Sy} (h : ¬ y.well = true) : heldS p y = y.t := by unfold heldS; rw [if_neg (fun hh => h hh.2.1)]
theorem hs_other {p : Ph} {y : Sy} (h : ¬ p.k = 3) : heldS p y = y.t := by unfold heldS; rw [if_neg (fun hh => h hh.1)]

set_option maxHeartbeats 4000000 in
theorem l4Go_any (ps : List Ph) (b o c : Nat) (s : St) (y : Sy) (k : Nat) (w : World) (hok : recB ps = true) (hr : RecAt w b o ps) (hb : b < w.heap.size) (hk : k < ps.length) (h0 : 0 ≤ s.now) (h1 : s.now ≤ 12000) :
    Calls Tryz.prog 53 #[.slice (some ⟨b, o, none⟩) ps.length c, .agg #[.string (s).nm, .int .i64 (s).now, .int .i64 (s).left], .int .i64 (k : Int), .agg #[.int .i64 (y).t, .bool (y).well]] w fun e w' => e = .returned (.agg #[.string (stAt ps (nextT ps[k] y) (s.now + ticksT ps[k] y)).nm, .int .i64 (stAt ps (nextT ps[k] y) (s.now + ticksT ps[k] y)).now, .int .i64 (stAt ps (nextT ps[k] y) (s.now + ticksT ps[k] y)).left]) ∧ Below w.heap.size w w' := by
  have h12 : ps.length ≤ 12 := ((recB_iff ps).1 hok).2.1
  have hd := wi_of_recB hok ps[k] (by simp)
  have HT : Hid (ticksT ps[k] y = if (ps[k]).wi < heldS ps[k] y then (ps[k]).wi else max (heldS ps[k] y) 0) := by
    have hsame := held_same ps[k] y (hold_n hok ps[k] (by simp)) hd.1
    show _ = _
    unfold ticksT
    by_cases h : (ps[k]).wi < heldS ps[k] y
    · rw [if_pos h, if_pos (hsame.1.1 h)]
    · rw [if_neg h, if_neg (fun h' => h (hsame.1.2 h')), hsame.2 h]
  have HN : Hid (nextT ps[k] y = if (ps[k]).wi < heldS ps[k] y then (ps[k]).e else if y.well = true then (ps[k]).t else (ps[k]).e) := by
    have hsame := held_same ps[k] y (hold_n hok ps[k] (by simp)) hd.1
    show _ = _
    unfold nextT wellT
    by_cases h : (ps[k]).wi < heldS ps[k] y
    · rw [if_pos h, if_pos (hsame.1.1 h)]; simp
    · rw [if_neg h, if_neg (fun h' => h (hsame.1.2 h'))]
  have hR : ∀ W : World, Below w.heap.size w W → W.rangeAt b (o + k * 8) (ps[k]).cells := fun W hW => (hr.up hW hb) k ps[k] (by simp [hk])
  generalize ps[k] = p at *
  go_enter Tryz.func53, Tryz.ntmps53
  go_upto_region 1 with fail
  obtain ⟨W1, hW1, k1, k2, k3, hB1, hs1⟩ : ∃ W1, ((w.alloc (.cells #[.string s.nm, .int .i64 s.now, .int .i64 s.left] 28)).alloc (.cells #[.int .i64 y.t, .bool y.well] 41)).alloc (.cells #[.string ⟨#[]⟩, .int .i64 0, .int .i64 0] 28) = W1 ∧ CB W1 w.heap.size s.cells ∧ CB W1 (w.heap.size + 1) y.cells ∧ CB W1 (w.heap.size + 1 + 1) St.none.cells ∧ Below w.heap.size w W1 ∧ W1.heap.size = w.heap.size + 3 := ⟨_, rfl, cb3 w s.cells y.cells St.none.cells _ _ _⟩
  rw [hW1]
  clear hW1
  have hc := hR W1 hB1
  have c0 := hc 0 _ rfl
  have c1 := hc 1 _ rfl
  have c2 := hc 2 _ rfl
  have c3 := hc 3 _ rfl
  have c4 := hc 4 _ rfl
  have c5 := hc 5 _ rfl
  have c6 := hc 6 _ rfl
  have c7 := hc 7 _ rfl
  simp only [Nat.add_zero] at c0
  clear hc
  go_upto_region 2 with fail
  clear c0 c1 c2 c3 c4 c5 c6 c7
  obtain ⟨W2, hW2, k4, hB2, hs2⟩ : ∃ W2, W1.alloc (.cells #[.string p.nm, .int .i64 p.k, .string p.a, .string p.b, .int .i64 p.n, .int .i64 p.wi, .string p.t, .string p.e] 37) = W2 ∧ CB W2 W1.heap.size p.cells ∧ Below W1.heap.size W1 W2 ∧ W2.heap.size = W1.heap.size + 1 := ⟨_, rfl, cb1 W1 p.cells _⟩
  rw [hW2]
  clear hW2
  have k1 := k1.up hB2 k1.2.2
  have k2 := k2.up hB2 k2.2.2
  have k3 := k3.up hB2 k3.2.2
  have hB := hB1.trans (hB2.mono (by omega))
  have hR2 := hr.up hB hb
  clear hR hB1 hB2 hr
  rw [hs1] at k4 hs2
  obtain ⟨⟨a0, a1, a2⟩, -⟩ := k1.c3
  obtain ⟨⟨b0, b1⟩, -⟩ := k2.c2
  obtain ⟨⟨d0, d1, d2⟩, f0, f1, f2⟩ := k3.c3
  obtain ⟨⟨c0, c1, c2, c3, c4, c5, c6, c7⟩, -⟩ := k4.c8
  clear k1 k2 k4 hs1
  go_wp2_with fail
  all_goals
    refine (l4At_any ps _ _ _ _ _ _ hok hR2 (by omega)).mono ?_
    rintro e w3 ⟨rfl, hB3⟩
    have k5 := k3.up hB3 k3.2.2
    have hB4 := hB.trans (hB3.mono (by omega))
    clear a0 a1 a2 b0 b1 c0 c1 c2 c3 c4 c5 c6 c7 d0 d1 d2 f0 f1 f2 hs2
    obtain ⟨⟨d0, d1, d2⟩, f0, f1, f2⟩ := k5.c3
    go_wp2_with fail
    refine end_cb3 Tryz.results53 Tryz.underlying28 rfl sizeSt k5 rfl ?_
    refine ⟨go_fin ?_ ?_, below_set3 hB4 (by omega) _ _ _⟩
    · rw [HN.out]
      first | rw [hs_hold (by assumption) (by assumption) (by assumption)] | rw [hs_late (by assumption)] | rw [hs_other (by assumption)] | rw [hs_bad (by assumption)]
      first | rw [if_pos (by omega)] | (rw [if_neg (by omega)]; simp [*])
    · rw [HT.out]
      first | rw [hs_hold (by assumption) (by assumption) (by assumption)] | rw [hs_late (by assumption)] | rw [hs_other (by assumption)] | rw [hs_bad (by assumption)]
      first | rw [if_pos (by omega)] | (rw [if_neg (by omega)]; omega)
end Go.Proofs.YtcofjoacehacjaaGreatDoor
