/- Runs by the program: where a run is, how a phase goes. -/
import Derived.Test.YtcofjoacehacjaaGreatDoorRn
import Derived.Test.YtcofjoacehacjaaGreatDoorJ23
import Derived.Deep.Cut
namespace Go.Proofs.YtcofjoacehacjaaGreatDoor
open Go.RowKit
theorem sizeStI : (Tryz.prog.info? 28).map (·.size) = some 3 := by kernel_rfl
theorem sizeSyI : (Tryz.prog.info? 41).map (·.size) = some 2 := by kernel_rfl
def Sy.cellsI (y : Sy) : List Value := [.int .i64 y.t, .bool y.well]

theorem recStateAt_any (ps : List Ph) (b o c : Nat) (nm : ByteArray) (now : Int) (w : World) (hE : Ends w) (hok : recB ps = true) (hr : RecAt w b o ps) (hb : b < w.heap.size) (hs : Sized ps) (hcap : ps.length ≤ c) (hc9 : c ≤ 9223372036854775807) :
    Calls Tryz.prog 36 #[.slice (some ⟨b, o, none⟩) ps.length c, .string nm, .int .i64 now] w fun e w' => e = .returned (.agg #[.string (stAt ps nm now).nm, .int .i64 (stAt ps nm now).now, .int .i64 (stAt ps nm now).left]) ∧ Below w.heap.size w w' := by
  have HE : Hid (Ends w) := hE
  have HV : Hid (boundV ps nm = evL feI fpI 0 ps nm) := by show _ = _; simp [boundV, hok]
  clear hE
  go_enter Tryz.func36, Tryz.ntmps36
  go_wp2_with fail
  obtain ⟨W1, hW1, k1, hB1, hs1⟩ : ∃ W1, w.alloc (.cells #[.string ⟨#[]⟩, .int .i64 0, .int .i64 0] 28) = W1 ∧ CB W1 w.heap.size St.none.cells ∧ Below w.heap.size w W1 ∧ W1.heap.size = w.heap.size + 1 := ⟨_, rfl, cb1 w St.none.cells _⟩
  rw [hW1]
  clear hW1
  refine (recBound_big ps _ _ _ _ _ (HE.out.up hB1) (hr.up hB1 hb) (by omega) hs hcap hc9).mono ?_
  rintro e w2 ⟨rfl, hB2⟩
  have hB := hB1.trans (hB2.mono (by omega))
  have k1 := k1.up hB2 k1.2.2
  rw [HV.out]
  obtain ⟨⟨d0, d1, d2⟩, f0, f1, f2⟩ := k1.c3
  go_wp2_with fail
  refine end_cb3 Tryz.results36 Tryz.underlying28 rfl sizeStI k1 rfl ?_
  exact ⟨rfl, below_set3 hB (by omega) _ _ _⟩

theorem went_fin {p : Ph} {y : Sy} {t : Int} {b : Bool} (h1 : ticksT p y = t) (h2 : wellT p y = b) : Ending.returned (.agg #[.int .i64 t, .bool b]) = .returned (.agg #[.int .i64 (ticksT p y), .bool (wellT p y)]) := by rw [h1, h2]

set_option maxHeartbeats 2000000 in
theorem recWent_any (p : Ph) (y : Sy) (w : World) :
    Calls Tryz.prog 38 #[.agg #[.string (p).nm, .int .i64 (p).k, .string (p).a, .string (p).b, .int .i64 (p).n, .int .i64 (p).wi, .string (p).t, .string (p).e], .agg #[.int .i64 (y).t, .bool (y).well]] w fun e w' => e = .returned (.agg #[.int .i64 (ticksT p y), .bool (wellT p y)]) ∧ Below w.heap.size w w' := by
  go_enter Tryz.func38, Tryz.ntmps38
  go_upto_region 1 with fail
  obtain ⟨W1, hW1, k1, k2, k3, hB1, hs1⟩ : ∃ W1, ((w.alloc (.cells #[.string p.nm, .int .i64 p.k, .string p.a, .string p.b, .int .i64 p.n, .int .i64 p.wi, .string p.t, .string p.e] 37)).alloc (.cells #[.int .i64 y.t, .bool y.well] 41)).alloc (.cells #[.int .i64 0, .bool false] 41) = W1 ∧ CB W1 w.heap.size p.cells ∧ CB W1 (w.heap.size + 1) y.cellsI ∧ CB W1 (w.heap.size + 1 + 1) [.int .i64 0, .bool false] ∧ Below w.heap.size w W1 ∧ W1.heap.size = w.heap.size + 3 := ⟨_, rfl, cb3 w p.cells y.cellsI [.int .i64 0, .bool false] _ _ _⟩
  rw [hW1]
  clear hW1
  obtain ⟨⟨c0, c1, c2, c3, c4, c5, c6, c7⟩, -⟩ := k1.c8
  obtain ⟨⟨b0, b1⟩, -⟩ := k2.c2
  obtain ⟨⟨d0, d1⟩, f0, f1⟩ := k3.c2
  go_wp2_with fail
  all_goals
    refine end_cb2 Tryz.results38 Tryz.underlying41 rfl sizeSyI k3 rfl ?_
    refine ⟨went_fin ?_ ?_, below_set2 hB1 (by omega) _ _⟩
    · clear c0 c1 c2 c3 c4 c5 c6 c7 b0 b1 d0 d1 f0 f1 k1 k2 k3
      unfold ticksT heldT
      simp only [*, true_and, false_and, if_true, if_false, reduceCtorEq]
      omega
    · clear c0 c1 c2 c3 c4 c5 c6 c7 b0 b1 d0 d1 f0 f1 k1 k2 k3
      unfold wellT heldT
      simp only [*, true_and, false_and, if_true, if_false, reduceCtorEq]
      first | rw [if_pos (by omega)] | (rw [if_neg (by omega)])
set_option maxHeartbeats 1000000 in
theorem recNext_any (p : Ph) (wl : Bool) (w : World) :
    Calls Tryz.prog 39 #[.agg #[.string (p).nm, .int .i64 (p).k, .string (p).a, .string (p).b, .int .i64 (p).n, .int .i64 (p).wi, .string (p).t, .string (p).e], .bool wl] w fun e w' => e = .returned (.string (if wl = true then p.t else p.e)) ∧ Below w.heap.size w w' := by
  obtain ⟨W1, hW1, k1, hB1, -⟩ : ∃ W1, w.alloc (.cells #[.string p.nm, .int .i64 p.k, .string p.a, .string p.b, .int .i64 p.n, .int .i64 p.wi, .string p.t, .string p.e] 37) = W1 ∧ CB W1 w.heap.size p.cells ∧ Below w.heap.size w W1 ∧ W1.heap.size = w.heap.size + 1 := ⟨_, rfl, cb1 w p.cells _⟩
  go_enter Tryz.func39, Tryz.ntmps39
  go_upto_region 1 with fail
  try rw [hW1]
  clear hW1
  obtain ⟨⟨c0, c1, c2, c3, c4, c5, c6, c7⟩, -⟩ := k1.c8
  cases wl
  · go_wp2_with fail
    go_ret
    exact ⟨rfl, hB1⟩
  · go_wp2_with fail
    go_ret
    exact ⟨rfl, hB1⟩
end Go.Proofs.YtcofjoacehacjaaGreatDoor
