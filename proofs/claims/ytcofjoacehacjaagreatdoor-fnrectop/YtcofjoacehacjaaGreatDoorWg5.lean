/- Runs by the program: RecBegin. -/
import Derived.Test.YtcofjoacehacjaaGreatDoorWg3
namespace Go.Proofs.YtcofjoacehacjaaGreatDoor
open Go.RowKit

set_option maxHeartbeats 1000000 in
theorem recBegin_big (ps : List Ph) (b o c : Nat) (w : World) (hE : Ends w) (hr : RecAt w b o ps) (hb : b < w.heap.size) (hs : Sized ps) (hcap : ps.length ≤ c) (hc9 : c ≤ 9223372036854775807) :
    Calls Tryz.prog 12 #[.slice (some ⟨b, o, none⟩) ps.length c] w fun e w' => e = .returned (.agg #[.string (beginS ps).nm, .int .i64 (beginS ps).now, .int .i64 (beginS ps).left]) ∧ Below w.heap.size w w' := by
  have HE : Hid (Ends w) := hE
  clear hE
  go_enter Tryz.func12, Tryz.ntmps12
  go_wp2_with fail
  obtain ⟨W1, hW1, k1, hB1, hs1⟩ : ∃ W1, w.alloc (.cells #[.string ⟨#[]⟩, .int .i64 0, .int .i64 0] 28) = W1 ∧ CB W1 w.heap.size St.none.cells ∧ Below w.heap.size w W1 ∧ W1.heap.size = w.heap.size + 1 := ⟨_, rfl, cb1 w St.none.cells _⟩
  rw [hW1]
  clear hW1
  refine (recOk_big ps _ _ _ _ (HE.out.up hB1) (hr.up hB1 hb) (by omega) hs hcap hc9).mono ?_
  rintro e w2 ⟨rfl, hB2⟩
  have k1 := k1.up hB2 k1.2.2
  have hB := hB1.trans (hB2.mono (by omega))
  have hz := hB2.size
  clear hB1 hB2
  cases hok : recB ps
  · have HV : Hid (beginS ps = St.none) := begin_no hok
    obtain ⟨⟨d0, d1, d2⟩, f0, f1, f2⟩ := k1.c3
    go_wp2_with fail
    refine end_cb3 Tryz.results12 Tryz.underlying28 rfl sizeStI k1 rfl ?_
    exact ⟨by rw [HV.out]; rfl, below_set3 hB (by omega) _ _ _⟩
  · have hl : 0 < ps.length := ((recB_iff ps).1 hok).1
    have HV : Hid (beginS ps = stAt ps (ps[0]).nm 0) := begin_yes hok hl
    obtain ⟨n0, -⟩ := (hr.up hB hb).cells 0 hl
    simp only [Nat.zero_mul, Nat.add_zero] at n0
    go_wp2_with fail
    refine (recStateAt_any ps _ _ _ _ _ _ (HE.out.up hB) hok (hr.up hB hb) (by omega) hs hcap hc9).mono ?_
    rintro e w3 ⟨rfl, hB3⟩
    have k1 := k1.up hB3 k1.2.2
    have hB := hB.trans (hB3.mono (by omega))
    obtain ⟨⟨d0, d1, d2⟩, f0, f1, f2⟩ := k1.c3
    clear n0
    go_wp2_with fail
    refine end_cb3 Tryz.results12 Tryz.underlying28 rfl sizeStI k1 rfl ?_
    exact ⟨by rw [HV.out], below_set3 hB (by omega) _ _ _⟩
end Go.Proofs.YtcofjoacehacjaaGreatDoor
