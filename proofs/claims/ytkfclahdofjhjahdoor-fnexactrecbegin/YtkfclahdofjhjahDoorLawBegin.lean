/- The law of RecBegin: its walk. -/
import Derived.Test.YtkfclahdofjhjahDoorLawS
import Derived.Test.YtkfclahdofjhjahDoorLawR
import Derived.Test.YtkfclahdofjhjahDoorWg1
import Derived.Test.YtkfclahdofjhjahDoorWg5
namespace Go.Proofs.YtkfclahdofjhjahDoor
open Go.RowKit

set_option maxHeartbeats 1000000 in
theorem lawBegin_any (ps : List Ph) (v : Value) (w : World) (hE : Ends w) (h : Src w v ps) (hs : Sized ps) :
    Calls Tryd.prog 5 #[v] w fun e' w' => e' = .returned (.bool true) ∧ Below w.heap.size w w' := by
  go_enter Tryd.func5, Tryd.ntmps5
  go_wp2_with fail
  refine (szS_src ps v _ h hs).mono ?_
  rintro e' w1 ⟨⟨x, rfl, hx0⟩, hB1⟩
  by_cases hx : x < 0
  · go_wp2_with fail
    go_ret
    exact ⟨rfl, hB1⟩
  have hn : ps.length ≤ 1048576 := hx0 (by omega)
  clear hx0
  go_wp2_with fail
  refine (toS_src ps v _ (h.up hB1) hn).mono ?_
  rintro e' w2 ⟨⟨b1, rfl, ho1, -⟩, hB2⟩
  go_wp2_with fail
  refine (specBegin_any ps b1 0 _ _ ho1.1 ho1.2.2 hs hn).mono ?_
  rintro e' w3 ⟨rfl, hB3⟩
  have hB13 := up_trans hB1 (up_trans hB2 hB3)
  have HS : Hid (∃ s, beginS ps = s) := ⟨_, rfl⟩
  have hbegin : ∀ w b, Ends w → RecAt w b 0 ps → b < w.heap.size → Calls Tryd.prog 16 #[.slice (some ⟨b, 0, none⟩) ps.length ps.length] w fun e w' => e = .returned (.agg #[.string (beginS ps).nm, .int .i64 (beginS ps).now, .int .i64 (beginS ps).left]) ∧ Below w.heap.size w w' := fun w b hE hr hb => recBegin_big ps b 0 _ w hE hr hb hs (Nat.le_refl _) (by omega)
  have HB : Hid (∀ w b, Ends w → RecAt w b 0 ps → b < w.heap.size → Calls Tryd.prog 16 #[.slice (some ⟨b, 0, none⟩) ps.length ps.length] w fun e w' => e = .returned (.agg #[.string (beginS ps).nm, .int .i64 (beginS ps).now, .int .i64 (beginS ps).left]) ∧ Below w.heap.size w w') := hbegin
  clear hbegin HS
  generalize beginS ps = s at *
  go_upto_region 6 with fail
  obtain ⟨W4, hW4, k1, hB4, hs4⟩ : ∃ W4, w3.alloc (.cells #[.string s.nm, .int .i64 s.now, .int .i64 s.left] 32) = W4 ∧ CB W4 w3.heap.size s.cells ∧ Below w3.heap.size w3 W4 ∧ W4.heap.size = w3.heap.size + 1 := ⟨_, rfl, cb1 w3 s.cells _⟩
  rw [hW4]
  clear hW4
  have hB14 := up_trans hB13 hB4
  clear hB1 hB2 hB3 hB13 hB4 ho1
  go_wp2_with fail
  refine (toS_src ps v _ (h.up hB14) hn).mono ?_
  rintro e' w5 ⟨⟨b2, rfl, ho2, -⟩, hB5⟩
  have hB15 := up_trans hB14 hB5
  have k1 := k1.up hB5 k1.2.2
  go_wp2_with fail
  refine (HB.out _ _ (hE.up hB15) ho2.1 ho2.2.2).mono ?_
  rintro e' w6 ⟨rfl, hB6⟩
  have hB16 := up_trans hB15 hB6
  have k1 := k1.up hB6 k1.2.2
  have ho6 := ho2.up hB6
  clear hB14 hB5 hB15 hB6 ho2
  go_upto_region 8 with fail
  obtain ⟨W7, hW7, k2, hB7, hs7⟩ : ∃ W7, w6.alloc (.cells #[.string s.nm, .int .i64 s.now, .int .i64 s.left] 32) = W7 ∧ CB W7 w6.heap.size s.cells ∧ Below w6.heap.size w6 W7 ∧ W7.heap.size = w6.heap.size + 1 := ⟨_, rfl, cb1 w6 s.cells _⟩
  rw [hW7]
  clear hW7
  have hB17 := up_trans hB16 hB7
  have k1 := k1.up hB7 k1.2.2
  have ho7 := ho6.up hB7
  obtain ⟨⟨a0, a1, a2⟩, -⟩ := k1.c3
  obtain ⟨⟨b0, b1, b2⟩, -⟩ := k2.c3
  clear hB16 hB7 ho6
  go_wp2_with fail
  refine (eqState_any s _).mono ?_
  rintro e' w8 ⟨rfl, hB8⟩
  have hB18 := up_trans hB17 hB8
  have ho8 := ho7.up hB8
  clear a0 a1 a2 b0 b1 b2
  go_wp2_with fail
  refine (toS_src ps v _ (h.up hB18) hn).mono ?_
  rintro e' w9 ⟨⟨b3, rfl, ho3, -⟩, hB9⟩
  have hB19 := up_trans hB18 hB9
  have ho9 := ho8.up hB9
  go_wp2_with fail
  refine (eqS_any ps _ b3 _ _ _ ho9.1 ho9.2.2 ho3.1 ho3.2.2 hn).mono ?_
  rintro e' wa ⟨rfl, hBa⟩
  have hB1a := up_trans hB19 hBa
  go_wp2_with fail
  go_ret
  exact ⟨rfl, hB1a⟩
end Go.Proofs.YtkfclahdofjhjahDoor
