/- The law of RecBound: its walk. -/
import Derived.Test.YtkfclahdofjhjagDoorLawS
import Derived.Test.YtkfclahdofjhjagDoorWbInt
import Derived.Test.YtkfclahdofjhjagDoorWbSpec
namespace Go.Proofs.YtkfclahdofjhjagDoor
open Go.RowKit

set_option maxHeartbeats 1000000 in
theorem lawBound_any (ps : List Ph) (v : Value) (nm : ByteArray) (w : World) (hE : Ends w) (h : Src w v ps) (hs : Sized ps) (hnm : nm.size ≤ maxLen) :
    Calls Tryd.prog 5 #[v, .string nm] w fun e' w' => e' = .returned (.bool true) ∧ Below w.heap.size w w' := by
  unfold maxLen at hnm
  by_cases hbig : 1048576 < nm.size
  · go_enter Tryd.func5, Tryd.ntmps5
    go_wp2_with fail
    go_ret
    exact ⟨rfl, Below.refl _ _⟩
  go_enter Tryd.func5, Tryd.ntmps5
  go_wp2_with fail
  refine (szS_src ps v _ h hs).mono ?_
  rintro e' w1 ⟨⟨x, rfl, hx0⟩, hB1⟩
  by_cases hx : x < 0
  · go_wp2_with fail
    go_ret
    exact ⟨rfl, hB1⟩
  have hn : ps.length ≤ 1048576 := hx0 (by omega)
  clear hx0
  go_wp2_with fail
  refine (toS_src ps v _ (h.up hB1) hn).mono ?_
  rintro e' w2 ⟨⟨b1, rfl, ho1, -⟩, hB2⟩
  go_wp2_with fail
  refine (specBound_any ps b1 0 _ _ _ ho1.1 ho1.2.2 hs hn).mono ?_
  rintro e' w3 ⟨rfl, hB3⟩
  have hB13 := up_trans hB1 (up_trans hB2 hB3)
  go_wp2_with fail
  refine (toS_src ps v _ (h.up hB13) hn).mono ?_
  rintro e' w4 ⟨⟨b2, rfl, ho2, -⟩, hB4⟩
  have hB14 := up_trans hB13 hB4
  go_wp2_with fail
  refine (recBound_any ps b2 0 _ _ _ (hE.up hB14) ho2.1 ho2.2.2 hs (Nat.le_refl _) hn).mono ?_
  rintro e' w5 ⟨rfl, hB5⟩
  have hB15 := up_trans hB14 hB5
  go_wp2_with fail
  refine (toS_src ps v _ (h.up hB15) hn).mono ?_
  rintro e' w6 ⟨⟨b3, rfl, ho3, -⟩, hB6⟩
  have ho2' := (ho2.up hB5).up hB6
  have hB16 := up_trans hB15 hB6
  go_wp2_with fail
  refine (eqS_any ps b2 b3 _ _ _ ho2'.1 ho2'.2.2 ho3.1 ho3.2.2 hn).mono ?_
  rintro e' w7 ⟨rfl, hB7⟩
  have hB17 := up_trans hB16 hB7
  go_wp2_with fail
  go_ret
  exact ⟨rfl, hB17⟩
end Go.Proofs.YtkfclahdofjhjagDoor
