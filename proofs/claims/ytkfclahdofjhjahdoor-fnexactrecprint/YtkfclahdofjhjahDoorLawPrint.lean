/- The law of RecPrint: its walk. -/
import Derived.Test.YtkfclahdofjhjahDoorLawS
import Derived.Test.YtkfclahdofjhjahDoorWp2
import Derived.Test.YtkfclahdofjhjahDoorWp4
namespace Go.Proofs.YtkfclahdofjhjahDoor
open Go.RowKit

set_option maxHeartbeats 1000000 in
theorem lawPrint_any (ps : List Ph) (v : Value) (w : World) (hE : Ends w) (hT : Tabs w) (h : Src w v ps) (hs : Sized ps) :
    Calls Tryd.prog 4 #[v] w fun e' w' => e' = .returned (.bool true) ∧ Below w.heap.size w w' := by
  have HT : Hid (Tabs w) := hT
  clear hT
  go_enter Tryd.func4, Tryd.ntmps4
  go_wp2_with fail
  refine (szS_src ps v _ h hs).mono ?_
  rintro e' w1 ⟨⟨x, rfl, hx0⟩, hB1⟩
  by_cases hx : x < 0
  · go_wp2_with fail
    go_ret
    exact ⟨rfl, hB1⟩
  have hn : ps.length ≤ 1048576 := hx0 (by omega)
  clear hx0
  go_wp2_with fail
  refine (toS_src ps v _ (h.up hB1) hn).mono ?_
  rintro e' w2 ⟨⟨b1, rfl, ho1, -⟩, hB2⟩
  go_wp2_with fail
  refine (specPrint_any ps b1 0 _ _ ho1.1 ho1.2.2 hs hn).mono ?_
  rintro e' w3 ⟨rfl, hB3⟩
  have hB13 := up_trans hB1 (up_trans hB2 hB3)
  go_wp2_with fail
  refine (toS_src ps v _ (h.up hB13) hn).mono ?_
  rintro e' w4 ⟨⟨b2, rfl, ho2, -⟩, hB4⟩
  have hB14 := up_trans hB13 hB4
  go_wp2_with fail
  refine (print_any ps b2 0 _ _ (hE.up hB14) (HT.out.up hB14) ho2.1 ho2.2.2 hs (Nat.le_refl _) hn).mono ?_
  rintro e' w5 ⟨rfl, hB5⟩
  have hB15 := up_trans hB14 hB5
  go_wp2_with fail
  refine (toS_src ps v _ (h.up hB15) hn).mono ?_
  rintro e' w6 ⟨⟨b3, rfl, ho3, -⟩, hB6⟩
  have ho2' := (ho2.up hB5).up hB6
  have hB16 := up_trans hB15 hB6
  go_wp2_with fail
  refine (eqS_any ps b2 b3 _ _ _ ho2'.1 ho2'.2.2 ho3.1 ho3.2.2 hn).mono ?_
  rintro e' w7 ⟨rfl, hB7⟩
  have hB17 := up_trans hB16 hB7
  go_wp2_with fail
  go_ret
  exact ⟨rfl, hB17⟩
end Go.Proofs.YtkfclahdofjhjahDoor
