/- The law of RecOk: its walk. -/
import Derived.Test.YtiknnkcnpfacjagDoorWs
import Derived.Test.YtiknnkcnpfacjagDoorWr2
import Derived.Test.YtiknnkcnpfacjagDoorWr3
namespace Go.Proofs.YtiknnkcnpfacjagDoor
open Go.RowKit

theorem szS_src (ps : List Ph) (v : Value) (w : World) (h : Src w v ps) (hs : Sized ps) :
    Calls Tryd.prog 6 #[v, .int .i64 1048576] w fun e' w' => (∃ x : Int, e' = .returned (.int .i64 x) ∧ (0 ≤ x → ps.length ≤ 1048576)) ∧ Below w.heap.size w w' := by
  rcases h with ⟨a, c, rfl, rfl⟩ | ⟨b, o, c, rfl, hr, hb, hl⟩
  · refine (szS_nil a c _ w (by omega) (by omega)).mono fun e w' ⟨he, hw⟩ => ?_
    subst hw
    exact ⟨⟨_, he, fun _ => by simp⟩, Below.refl _ _⟩
  · refine (szS_any ps b o c _ w (by omega) (by omega) hr hb hs hl).mono fun e w' ⟨⟨x, he, hx⟩, hB⟩ => ?_
    exact ⟨⟨x, he, fun h => by have := hx h; omega⟩, hB⟩
theorem toS_src (ps : List Ph) (v : Value) (w : World) (h : Src w v ps) (hn : ps.length ≤ 1048576) :
    Calls Tryd.prog 8 #[v] w fun e w' => (∃ b, e = .returned (.slice (some ⟨b, 0, none⟩) ps.length ps.length) ∧ Own w' b ps ∧ w.heap.size ≤ b) ∧ Below w.heap.size w w' := by
  rcases h with ⟨a, c, rfl, rfl⟩ | ⟨b, o, c, rfl, hr, hb, hl⟩
  · exact (toS_nil a c w).mono fun e w' ⟨he, ho, hB⟩ => ⟨⟨_, he, ho, Nat.le_refl _⟩, hB⟩
  · exact (toS_any ps b o c w hr hb hn).mono fun e w' ⟨he, ho, hB⟩ => ⟨⟨_, he, ho, Nat.le_refl _⟩, hB⟩
theorem Own.up {w w' : World} {b : Nat} {ps : List Ph} (h : Own w b ps) (hb : Below w.heap.size w w') : Own w' b ps :=
  ⟨h.1.up hb h.2.2, there_up h.2.1 hb h.2.2, Nat.lt_of_lt_of_le h.2.2 hb.size⟩

set_option maxHeartbeats 1000000 in
theorem lawOk_any (ps : List Ph) (v : Value) (w : World) (hE : Ends w) (h : Src w v ps) (hs : Sized ps) :
    Calls Tryd.prog 3 #[v] w fun e' w' => e' = .returned (.bool true) ∧ Below w.heap.size w w' := by
  go_enter Tryd.func3, Tryd.ntmps3
  go_wp2_with fail
  refine (szS_src ps v _ h hs).mono ?_
  rintro e' w1 ⟨⟨x, rfl, hx0⟩, hB1⟩
  by_cases hx : x < 0
  · go_wp2_with fail
    go_ret
    exact ⟨rfl, hB1⟩
  have hn : ps.length ≤ 1048576 := hx0 (by omega)
  clear hx0
  go_wp2_with fail
  refine (toS_src ps v _ (h.up hB1) hn).mono ?_
  rintro e' w2 ⟨⟨b1, rfl, ho1, -⟩, hB2⟩
  go_wp2_with fail
  refine (specOk_any ps b1 0 _ _ ho1.1 ho1.2.2 hs hn).mono ?_
  rintro e' w3 ⟨rfl, hB3⟩
  have hB13 := up_trans hB1 (up_trans hB2 hB3)
  go_wp2_with fail
  refine (toS_src ps v _ (h.up hB13) hn).mono ?_
  rintro e' w4 ⟨⟨b2, rfl, ho2, -⟩, hB4⟩
  have hB14 := up_trans hB13 hB4
  go_wp2_with fail
  refine (recOk_any ps b2 0 _ _ (hE.up hB14) ho2.1 ho2.2.2 hs (Nat.le_refl _) hn).mono ?_
  rintro e' w5 ⟨rfl, hB5⟩
  have hB15 := up_trans hB14 hB5
  go_wp2_with fail
  refine (toS_src ps v _ (h.up hB15) hn).mono ?_
  rintro e' w6 ⟨⟨b3, rfl, ho3, -⟩, hB6⟩
  have ho2' := (ho2.up hB5).up hB6
  have hB16 := up_trans hB15 hB6
  go_wp2_with fail
  refine (eqS_any ps b2 b3 _ _ _ ho2'.1 ho2'.2.2 ho3.1 ho3.2.2 hn).mono ?_
  rintro e' w7 ⟨rfl, hB7⟩
  have hB17 := up_trans hB16 hB7
  go_wp2_with fail
  go_ret
  exact ⟨rfl, hB17⟩
end Go.Proofs.YtiknnkcnpfacjagDoor
