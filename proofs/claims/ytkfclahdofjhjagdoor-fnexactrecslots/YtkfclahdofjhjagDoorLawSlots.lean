/- The law of RecSlots: its walk. -/
import Derived.Test.YtkfclahdofjhjagDoorMk3
import Derived.Test.YtkfclahdofjhjagDoorSr3
namespace Go.Proofs.YtkfclahdofjhjagDoor
open Go.RowKit

theorem slotsV_len (ps : List Ph) (nm : ByteArray) : (slotsV ps nm).length ≤ 24 := by
  unfold slotsV
  split
  · rename_i hok
    have := slE_len ps nm
    have h12 : ps.length ≤ 12 := ((recB_iff ps).1 hok).2.1
    omega
  · simp

set_option maxRecDepth 20000 in
set_option maxHeartbeats 4000000 in
theorem lawSlots_any (ps : List Ph) (v : Value) (nm : ByteArray) (w : World) (hE : Ends w) (h : Src w v ps) (hs : Sized ps) (hnm : nm.size ≤ maxLen) :
    Calls Tryd.prog 4 #[v, .string nm] w fun e' w' => e' = .returned (.bool true) ∧ Below w.heap.size w w' := by
  unfold maxLen at hnm
  by_cases hbig : 1048576 < nm.size
  · go_enter Tryd.func4, Tryd.ntmps4
    go_wp2_with fail
    go_ret
    exact ⟨rfl, Below.refl _ _⟩
  have hsl := slotsV_len ps nm
  go_enter Tryd.func4, Tryd.ntmps4
  go_wp2_with fail
  refine (szS_src ps v _ h hs).mono ?_
  rintro e' w1 ⟨⟨x, rfl, hx0⟩, hB1⟩
  by_cases hx : x < 0
  · go_wp2_with fail
    go_ret
    exact ⟨rfl, hB1⟩
  have hn : ps.length ≤ 1048576 := hx0 (by omega)
  clear hx0
  go_wp2_with fail
  refine (toS_src ps v _ (h.up hB1) hn).mono ?_
  rintro e' w2 ⟨⟨b1, rfl, ho1, -⟩, hB2⟩
  go_wp2_with fail
  refine (specSlots_any ps b1 0 _ nm _ ho1.1 ho1.2.2 hs hn).mono ?_
  rintro e' w3 ⟨⟨u0, rfl, hU⟩, hB3⟩
  have hB13 := up_trans hB1 (up_trans hB2 hB3)
  have hU3 : Lst w3 u0 (slotsV ps nm) := .inr hU
  have hUlt := hU3.lt
  clear hB1 hB2 hB3 ho1 hU
  go_wp2_with fail
  refine (toS_src ps v _ (h.up hB13) hn).mono ?_
  rintro e' w4 ⟨⟨b2, rfl, ho2, hb2⟩, hB4⟩
  have hB14 := up_trans hB13 hB4
  have hU4 := hU3.up hB4
  clear hU3
  go_wp2_with fail
  refine (recSlots_big ps b2 0 _ nm _ (hE.up hB14) ho2.1 ho2.2.2 hs (Nat.le_refl _) (by omega)).mono ?_
  rintro e' w5 ⟨⟨ug, rfl, hG5⟩, hB5⟩
  have hB15 := up_trans hB14 hB5
  have hU5 := hU4.up hB5
  have ho5 := ho2.up hB5
  clear hU4
  go_wp2_with fail
  refine (eqStr_any (slotsV ps nm) ug u0 _ hG5.lst hU5 (by omega)).mono ?_
  rintro e' w6 ⟨rfl, hB6⟩
  have hB16 := up_trans hB15 hB6
  have hU6 := hU5.up hB6
  have hG6 := hG5.up hB6
  have ho6 := ho5.up hB6
  clear hU5 hG5 ho5
  go_wp2_with fail
  refine (toS_src ps v _ (h.up hB16) hn).mono ?_
  rintro e' w7 ⟨⟨b3, rfl, ho7, -⟩, hB7⟩
  have hB17 := up_trans hB16 hB7
  have hU7 := hU6.up hB7
  have hG7 := hG6.up hB7
  have ho27 := ho6.up hB7
  clear hU6 hG6 ho6
  go_wp2_with fail
  refine (eqS_any ps b2 b3 _ _ _ ho27.1 ho27.2.2 ho7.1 ho7.2.2 hn).mono ?_
  rintro e' w8 ⟨rfl, hB8⟩
  have hB18 := up_trans hB17 hB8
  have hU8 := hU7.up hB8
  have hG8 := hG7.up hB8
  have ho28 := ho27.up hB8
  clear hU7 hG7 ho27 ho7
  go_wp2_with fail
  refine (markP_any ps.length b2 _ _ ho28.2.1 ho28.2.2 hn).mono ?_
  rintro e' w9 ⟨⟨k9, rfl, hk9⟩, hg9⟩
  have hw3 := hB13.size
  have hB19 := below_gr hB18 hg9 (by omega)
  have hU9 := hU8.grown hg9 (fun g hg => by have := hUlt g hg; simp; omega)
  have hb2lt := ho2.2.2
  have hG9 : OwnT w9 w4.heap.size ug (slotsV ps nm) := own_grown hG8 hg9 hb2lt
  clear hU8 hG8 ho28 hg9
  have hk9' : ¬ k9 < 0 := by omega
  go_wp2_with fail
  refine (eqStr_any (slotsV ps nm) ug u0 _ hG9.lst hU9 (by omega)).mono ?_
  rintro e' wa ⟨rfl, hBa⟩
  have hB1a := up_trans hB19 hBa
  have hUa := hU9.up hBa
  have hGa := hG9.up hBa
  clear hU9 hG9
  go_wp2_with fail
  refine (markS_any (slotsV ps nm) w4.heap.size ug 1 _ hGa (by omega) (by omega) (by omega)).mono ?_
  rintro e' wb ⟨rfl, ⟨ys, hyl, hM, hGb⟩, hgb⟩
  have hw4 := hB4.size
  have hB1b := below_own hB1a hGa hgb (by have := hB14.size; omega)
  have hUb := hUa.grown hgb (fun g hg => own_ne hGa (by have := hUlt g hg; omega))
  rw [← hyl] at hM
  clear hUa hGa hgb
  go_wp2_with fail
  refine (heldS_any ys w4.heap.size ug 1 _ hGb hM (by omega) (by omega) (by omega)).mono ?_
  rintro e' wc ⟨rfl, hBc⟩
  have hB1c := up_trans hB1b hBc
  have hUc := hUb.up hBc
  have hGc := hGb.up hBc
  rw [hyl]
  clear hUb hGb
  go_wp2_with fail
  refine (toS_src ps v _ (h.up hB1c) hn).mono ?_
  rintro e' wd ⟨⟨b4, rfl, ho4, -⟩, hBd⟩
  have hB1d := up_trans hB1c hBd
  have hUd := hUc.up hBd
  have hGd := hGc.up hBd
  clear hUc hGc
  go_wp2_with fail
  refine (recSlots_big ps b4 0 _ nm _ (hE.up hB1d) ho4.1 ho4.2.2 hs (Nat.le_refl _) (by omega)).mono ?_
  rintro e' we ⟨⟨uh, rfl, hHe⟩, hBe⟩
  have hB1e := up_trans hB1d hBe
  have hUe := hUd.up hBe
  have hGe := hGd.up hBe
  clear hUd hGd ho4
  go_wp2_with fail
  refine (eqStr_any (slotsV ps nm) uh u0 _ hHe.lst hUe (by omega)).mono ?_
  rintro e' wf ⟨rfl, hBf⟩
  have hB1f := up_trans hB1e hBf
  have hGf := hGe.up hBf
  clear hUe hGe hHe
  go_wp2_with fail
  refine (heldS_any ys w4.heap.size ug 1 _ hGf hM (by omega) (by omega) (by omega)).mono ?_
  rintro e' wg ⟨rfl, hBg⟩
  have hB1g := up_trans hB1f hBg
  rw [hyl]
  clear hGf
  go_wp2_with fail
  go_ret
  exact ⟨rfl, hB1g⟩
end Go.Proofs.YtkfclahdofjhjagDoor
