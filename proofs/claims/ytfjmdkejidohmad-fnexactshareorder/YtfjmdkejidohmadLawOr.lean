/- The law of ShareOrder: its walk. -/
import Derived.Test.YtfjmdkejidohmadLawBk
import Derived.Test.YtfjmdkejidohmadMk2
import Derived.Test.YtfjmdkejidohmadMk4
import Derived.Test.YtfjmdkejidohmadKs6
import Derived.Test.YtfjmdkejidohmadKq2
namespace Go.Proofs.Ytfjmdkejidohmad
open Go.RowKit

theorem OrderIs.short {b : Bk} {ss : List ByteArray} {ok : Bool} (h : OrderIs b ss ok) : ss.length ≤ 5 := by
  rcases h with ⟨_, h1, h2⟩ | ⟨_, rfl, _⟩
  · rw [h2.length]; exact h1.2.1
  · simp
theorem OwnT.ls {w : World} {base : Nat} {u : Value} {ss : List ByteArray} (h : OwnT w base u ss) (hz : ∀ s ∈ ss, s.size ≤ maxLen) : Ls w u ss := h.lst.ls hz

set_option maxHeartbeats 4000000 in
theorem lawOrder_any (b : Bk) (v : Value) (w : World) (h : BkV w v b) :
    Calls Try.prog 6 #[v] w fun e' w' => e' = .returned (.bool true) ∧ Below w.heap.size w w' := by
  obtain ⟨a1, c1, a2, c2, rfl, -, -⟩ := h.parts
  go_enter Try.func6, Try.ntmps6
  go_upto_region 1 with fail
  obtain ⟨W1, hW1, kA, hB1, hs1⟩ : ∃ W1, w.alloc (.cells #[.slice a1 b.things.length c1, .slice a2 b.bs.length c2] 25) = W1 ∧ CB W1 w.heap.size [.slice a1 b.things.length c1, .slice a2 b.bs.length c2] ∧ Below w.heap.size w W1 ∧ W1.heap.size = w.heap.size + 1 := ⟨_, rfl, cb1 w _ _⟩
  try rw [hW1]
  clear hW1
  obtain ⟨⟨p0, p1⟩, -⟩ := kA.c2
  go_wp2_with fail
  refine (szBook_any b _ _ _ (h.up hB1) (by omega) (by omega)).mono ?_
  rintro e w2 ⟨⟨x, rfl, -, hx⟩, hb2⟩
  have hB2 := up_trans hB1 hb2
  have kA2 := kA.up hb2 (by omega)
  clear p0 p1 kA
  by_cases hx0 : x < 0
  · go_wp2_with fail
    go_ret
    exact ⟨rfl, hB2⟩
  have hs : Small b := hx (by omega)
  have hz2 := hb2.size
  clear hx hb2 hB1
  obtain ⟨⟨p0, p1⟩, -⟩ := kA2.c2
  go_wp2_with fail
  refine (toBook_any b _ _ (h.up hB2) hs).mono ?_
  rintro e w3 ⟨⟨u, rfl, hob⟩, hb3⟩
  go_wp2_with fail
  refine (specOrder_any b u _ hob.bk).mono ?_
  rintro e w4 ⟨⟨uw, ss, ok, rfl, hord, hwo, hsz⟩, hb4⟩
  have hb34 := up_trans hb3 hb4
  have hB4 := up_trans hB2 hb34
  have kA4 := kA2.up hb34 (by omega)
  have hz4 := hb34.size
  have hlw : ∀ g, uw.ownBlock = some g → g < w4.heap.size := fun g hg => (hwo.lt g hg).2
  have hlwb : ∀ g, uw.ownBlock = some g → w.heap.size ≤ g := fun g hg => by have := (hwo.lt g hg).1; have := hb3.size; omega
  have hss := hord.short
  clear p0 p1 kA2 hob hb3 hb4 hb34 hB2
  obtain ⟨⟨p0, p1⟩, -⟩ := kA4.c2
  go_wp2_with fail
  refine (toBook_any b _ _ (h.up hB4) hs).mono ?_
  rintro e w5 ⟨⟨u, rfl, hob⟩, hb5⟩
  obtain ⟨b1, b2, rfl⟩ := hob.shape
  have hB5 := up_trans hB4 hb5
  have kA5 := kA4.up hb5 (by omega)
  have hwo5 := hwo.up hb5
  have hz5 := hb5.size
  have hbr := hob.bkR
  clear p0 p1 kA4 hb5 hwo hB4
  obtain ⟨W6, hW6, kX, hb6, hs6⟩ : ∃ W6, w5.alloc (.cells #[.slice (some ⟨b1, 0, none⟩) b.things.length b.things.length, .slice (some ⟨b2, 0, none⟩) b.bs.length b.bs.length] 30) = W6 ∧ CB W6 w5.heap.size [.slice (some ⟨b1, 0, none⟩) b.things.length b.things.length, .slice (some ⟨b2, 0, none⟩) b.bs.length b.bs.length] ∧ Below w5.heap.size w5 W6 ∧ W6.heap.size = w5.heap.size + 1 := ⟨_, rfl, cb1 w5 _ _⟩
  go_upto_region 7 with fail
  try rw [hW6]
  have hB6 := up_trans hB5 hb6
  have kA6 := kA5.up hb6 (by omega)
  have hob6 := hob.up hb6
  have hbr6 := hbr.up hb6
  have hwo6 := hwo5.up hb6
  clear hW6 kA5 hob hb6 hB5 hbr hwo5
  obtain ⟨⟨q0, q1⟩, -⟩ := kX.c2
  go_wp2_with fail
  refine (order_any b _ _ hob6.bk).mono ?_
  rintro e w7 ⟨⟨ug, ss', ok', rfl, hord', hgo, hsz'⟩, hb7⟩
  obtain ⟨rfl, rfl⟩ := hord.uniq hord'
  have hB7 := up_trans hB6 hb7
  have hz7 := hb7.size
  have kA7 := kA6.up hb7 (by omega)
  have kX7 := kX.up hb7 (by omega)
  have hob7 := hob6.up hb7
  have hbr7 := hbr6.up hb7
  have hwo7 := hwo6.up hb7
  have hlg : ∀ g, ug.ownBlock = some g → W6.heap.size ≤ g := fun g hg => (hgo.lt g hg).1
  clear q0 q1 kA6 kX hob6 hbr6 hwo6 hB6 hb7 hord'
  go_wp2_with fail
  refine (eqLs_any ss _ _ _ (hgo.ls hsz) (hwo7.ls hsz)).mono ?_
  rintro e w8 ⟨rfl, hb8⟩
  have hB8 := up_trans hB7 hb8
  have hz8 := hb8.size
  have kA8 := kA7.up hb8 (by omega)
  have kX8 := kX7.up hb8 (by omega)
  have hob8 := hob7.up hb8
  have hbr8 := hbr7.up hb8
  have hwo8 := hwo7.up hb8
  have hgo8 := hgo.up hb8
  clear kA7 kX7 hob7 hbr7 hwo7 hgo hB7 hb8
  obtain ⟨⟨p0, p1⟩, -⟩ := kA8.c2
  obtain ⟨⟨q0, q1⟩, -⟩ := kX8.c2
  generalize hxb : w5.heap.size = xb at *
  have hxb' : Hid (w5.heap.size = xb) := hxb
  clear hxb
  go_wp2_with fail
  have hob8' : BkV w8.drew (.agg #[.slice (some ⟨b1, 0, none⟩) b.things.length b.things.length, .slice (some ⟨b2, 0, none⟩) b.bs.length b.bs.length]) b := hob8.bk
  have hB8' : Below w.heap.size w w8.drew := hB8.drew
  have hxl8 : xb < w8.drew.heap.size := kX8.2.2
  have r0 : w8.drew.cell? ⟨xb, 0, none⟩ = some (.slice (some ⟨b1, 0, none⟩) b.things.length b.things.length) := q0
  have r1 : w8.drew.cell? ⟨xb, 1, none⟩ = some (.slice (some ⟨b2, 0, none⟩) b.bs.length b.bs.length) := q1
  go_region_with (first
    | (go_at_call 9; refine (toBook_any b _ _ (h.up hB8') hs).mono ?_; rintro e w10 ⟨⟨u, rfl, ho10⟩, hb10⟩; have s0 := (hb10.cell (p := ⟨xb, 0, none⟩) hxl8).trans r0; have s1 := (hb10.cell (p := ⟨xb, 1, none⟩) hxl8).trans r1)
    | (go_at_call 11; refine (eqBook_any b _ _ _ (hob8'.up hb10) (BkO.bk ho10)).mono ?_; rintro e w11 ⟨rfl, hb11⟩))
  all_goals
    have hb811 := up_trans hb10 hb11
    have hB11 := up_trans hB8' hb811
    have hz11 : w8.heap.size ≤ w11.heap.size := hb811.size
    have kA11 : CB w11 w.heap.size [.slice a1 b.things.length c1, .slice a2 b.bs.length c2] := CB.up (w := w8.drew) kA8 hb811 kA8.2.2
    have kX11 : CB w11 xb [.slice (some ⟨b1, 0, none⟩) b.things.length b.things.length, .slice (some ⟨b2, 0, none⟩) b.bs.length b.bs.length] := CB.up (w := w8.drew) kX8 hb811 kX8.2.2
    have hbr11 : BkR w11 w4.heap.size xb (.agg #[.slice (some ⟨b1, 0, none⟩) b.things.length b.things.length, .slice (some ⟨b2, 0, none⟩) b.bs.length b.bs.length]) b := BkR.up (w := w8.drew) hbr8 hb811
    have hwo11 : OwnT w11 w3.heap.size uw ss := OwnT.up (w := w8.drew) hwo8 hb811
    have hgo11 : OwnT w11 W6.heap.size ug ss := OwnT.up (w := w8.drew) hgo8 hb811
    clear p0 p1 q0 q1 r0 r1 s0 s1 kA8 kX8 hbr8 hwo8 hgo8 hob8 hob8' hb10 hb11 hb811 ho10 hB8 hB8' hxl8
    obtain ⟨⟨q0, q1⟩, -⟩ := kX11.c2
    go_wp2_with fail
    refine (mkBook_any b w4.heap.size xb _ _ hbr11 hs).mono ?_
    rintro e w12 ⟨⟨k, rfl, hk1⟩, hO⟩
    have hz12 := hO.2.2.2.1
    have kA12 : CB w12 w.heap.size [.slice a1 b.things.length c1, .slice a2 b.bs.length c2] := kA11.blk (hO.blk (by omega) (by omega)) hz12
    have hwo12 := hwo11.out hO fun g hg => .inl (hlw g hg)
    have hgo12 := hgo11.out hO fun g hg => .inr (by have := hlg g hg; omega)
    have hB12 : Below w.heap.size w w12 := ⟨hO.1.trans hB11.os, hO.2.1.trans hB11.tape, hO.2.2.1.trans hB11.output, Nat.le_trans hB11.size hz12, fun i hi => (hO.blk (by have := hB11.size; omega) (by omega)).trans (hB11.block i hi)⟩
    clear q0 q1 kA11 kX11 hwo11 hgo11 hB11 hbr11 hO
    have hkb : decide (k < 0) = false := by simp; omega
    go_wp2_with fail
    refine (eqLs_any ss _ _ _ (hgo12.ls hsz) (hwo12.ls hsz)).mono ?_
    rintro e w13 ⟨rfl, hb13⟩
    have hB13 := up_trans hB12 hb13
    have hz13 := hb13.size
    have kA13 := kA12.up hb13 (by omega)
    have hwo13 := hwo12.up hb13
    have hgo13 := hgo12.up hb13
    clear hkb kA12 hwo12 hgo12 hB12 hb13
    go_wp2_with fail
    refine (markS_any ss W6.heap.size ug 1 _ hgo13 (by omega) (by omega) (by omega)).mono ?_
    rintro e w14 ⟨rfl, ⟨ys, hyl, hM, hys⟩, hg14⟩
    have hz14 := hg14.size
    have hB14 := below_own hB13 hgo13 hg14 (by omega)
    have kA14 := kA13.kept hg14 (own_ne hgo13 (by omega))
    have hwo14 : OwnT w14 w3.heap.size uw ss := own_keep hwo13 hg14 fun g hg => by
      have h1 := hlw g hg
      intro h2
      have := hlg g h2.symm
      omega
    have hM' : Marked ys 1 ys.length := by rw [hyl]; exact hM
    clear hwo13 hgo13 hB13 hg14 kA13 hM
    go_wp2_with fail
    refine (heldS_any ys W6.heap.size ug 1 _ hys hM' (by omega) (by omega) (by omega)).mono ?_
    rintro e w15 ⟨rfl, hb15⟩
    rw [hyl]
    have hB15 := up_trans hB14 hb15
    have hz15 := hb15.size
    have kA15 := kA14.up hb15 (by omega)
    have hwo15 := hwo14.up hb15
    have hys15 := hys.up hb15
    clear hwo14 hys hB14 hb15 kA14
    obtain ⟨⟨p0, p1⟩, -⟩ := kA15.c2
    go_wp2_with fail
    refine (toBook_any b _ _ (h.up hB15) hs).mono ?_
    rintro e w16 ⟨⟨u16, rfl, hob16⟩, hb16⟩
    go_wp2_with fail
    refine (order_any b u16 _ hob16.bk).mono ?_
    rintro e w17 ⟨⟨uh, ss3, ok3, rfl, hord3, hho, hsz3⟩, hb17⟩
    obtain ⟨rfl, rfl⟩ := hord.uniq hord3
    have hb1617 := up_trans hb16 hb17
    have hB17 := up_trans hB15 hb1617
    have hwo17 := hwo15.up hb1617
    have hys17 := hys15.up hb1617
    clear p0 p1 kA15 hwo15 hys15 hB15 hob16 hb16 hb17 hb1617 hord3
    go_wp2_with fail
    refine (eqLs_any ss _ _ _ (hho.ls hsz) (hwo17.ls hsz)).mono ?_
    rintro e w18 ⟨rfl, hb18⟩
    have hB18 := up_trans hB17 hb18
    have hys18 := hys17.up hb18
    clear hwo17 hys17 hB17 hho hb18
    go_wp2_with fail
    refine (heldS_any ys W6.heap.size ug 1 _ hys18 hM' (by omega) (by omega) (by omega)).mono ?_
    rintro e w19 ⟨rfl, hb19⟩
    rw [hyl]
    have hB19 := up_trans hB18 hb19
    go_wp2_with fail
    go_ret
    exact ⟨rfl, hB19⟩
end Go.Proofs.Ytfjmdkejidohmad
