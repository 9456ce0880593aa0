/- The law of ShareMoves, 2: between the two calls that go. -/
import Derived.Test.YtafgabakhaipnaaLawMo1
import Derived.Test.YtafgabakhaipnaaMk2
namespace Go.Proofs.Ytafgabakhaipnaa
open Go.RowKit

theorem OwnT.lsW {w : World} {base : Nat} {u : Value} {ss : List ByteArray} (h : OwnT w base u ss) (hz : ∀ s ∈ ss, s.size ≤ maxLen) : Ls w u ss := h.lst.ls hz

section
variable (W0 : World) (b : Bk) (a1 a2 : Option Addr) (c1 c2 : Nat)
def QB (ss : List ByteArray) (hg : Nat) (a : Act) (u : World) : Prop := ∃ T bx lw uw ug ys, a = ⟨T, []⟩ ∧ T.size = 69 ∧ T[1]? = some (.pointer (some ⟨bx, 0, none⟩)) ∧ T[4]? = some uw ∧ T[6]? = some ug ∧ T[8]? = some (.int .i64 (1 + ss.length)) ∧ CB u bx [.slice a1 b.things.length c1, .slice a2 b.bs.length c2] ∧ OldB W0 u (.agg #[.slice a1 b.things.length c1, .slice a2 b.bs.length c2]) b bx ∧
  OwnT u lw uw ss ∧ OwnT u hg ug ys ∧ Marked ys 1 ys.length ∧ ys.length = ss.length

set_option maxRecDepth 20000 in
set_option maxHeartbeats 8000000 in
theorem nestB {T : Array Value} {bx xb b1 b2 lo lw hg : Nat} {uw ug : Value} {ss : List ByteArray} (w : World) (hT : T.size = 69) (t2 : T[1]? = some (.pointer (some ⟨bx, 0, none⟩))) (t6 : T[4]? = some uw) (t7 : T[5]? = some (.pointer (some ⟨xb, 0, none⟩))) (t8 : T[6]? = some ug)
    (kA7 : CB w bx [.slice a1 b.things.length c1, .slice a2 b.bs.length c2]) (hk7 : OldB W0 w (.agg #[.slice a1 b.things.length c1, .slice a2 b.bs.length c2]) b bx) (kX7 : CB w xb [.slice (some ⟨b1, 0, none⟩) b.things.length b.things.length, .slice (some ⟨b2, 0, none⟩) b.bs.length b.bs.length]) (hob7 : BkV w (.agg #[.slice (some ⟨b1, 0, none⟩) b.things.length b.things.length, .slice (some ⟨b2, 0, none⟩) b.bs.length b.bs.length]) b) (hbr7 : BkR w lo xb (.agg #[.slice (some ⟨b1, 0, none⟩) b.things.length b.things.length, .slice (some ⟨b2, 0, none⟩) b.bs.length b.bs.length]) b) (hwo7 : OwnT w lw uw ss) (hlw : ∀ g, uw.ownBlock = some g → g < lo) (hbx : bx < lo) (hlx : lo ≤ xb)
    (hgo : OwnT w hg ug ss) (hxg : xb < hg) (hs : Small b) (hsz : ∀ s ∈ ss, s.size ≤ maxLen) (hss : ss.length ≤ 5) :
    Nest Try.prog [pL 7, pL 8, pL 9, pL 10, pL 11, pL 12, pL 13, pL 14, pL 15, pL 16, pL 17] (Only (QB W0 b a1 a2 c1 c2 ss hg)) ⟨T, []⟩ w := by
  obtain ⟨v0, v1, v2, v3, v4, v5, v6, v7, v8, v9, v10, v11, v12, v13, v14, v15, v16, v17, v18, v19, v20, v21, v22, v23, v24, v25, v26, v27, v28, v29, v30, v31, v32, v33, v34, v35, v36, v37, v38, v39, v40, v41, v42, v43, v44, v45, v46, v47, v48, v49, v50, v51, v52, v53, v54, v55, v56, v57, v58, v59, v60, v61, v62, v63, v64, v65, v66, v67, v68, rfl⟩ := array69 T hT
  simp only [List.getElem?_toArray, List.getElem?_cons_succ, List.getElem?_cons_zero, Option.some.injEq] at t2 t6 t7 t8
  subst t2 t6 t7 t8
  clear hT
  have hlg : ∀ g, v6.ownBlock = some g → hg ≤ g := fun g hg => (hgo.lt g hg).1
  have Hsz : Hid (∀ s ∈ ss, s.size ≤ maxLen) := hsz
  have Hlw : Hid (∀ g, v4.ownBlock = some g → g < lo) := hlw
  have Hlg : Hid (∀ g, v6.ownBlock = some g → hg ≤ g) := hlg
  clear hsz hlw hlg
  simp only [pL, nthC, bodyLM, Try.f3, Option.getD_some]
  apply nest_k; intro K hK
  go_wp2_with fail
  refine (eqLs_any ss _ _ _ (hgo.lsW Hsz.out) (hwo7.lsW Hsz.out)).mono ?_
  rintro e w8 ⟨rfl, hb8⟩
  have hz8 := hb8.size
  have kA8 := kA7.up hb8 kA7.2.2
  have kX8 := kX7.up hb8 kX7.2.2
  have hk8 := hk7.up hb8
  have hob8 := hob7.up hb8
  have hbr8 := hbr7.up hb8
  have hwo8 := hwo7.up hb8
  have hgo8 := hgo.up hb8
  clear kA7 kX7 hk7 hob7 hbr7 hwo7 hgo hb8
  obtain ⟨⟨p0, p1⟩, -⟩ := kA8.c2
  obtain ⟨⟨q0, q1⟩, -⟩ := kX8.c2
  go_wp2_with fail
  try clear hK; try clear K
  apply nest_k; intro K hK
  go_wp2_with fail
  have hk8' : OldB W0 w8.drew (.agg #[.slice a1 b.things.length c1, .slice a2 b.bs.length c2]) b bx := hk8.up (Below.refl _ _).drew
  have hob8' : BkV w8.drew (.agg #[.slice (some ⟨b1, 0, none⟩) b.things.length b.things.length, .slice (some ⟨b2, 0, none⟩) b.bs.length b.bs.length]) b := hob8
  have hxl8 : xb < w8.drew.heap.size := kX8.2.2
  have r0 : w8.drew.cell? ⟨xb, 0, none⟩ = some (.slice (some ⟨b1, 0, none⟩) b.things.length b.things.length) := q0
  have r1 : w8.drew.cell? ⟨xb, 1, none⟩ = some (.slice (some ⟨b2, 0, none⟩) b.bs.length b.bs.length) := q1
  go_region_with (first
    | (go_at_call 6; refine (toBook_any b _ _ hk8'.bk hs).mono ?_; rintro e w10 ⟨⟨u, rfl, ho10⟩, hb10⟩; have s0 := (hb10.cell (p := ⟨xb, 0, none⟩) hxl8).trans r0; have s1 := (hb10.cell (p := ⟨xb, 1, none⟩) hxl8).trans r1)
    | (go_at_call 9; refine (eqBook_any b _ _ _ (hob8'.up hb10) (BkO.bk ho10)).mono ?_; rintro e w11 ⟨rfl, hb11⟩))
  all_goals
    have hb811 := up_trans hb10 hb11
    have hz11 : w8.heap.size ≤ w11.heap.size := hb811.size
    have kA11 : CB w11 bx [.slice a1 b.things.length c1, .slice a2 b.bs.length c2] := CB.up (w := w8.drew) kA8 hb811 kA8.2.2
    obtain ⟨w0, hw0, h0, hl0, hB11⟩ := hk8'.up hb811
    have Hw0 : Hid (∃ τ, w0 = { W0 with tape := τ }) := hw0
    clear hw0
    have kX11 : CB w11 xb [.slice (some ⟨b1, 0, none⟩) b.things.length b.things.length, .slice (some ⟨b2, 0, none⟩) b.bs.length b.bs.length] := CB.up (w := w8.drew) kX8 hb811 kX8.2.2
    have hbr11 : BkR w11 lo xb (.agg #[.slice (some ⟨b1, 0, none⟩) b.things.length b.things.length, .slice (some ⟨b2, 0, none⟩) b.bs.length b.bs.length]) b := BkR.up (w := w8.drew) hbr8 hb811
    have hwo11 : OwnT w11 lw v4 ss := OwnT.up (w := w8.drew) hwo8 hb811
    have hgo11 : OwnT w11 hg v6 ss := OwnT.up (w := w8.drew) hgo8 hb811
    clear p0 p1 q0 q1 r0 r1 s0 s1 kA8 kX8 hbr8 hwo8 hgo8 hk8 hk8' hob8 hob8' hb10 hb11 hb811 ho10 hxl8
    obtain ⟨⟨q0, q1⟩, -⟩ := kX11.c2
    go_wp2_with fail
    try clear hK; try clear K
    apply nest_k; intro K hK
    go_wp2_with fail
    try clear hK; try clear K
    apply nest_k; intro K hK
    go_wp2_with fail
    refine (mkBook_any b lo xb _ _ hbr11 hs).mono ?_
    rintro e w12 ⟨⟨k, rfl, hk1⟩, hO⟩
    have hz12 := hO.2.2.2.1
    have kA12 : CB w12 bx [.slice a1 b.things.length c1, .slice a2 b.bs.length c2] := kA11.blk (hO.blk kA11.2.2 (by omega)) hz12
    have hwo12 := hwo11.out hO fun g hg => .inl (Hlw.out g hg)
    have hgo12 := hgo11.out hO fun g hg => .inr (by have := Hlg.out g hg; omega)
    have hB12 : Below w0.heap.size w0 w12 := ⟨hO.1.trans hB11.os, hO.2.1.trans hB11.tape, hO.2.2.1.trans hB11.output, Nat.le_trans hB11.size hz12, fun i hi => (hO.blk (by have := hB11.size; omega) (by omega)).trans (hB11.block i hi)⟩
    clear q0 q1 kA11 kX11 hwo11 hgo11 hB11 hbr11 hO
    have hkb : decide (k < 0) = false := by simp; omega
    go_wp2_with fail
    try clear hK; try clear K
    apply nest_k; intro K hK
    go_wp2_with fail
    refine (eqLs_any ss _ _ _ (hgo12.lsW Hsz.out) (hwo12.lsW Hsz.out)).mono ?_
    rintro e w13 ⟨rfl, hb13⟩
    have hB13 := up_trans hB12 hb13
    have hz13 := hb13.size
    have kA13 := kA12.up hb13 kA12.2.2
    have hwo13 := hwo12.up hb13
    have hgo13 := hgo12.up hb13
    clear hkb kA12 hwo12 hgo12 hB12 hb13
    go_wp2_with fail
    try clear hK; try clear K
    apply nest_k; intro K hK
    go_wp2_with fail
    try clear hK; try clear K
    apply nest_k; intro K hK
    go_wp2_with fail
    refine (markS_any ss hg v6 1 _ hgo13 (by omega) (by omega) (by omega)).mono ?_
    rintro e w14 ⟨rfl, ⟨ys, hyl, hM, hys⟩, hg14⟩
    have hz14 := hg14.size
    have hB14 := below_own hB13 hgo13 hg14 (by omega)
    have kA14 := kA13.kept hg14 (own_ne hgo13 (by omega))
    have hwo14 : OwnT w14 lw v4 ss := own_keep hwo13 hg14 fun g hg => by
      have h1 := Hlw.out g hg
      intro h2
      have := Hlg.out g h2.symm
      omega
    have hM' : Marked ys 1 ys.length := by rw [hyl]; exact hM
    clear hwo13 hgo13 hB13 hg14 kA13 hM
    go_wp2_with fail
    try clear hK; try clear K
    apply nest_k; intro K hK
    go_wp2_with fail
    try clear hK; try clear K
    apply nest_k; intro K hK
    go_wp2_with fail
    refine (heldS_any ys hg v6 1 _ hys hM' (by omega) (by omega) (by omega)).mono ?_
    rintro e w15 ⟨rfl, hb15⟩
    rw [hyl]
    have hB15 := up_trans hB14 hb15
    have kA15 := kA14.up hb15 kA14.2.2
    have hwo15 := hwo14.up hb15
    have hys15 := hys.up hb15
    clear hwo14 hys hB14 hb15 kA14
    go_wp2_with fail
    try clear hK; try clear K
    apply nest_k; intro K hK
    go_wp2_with fail
    try clear hK; try clear K
    apply nest_k; intro K hK
    go_wp2_with fail
    exact ⟨_, bx, lw, v4, v6, ys, rfl, rfl, rfl, rfl, rfl, rfl, kA15, ⟨w0, Hw0.out, h0, hl0, hB15⟩, hwo15, hys15, hM', hyl⟩

set_option maxRecDepth 20000 in
set_option maxHeartbeats 8000000 in
theorem nestC {T : Array Value} {lw hg hh : Nat} {bx : Nat} {uw ug uh : Value} {ss ys : List ByteArray} (w : World) (hT : T.size = 69) (t6 : T[4]? = some uw) (t8 : T[6]? = some ug) (t10 : T[8]? = some (.int .i64 (1 + ss.length))) (t12 : T[10]? = some uh)
    (hk : OldB W0 w (.agg #[.slice a1 b.things.length c1, .slice a2 b.bs.length c2]) b bx) (hwo : OwnT w lw uw ss) (hys : OwnT w hg ug ys) (hM : Marked ys 1 ys.length) (hyl : ys.length = ss.length) (hho : OwnT w hh uh ss) (hsz : ∀ s ∈ ss, s.size ≤ maxLen) (hss : ss.length ≤ 5) :
    Nest Try.prog [pL 19, pL 20, pL 21, pL 22, pL 23] (fun e a u => e = .normal ∧ (∃ T, a = ⟨T, []⟩ ∧ T.size = 69) ∧ OldB W0 u (.agg #[.slice a1 b.things.length c1, .slice a2 b.bs.length c2]) b bx) ⟨T, []⟩ w := by
  obtain ⟨v0, v1, v2, v3, v4, v5, v6, v7, v8, v9, v10, v11, v12, v13, v14, v15, v16, v17, v18, v19, v20, v21, v22, v23, v24, v25, v26, v27, v28, v29, v30, v31, v32, v33, v34, v35, v36, v37, v38, v39, v40, v41, v42, v43, v44, v45, v46, v47, v48, v49, v50, v51, v52, v53, v54, v55, v56, v57, v58, v59, v60, v61, v62, v63, v64, v65, v66, v67, v68, rfl⟩ := array69 T hT
  simp only [List.getElem?_toArray, List.getElem?_cons_succ, List.getElem?_cons_zero, Option.some.injEq] at t6 t8 t10 t12
  subst t6 t8 t10 t12
  clear hT
  have Hsz : Hid (∀ s ∈ ss, s.size ≤ maxLen) := hsz
  clear hsz
  simp only [pL, nthC, bodyLM, Try.f3, Option.getD_some]
  apply nest_k; intro K hK
  go_wp2_with fail
  refine (eqLs_any ss _ _ _ (hho.lsW Hsz.out) (hwo.lsW Hsz.out)).mono ?_
  rintro e w18 ⟨rfl, hb18⟩
  have hk18 := hk.up hb18
  have hys18 := hys.up hb18
  clear hwo hys hk hho hb18
  go_wp2_with fail
  try clear hK; try clear K
  apply nest_k; intro K hK
  go_wp2_with fail
  try clear hK; try clear K
  apply nest_k; intro K hK
  go_wp2_with fail
  refine (heldS_any ys hg v6 1 _ hys18 hM (by omega) (by omega) (by omega)).mono ?_
  rintro e w19 ⟨rfl, hb19⟩
  rw [hyl]
  have hk19 := hk18.up hb19
  clear hk18 hys18 hb19
  go_wp2_with fail
  try clear hK; try clear K
  apply nest_k; intro K hK
  go_wp2_with fail
  try clear hK; try clear K
  apply nest_k; intro K hK
  go_wp2_with fail
  exact ⟨rfl, ⟨_, rfl, rfl⟩, hk19⟩
end
end Go.Proofs.Ytafgabakhaipnaa
