/- The law of ShareMoves, 1: up to the first call that goes. -/
import Derived.Test.YtafgabakhaipnaaLawMo0
import Derived.Test.YtafgabakhaipnaaLawKu
import Derived.Test.YtafgabakhaipnaaJ39
namespace Go.Proofs.Ytafgabakhaipnaa
open Go.RowKit

theorem BkO.shapeW {w : World} {base : Nat} {v : Value} {b : Bk} (h : BkO w base v b) : ∃ b1 b2, v = .agg #[.slice (some ⟨b1, 0, none⟩) b.things.length b.things.length, .slice (some ⟨b2, 0, none⟩) b.bs.length b.bs.length] := by
  obtain ⟨tv, bv, mid, rfl, h1, h2, -⟩ := h
  obtain ⟨b1, rfl⟩ := h1.shape
  obtain ⟨b2, rfl⟩ := h2.shape
  exact ⟨b1, b2, rfl⟩

/-- A book that lay there in W0, ahead of block bx, and lies there; all that W0 had is as it was. -/
def OldB (W0 u : World) (v : Value) (b : Bk) (bx : Nat) : Prop := ∃ w0, (∃ τ, w0 = { W0 with tape := τ }) ∧ BkV w0 v b ∧ w0.heap.size ≤ bx ∧ Below w0.heap.size w0 u
theorem OldB.bk {W0 u : World} {v : Value} {b : Bk} {bx : Nat} (h : OldB W0 u v b bx) : BkV u v b := let ⟨_, _, h1, _, h3⟩ := h; h1.up h3
theorem OldB.up {W0 u u' : World} {v : Value} {b : Bk} {bx : Nat} (h : OldB W0 u v b bx) (hb : Below u.heap.size u u') : OldB W0 u' v b bx := let ⟨w0, h0, h1, h2, h3⟩ := h; ⟨w0, h0, h1, h2, up_trans h3 hb⟩
theorem OldB.tl (W0 : World) (v : Value) (b : Bk) (bx : Nat) : Tapeless (fun u => OldB W0 u v b bx) := fun _ τ _ ⟨w0, ⟨σ, h0⟩, h1, h2, h3⟩ => ⟨{ w0 with tape := τ }, ⟨τ, by rw [h0]⟩, h1, h2, h3.os, rfl, h3.output, h3.size, h3.block⟩

section
variable (W0 : World) (b : Bk) (a1 a2 : Option Addr) (c1 c2 : Nat)
def QA1 (a : Act) (u : World) : Prop := ∃ T bx x, a = ⟨T, []⟩ ∧ T.size = 69 ∧ T[1]? = some (.pointer (some ⟨bx, 0, none⟩)) ∧ T[3]? = some (.int .i64 x) ∧ CB u bx [.slice a1 b.things.length c1, .slice a2 b.bs.length c2] ∧ OldB W0 u (.agg #[.slice a1 b.things.length c1, .slice a2 b.bs.length c2]) b bx ∧ (0 ≤ x → Small b)
def QA2 (a : Act) (u : World) : Prop := ∃ T bx xb b1 b2 lo lw uw, a = ⟨T, []⟩ ∧ T.size = 69 ∧ T[1]? = some (.pointer (some ⟨bx, 0, none⟩)) ∧ T[4]? = some uw ∧ T[5]? = some (.pointer (some ⟨xb, 0, none⟩)) ∧ CB u bx [.slice a1 b.things.length c1, .slice a2 b.bs.length c2] ∧ OldB W0 u (.agg #[.slice a1 b.things.length c1, .slice a2 b.bs.length c2]) b bx ∧
  CB u xb [.slice (some ⟨b1, 0, none⟩) b.things.length b.things.length, .slice (some ⟨b2, 0, none⟩) b.bs.length b.bs.length] ∧ BkV u (.agg #[.slice (some ⟨b1, 0, none⟩) b.things.length b.things.length, .slice (some ⟨b2, 0, none⟩) b.bs.length b.bs.length]) b ∧ BkR u lo xb (.agg #[.slice (some ⟨b1, 0, none⟩) b.things.length b.things.length, .slice (some ⟨b2, 0, none⟩) b.bs.length b.bs.length]) b ∧ OwnT u lw uw (movesS b) ∧ (∀ g, uw.ownBlock = some g → g < lo) ∧ bx < lo ∧ lo ≤ xb

set_option maxRecDepth 20000 in
set_option maxHeartbeats 4000000 in
theorem nestA1 (w : World) (h : OldB W0 w (.agg #[.slice a1 b.things.length c1, .slice a2 b.bs.length c2]) b w.heap.size) :
    Nest Try.prog [pL 0, pL 1, pL 2] (fun e a u => e = .normal ∧ QA1 W0 b a1 a2 c1 c2 a u) ⟨slL (.agg #[.slice a1 b.things.length c1, .slice a2 b.bs.length c2]), []⟩ w := by
  simp only [pL, nthC, slL, bodyLM, Try.f3, Option.getD_some]
  obtain ⟨W1, hW1, kA, hB1, hs1⟩ : ∃ W1, w.alloc (.cells #[.slice a1 b.things.length c1, .slice a2 b.bs.length c2] 25) = W1 ∧ CB W1 w.heap.size [.slice a1 b.things.length c1, .slice a2 b.bs.length c2] ∧ Below w.heap.size w W1 ∧ W1.heap.size = w.heap.size + 1 := ⟨_, rfl, cb1 w _ _⟩
  apply nest_k; intro K hK
  go_wp2_with fail
  try clear hK; try clear K
  try rw [hW1]
  clear hW1
  have ho := h.up hB1
  have hk := ho.bk
  obtain ⟨⟨p0, p1⟩, -⟩ := kA.c2
  clear h
  apply nest_k; intro K hK
  go_wp2_with fail
  try clear hK; try clear K
  apply nest_k; intro K hK
  go_wp2_with fail
  refine (szBook_any b _ _ _ hk (by omega) (by omega)).mono ?_
  rintro e w2 ⟨⟨x, rfl, -, hx⟩, hb2⟩
  have kA2 := kA.up hb2 (by omega)
  have hk2 := ho.up hb2
  have Hx : Hid (0 ≤ x → Small b) := hx
  clear hx p0 p1 kA hk
  go_wp2_with fail
  exact ⟨rfl, _, w.heap.size, x, rfl, rfl, rfl, rfl, kA2, hk2, Hx.out⟩

set_option maxRecDepth 20000 in
set_option maxHeartbeats 4000000 in
theorem nestA2 {T : Array Value} {bx : Nat} {x : Int} (w : World) (hT : T.size = 69) (t2 : T[1]? = some (.pointer (some ⟨bx, 0, none⟩))) (t5 : T[3]? = some (.int .i64 x)) (kA : CB w bx [.slice a1 b.things.length c1, .slice a2 b.bs.length c2]) (hk : OldB W0 w (.agg #[.slice a1 b.things.length c1, .slice a2 b.bs.length c2]) b bx) (hx : ¬ x < 0) (hs : Small b) :
    Nest Try.prog [pL 3, pL 4, pL 5] (fun e a u => e = .normal ∧ QA2 W0 b a1 a2 c1 c2 a u) ⟨T, []⟩ w := by
  obtain ⟨v0, v1, v2, v3, v4, v5, v6, v7, v8, v9, v10, v11, v12, v13, v14, v15, v16, v17, v18, v19, v20, v21, v22, v23, v24, v25, v26, v27, v28, v29, v30, v31, v32, v33, v34, v35, v36, v37, v38, v39, v40, v41, v42, v43, v44, v45, v46, v47, v48, v49, v50, v51, v52, v53, v54, v55, v56, v57, v58, v59, v60, v61, v62, v63, v64, v65, v66, v67, v68, rfl⟩ := array69 T hT
  simp only [List.getElem?_toArray, List.getElem?_cons_succ, List.getElem?_cons_zero, Option.some.injEq] at t2 t5
  subst t2 t5
  clear hT
  simp only [pL, nthC, bodyLM, Try.f3, Option.getD_some]
  obtain ⟨⟨p0, p1⟩, -⟩ := kA.c2
  have hbl := kA.2.2
  apply nest_k; intro K hK
  go_wp2_with fail
  try clear hK; try clear K
  apply nest_k; intro K hK
  go_wp2_with fail
  refine (toBook_any b _ _ hk.bk hs).mono ?_
  rintro e w3 ⟨⟨u, rfl, hob⟩, hb3⟩
  go_wp2_with fail
  refine (specMoves_any b u _ hob.bk).mono ?_
  rintro e w4 ⟨⟨uw, rfl, hwo⟩, hb4⟩
  have hb34 := up_trans hb3 hb4
  have kA4 := kA.up hb34 hbl
  have hk4 := hk.up hb34
  have hz4 := hb34.size
  have hlw : ∀ g, uw.ownBlock = some g → g < w4.heap.size := fun g hg => (hwo.lt g hg).2
  clear p0 p1 kA hob hb3 hb4 hb34 hk
  obtain ⟨⟨p0, p1⟩, -⟩ := kA4.c2
  go_wp2_with fail
  try clear hK; try clear K
  apply nest_k; intro K hK
  go_wp2_with fail
  refine (toBook_any b _ _ hk4.bk hs).mono ?_
  rintro e w5 ⟨⟨u, rfl, hob⟩, hb5⟩
  obtain ⟨b1, b2, rfl⟩ := hob.shapeW
  have kA5 := kA4.up hb5 kA4.2.2
  have hk5 := hk4.up hb5
  have hwo5 := hwo.up hb5
  have hz5 := hb5.size
  have hbr := hob.bkR
  clear p0 p1 kA4 hb5 hwo hk4
  obtain ⟨W6, hW6, kX, hb6, hs6⟩ : ∃ W6, w5.alloc (.cells #[.slice (some ⟨b1, 0, none⟩) b.things.length b.things.length, .slice (some ⟨b2, 0, none⟩) b.bs.length b.bs.length] 30) = W6 ∧ CB W6 w5.heap.size [.slice (some ⟨b1, 0, none⟩) b.things.length b.things.length, .slice (some ⟨b2, 0, none⟩) b.bs.length b.bs.length] ∧ Below w5.heap.size w5 W6 ∧ W6.heap.size = w5.heap.size + 1 := ⟨_, rfl, cb1 w5 _ _⟩
  go_wp2_with fail
  try clear hK; try clear K
  try rw [hW6]
  exact ⟨rfl, _, bx, w5.heap.size, b1, b2, w4.heap.size, _, uw, rfl, rfl, rfl, rfl, rfl, kA5.up hb6 kA5.2.2, hk5.up hb6, kX, hob.bk.up hb6, hbr.up hb6, hwo5.up hb6, hlw, by omega, hz5⟩
end
end Go.Proofs.Ytafgabakhaipnaa
