/- The law of promises 14 and 15, 8: a second book and a name. -/
import Derived.Test.YtnojjmkmkelbgaaGreatLs4
namespace Go.Proofs.YtnojjmkmkelbgaaGreat
open Go.RowKit

noncomputable def r13L : Code := match tL 6 with | .seq r _ => r | _ => .skip
theorem tL6 : tL 6 = .seq r13L (tL 7) := rfl
/-- A second book, and a name. -/
def QD (u : World) (a : Act) (u' : World) : Prop := ∃ T d dx a3 c3 a4 c4 nm, a = ⟨T, []⟩ ∧ Has 96 T [(9, .pointer (some ⟨dx, 0, none⟩)), (10, .string nm)] ∧ CB u' dx [.slice a3 d.things.length c3, .slice a4 d.bs.length c4] ∧ BkV u' (.agg #[.slice a3 d.things.length c3, .slice a4 d.bs.length c4]) d ∧ Below u.heap.size u u'
set_option maxRecDepth 20000 in
set_option maxHeartbeats 4000000 in
theorem wp13 {T : Array Value} {x1 : Option Addr} {n1 k1 : Nat} (u : World) (hT : Has 96 T [(1, .slice x1 n1 k1)]) (h : BytesAt u u.heap.size (.slice x1 n1 k1) n1) (hcap : n1 ≤ k1) (hbig : k1 ≤ maxLen) :
    r13L.wp Tryz.prog (fun e a u' => e = .normal ∧ QD u a u') ⟨T, []⟩ u := by
  have e1 := hT.get 1 (.slice x1 n1 k1) (by simp)
  obtain ⟨v0, v1, v2, v3, v4, v5, v6, v7, v8, v9, v10, v11, v12, v13, v14, v15, v16, v17, v18, v19, v20, v21, v22, v23, v24, v25, v26, v27, v28, v29, v30, v31, v32, v33, v34, v35, v36, v37, v38, v39, v40, v41, v42, v43, v44, v45, v46, v47, v48, v49, v50, v51, v52, v53, v54, v55, v56, v57, v58, v59, v60, v61, v62, v63, v64, v65, v66, v67, v68, v69, v70, v71, v72, v73, v74, v75, v76, v77, v78, v79, v80, v81, v82, v83, v84, v85, v86, v87, v88, v89, v90, v91, v92, v93, v94, v95, rfl⟩ := array96 T hT.1
  simp only [List.getElem?_toArray, List.getElem?_cons_succ, List.getElem?_cons_zero, Option.some.injEq] at e1
  subst e1
  clear hT
  simp only [r13L, tL, tailC, bodyLS, Tryz.f3, Option.getD_some]
  apply wp_k
  intro K hK
  go_wp2_with fail
  refine (drawWaits_any x1 n1 k1 _ h hcap hbig).mono ?_
  rintro e w2 ⟨⟨v, d, nm, rfl, hD, -⟩, hb2⟩
  obtain ⟨a3, c3, a4, c4, rfl⟩ := hD.parts
  obtain ⟨W3, hW3, kX, hb3, hs3⟩ : ∃ W3, w2.alloc (.cells #[.slice a3 d.things.length c3, .slice a4 d.bs.length c4] 26) = W3 ∧ CB W3 w2.heap.size [.slice a3 d.things.length c3, .slice a4 d.bs.length c4] ∧ Below w2.heap.size w2 W3 ∧ W3.heap.size = w2.heap.size + 1 := ⟨_, rfl, cb1 w2 _ _⟩
  have hk := hD.bk.up hb3
  have hB := up_trans hb2 hb3
  clear hD hb2 hb3 hs3
  go_wp2_with fail
  try rw [hW3]
  refine ⟨_, d, w2.heap.size, a3, c3, a4, c4, nm, rfl, ⟨rfl, ?_⟩, kX, hk, hB⟩
  intro p hp
  simp only [List.mem_cons, List.not_mem_nil, or_false] at hp
  rcases hp with rfl | rfl <;> rfl

end Go.Proofs.YtnojjmkmkelbgaaGreat
