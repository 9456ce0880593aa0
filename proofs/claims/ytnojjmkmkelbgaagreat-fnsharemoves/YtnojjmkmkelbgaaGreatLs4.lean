/- The law of promises 14 and 15, 4: the pieces of its loop. -/
import Derived.Test.YtnojjmkmkelbgaaGreatJ46
namespace Go.Proofs.YtnojjmkmkelbgaaGreat
open Go.RowKit

noncomputable def LB : Code := match tL 5 with | .seq (.seq _ (.block _ (.loop c))) _ => c | _ => .skip
noncomputable def r8L : Code := match LB with | .seq (.seq r _) _ => r | _ => .skip
noncomputable def r10L : Code := match LB with | .seq _ (.seq (.block _ (.seq r _)) _) => r | _ => .skip
noncomputable def r9L : Code := match LB with | .seq _ (.seq _ r) => r | _ => .skip
noncomputable def ops11 : Array Oper := match LB with | .seq _ (.seq (.block _ (.seq _ (.seq (.region _ o _) _))) _) => o | _ => #[]
noncomputable def cond11 : Code := match LB with | .seq _ (.seq (.block _ (.seq _ (.seq _ c))) _) => c | _ => .skip
theorem LB_eq : LB = .seq (.seq r8L (.cond (.tmp 53) .skip (.exit 0))) (.seq (.block 1 (.seq r10L (.seq (.region 11 ops11 true) cond11))) r9L) := rfl
theorem cond11_eq : ∃ x, cond11 = .cond (.tmp 70) x .skip := ⟨_, rfl⟩
theorem tL5 : ∃ o, tL 5 = .seq (.seq (.region 7 #[o] false) (.block 0 (.loop LB))) (tL 6) ∧ o.op = .assign (.const (.int .i64 0)) ∧ o.dst = some 7 ∧ o.guard = none := ⟨_, rfl, rfl, rfl, rfl⟩

theorem wp_k {P : Program} {r : Code} {Q : Exit → Act → World → Prop} {a : Act} {w : World} (h : ∀ K : Exit → Act → World → Prop, (∀ e a w, Q e a w → K e a w) → r.wp P K a w) : r.wp P Q a w := h _ fun _ _ _ h => h

/-- Slots of which so much is known; the world grown. -/
def QH (l : List (Nat × Value)) (u : World) (a : Act) (u' : World) : Prop := ∃ T', a = ⟨T', []⟩ ∧ Has 96 T' l ∧ Below u.heap.size u u'

section
variable {b : Bk} {bx : Nat} {a1 a2 : Option Addr} {c1 c2 : Nat} {lv v1 : Value} {T : Array Value}
set_option maxRecDepth 20000 in
set_option maxHeartbeats 4000000 in
theorem wp8 (i : Nat) (u : World) (hT : Has 96 T ((7, .int .i64 i) :: [(1, v1), (5, .pointer (some ⟨bx, 0, none⟩)), (6, lv)])) (kA : CB u bx [.slice a1 b.things.length c1, .slice a2 b.bs.length c2]) (hk : BkV u (.agg #[.slice a1 b.things.length c1, .slice a2 b.bs.length c2]) b) :
    r8L.wp Tryz.prog (fun e a u' => e = .normal ∧ QH ((53, .bool (decide (i < b.bs.length) && bookB b)) :: (7, .int .i64 i) :: [(1, v1), (5, .pointer (some ⟨bx, 0, none⟩)), (6, lv)]) u a u') ⟨T, []⟩ u := by
  have e5 := hT.get 5 (.pointer (some ⟨bx, 0, none⟩)) (by simp)
  have e7 := hT.get 7 (.int .i64 i) (by simp)
  have e1 := hT.get 1 v1 (by simp)
  have e6 := hT.get 6 lv (by simp)
  obtain ⟨v0, v1, v2, v3, v4, v5, v6, v7, v8, v9, v10, v11, v12, v13, v14, v15, v16, v17, v18, v19, v20, v21, v22, v23, v24, v25, v26, v27, v28, v29, v30, v31, v32, v33, v34, v35, v36, v37, v38, v39, v40, v41, v42, v43, v44, v45, v46, v47, v48, v49, v50, v51, v52, v53, v54, v55, v56, v57, v58, v59, v60, v61, v62, v63, v64, v65, v66, v67, v68, v69, v70, v71, v72, v73, v74, v75, v76, v77, v78, v79, v80, v81, v82, v83, v84, v85, v86, v87, v88, v89, v90, v91, v92, v93, v94, v95, rfl⟩ := array96 T hT.1
  simp only [List.getElem?_toArray, List.getElem?_cons_succ, List.getElem?_cons_zero, Option.some.injEq] at e1 e5 e6 e7
  subst e1 e5 e6 e7
  clear hT
  obtain ⟨p0, p1⟩ := kA.c2'
  simp only [r8L, LB, tL, tailC, bodyLS, Tryz.f3, Option.getD_some]
  apply wp_k
  intro K hK
  by_cases hi : i < b.bs.length
  · have hd : decide ((i : Int) < (b.bs.length : Int)) = true := decide_eq_true (by omega)
    have hd2 : decide (i < b.bs.length) = true := decide_eq_true hi
    go_wp2_with fail
    refine (specBook_any b _ _ hk).mono ?_
    rintro e w2 ⟨rfl, hb2⟩
    clear p0 p1
    go_wp2_with fail
    refine ⟨_, rfl, ⟨rfl, ?_⟩, hb2⟩
    intro p hp
    simp only [List.mem_cons, List.not_mem_nil, or_false] at hp
    rcases hp with rfl | rfl | rfl | rfl | rfl
    · simp
    all_goals rfl
  · have hd : decide ((i : Int) < (b.bs.length : Int)) = false := decide_eq_false (by omega)
    have hd2 : decide (i < b.bs.length) = false := decide_eq_false hi
    go_wp2_with fail
    refine ⟨_, rfl, ⟨rfl, ?_⟩, Below.refl _ _⟩
    intro p hp
    simp only [List.mem_cons, List.not_mem_nil, or_false] at hp
    rcases hp with rfl | rfl | rfl | rfl | rfl
    · simp
    all_goals rfl

set_option maxRecDepth 20000 in
set_option maxHeartbeats 4000000 in
theorem wp10 (i : Nat) (u : World) (hT : Has 96 T ((7, .int .i64 i) :: [(1, v1), (5, .pointer (some ⟨bx, 0, none⟩)), (6, lv)])) (kA : CB u bx [.slice a1 b.things.length c1, .slice a2 b.bs.length c2]) (hk : BkV u (.agg #[.slice a1 b.things.length c1, .slice a2 b.bs.length c2]) b) (hi : i < b.bs.length) :
    r10L.wp Tryz.prog (fun e a u' => e = .normal ∧ QH ((8, .string (b.bs[i]).nm) :: (7, .int .i64 i) :: [(1, v1), (5, .pointer (some ⟨bx, 0, none⟩)), (6, lv)]) u a u') ⟨T, []⟩ u := by
  have e5 := hT.get 5 (.pointer (some ⟨bx, 0, none⟩)) (by simp)
  have e7 := hT.get 7 (.int .i64 i) (by simp)
  have e1 := hT.get 1 v1 (by simp)
  have e6 := hT.get 6 lv (by simp)
  obtain ⟨v0, v1, v2, v3, v4, v5, v6, v7, v8, v9, v10, v11, v12, v13, v14, v15, v16, v17, v18, v19, v20, v21, v22, v23, v24, v25, v26, v27, v28, v29, v30, v31, v32, v33, v34, v35, v36, v37, v38, v39, v40, v41, v42, v43, v44, v45, v46, v47, v48, v49, v50, v51, v52, v53, v54, v55, v56, v57, v58, v59, v60, v61, v62, v63, v64, v65, v66, v67, v68, v69, v70, v71, v72, v73, v74, v75, v76, v77, v78, v79, v80, v81, v82, v83, v84, v85, v86, v87, v88, v89, v90, v91, v92, v93, v94, v95, rfl⟩ := array96 T hT.1
  simp only [List.getElem?_toArray, List.getElem?_cons_succ, List.getElem?_cons_zero, Option.some.injEq] at e1 e5 e6 e7
  subst e1 e5 e6 e7
  clear hT
  obtain ⟨p0, p1⟩ := kA.c2'
  obtain ⟨a1', c1', a2', c2', ee, -, h2⟩ := hk.parts
  obtain ⟨-, hpos⟩ := h2.at
  have hg2 := h2.at.1
  obtain ⟨bb, o, rfl, hS, hb⟩ := hpos (by omega)
  obtain ⟨rfl, rfl, rfl, rfl⟩ : a1 = a1' ∧ c1 = c1' ∧ a2 = some ⟨bb, o, none⟩ ∧ c2 = c2' := by
    simp only [Value.agg.injEq, Array.mk.injEq, List.cons.injEq, Value.slice.injEq, true_and, and_true] at ee
    exact ⟨ee.1.1, ee.1.2, ee.2.1, ee.2.2⟩
  obtain ⟨a3, d3, a4, d4, c3, -, -, -, -, z0⟩ := (hS.at hi).cells
  unfold maxLen at hg2
  generalize b.bs[i] = x0 at *
  simp only [r10L, LB, tL, tailC, bodyLS, Tryz.f3, Option.getD_some]
  apply wp_k
  intro K hK
  go_wp2_with fail
  refine ⟨_, rfl, ⟨rfl, ?_⟩, Below.refl _ _⟩
  intro p hp
  simp only [List.mem_cons, List.not_mem_nil, or_false] at hp
  rcases hp with rfl | rfl | rfl | rfl | rfl <;> rfl
end
end Go.Proofs.YtnojjmkmkelbgaaGreat
