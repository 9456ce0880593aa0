/- The law of ShareMoves, 3: its returns. -/
import Derived.Test.YtafgabakhaipnaaLawMo2
namespace Go.Proofs.Ytafgabakhaipnaa
open Go.Conc Go.ConcN Go.RowKit Go.Conc.Lib Go.ConcR.Gen Go.ConcN.Gen
open Go.ConcR (KK wgBlock WgAt stA smA rd wr mk Payload DC0)


noncomputable def bL : Frame := base 3
theorem frL : FrB Try.prog bL := ⟨rfl, _, Try.func3⟩
theorem enterL (v : Value) : Frame.enter Try.prog 3 #[v] .normal = bL.at ⟨slL v, []⟩ [.code bodyLM] := by
  simp [Frame.enter, Frame.at, Try.func3, bL, base, slL, bodyLM, Try.f3]

/-- At its return, with this answer. -/
def RetL (v : Value) (g : Goroutine) : Prop := ∃ T todo, g = G { bL.at ⟨T, []⟩ todo with mode := .returning } [] ∧ T.getD 2 undef = v
theorem RetL.last {v : Value} {g : Goroutine} (h : RetL v g) (x : World) : stepG Try.prog true g x = .ended (.done v) x #[] := by
  obtain ⟨T, todo, rfl, rfl⟩ := h
  have hr := results_tmp (fn := Try.f3) (t := 2) rfl T Try.prog x
  have he := events_results_tmp (P := Try.prog) (w := x) (fn := Try.f3) (t := 2) rfl T
  simp [G, stepG, unwind, doReturn, Frame.at, hr, he, seen, GStep.after, bL, base]

section
variable {b : Bk} {a1 a2 : Option Addr} {c1 c2 : Nat} {T : Array Value} {w : World}
set_option maxRecDepth 100000 in
theorem endL (hT : T.size = 69) : Goes Try.prog true AtRel (DE fun _ => False) (fun g w' => RetL (.bool true) g ∧ AtRel w w') 20 (G (bL.at ⟨T, []⟩ [.code (tL 24)]) []) w := by
  obtain ⟨v0, v1, v2, v3, v4, v5, v6, v7, v8, v9, v10, v11, v12, v13, v14, v15, v16, v17, v18, v19, v20, v21, v22, v23, v24, v25, v26, v27, v28, v29, v30, v31, v32, v33, v34, v35, v36, v37, v38, v39, v40, v41, v42, v43, v44, v45, v46, v47, v48, v49, v50, v51, v52, v53, v54, v55, v56, v57, v58, v59, v60, v61, v62, v63, v64, v65, v66, v67, v68, rfl⟩ := array69 T hT
  simp only [tL, tailC, bodyLM, Try.f3, Option.getD_some]
  have rl : ∀ {V w w₁ : World}, AtRel V w → AtRel w w₁ → AtRel V w₁ := fun h r => atRel_trans _ _ _ h r
  have hF : AtRel w w := atRel_refl w
  u_c stepG_seq rl hF
  u_reg rl hF
  u_op rl hF
  u_c stepG_region_end rl hF
  u_c stepG_ret' rl hF
  exact Goes.stop fun w₁ r => ⟨⟨_, _, rfl, rfl⟩, rl hF r⟩

set_option maxRecDepth 100000 in
theorem early2 {x : Int} (hT : T.size = 69) (t5 : T[3]? = some (.int .i64 x)) (hx : x < 0) : Goes Try.prog true AtRel (DE fun _ => False) (fun g w' => RetL (.bool true) g ∧ AtRel w w') 30 (G (bL.at ⟨T, []⟩ [.code (tL 3)]) []) w := by
  obtain ⟨v0, v1, v2, v3, v4, v5, v6, v7, v8, v9, v10, v11, v12, v13, v14, v15, v16, v17, v18, v19, v20, v21, v22, v23, v24, v25, v26, v27, v28, v29, v30, v31, v32, v33, v34, v35, v36, v37, v38, v39, v40, v41, v42, v43, v44, v45, v46, v47, v48, v49, v50, v51, v52, v53, v54, v55, v56, v57, v58, v59, v60, v61, v62, v63, v64, v65, v66, v67, v68, rfl⟩ := array69 T hT
  simp only [List.getElem?_toArray, List.getElem?_cons_succ, List.getElem?_cons_zero, Option.some.injEq] at t5
  subst t5
  simp only [tL, tailC, bodyLM, Try.f3, Option.getD_some]
  have rl : ∀ {V w w₁ : World}, AtRel V w → AtRel w w₁ → AtRel V w₁ := fun h r => atRel_trans _ _ _ h r
  have hF : AtRel w w := atRel_refl w
  u_c stepG_seq rl hF
  u_c stepG_seq rl hF
  u_reg rl hF
  u_op rl hF
  u_op rl hF
  u_c stepG_region_end rl hF
  u_cnd true rl hF
  u_c stepG_seq rl hF
  u_reg rl hF
  u_op rl hF
  u_c stepG_region_end rl hF
  u_c stepG_ret' rl hF
  exact Goes.stop fun w₁ r => ⟨⟨_, _, rfl, rfl⟩, rl hF r⟩
end
end Go.Proofs.Ytafgabakhaipnaa
