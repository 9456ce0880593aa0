/- The law of ShareWaits, 4: its own steps around the calls that go. -/
import Derived.Test.YtmkpaciaollcbaaLawWa3
namespace Go.Proofs.Ytmkpaciaollcbaa
open Go.Conc Go.ConcN Go.RowKit Go.Conc.Lib Go.ConcR.Gen Go.ConcN.Gen
open Go.ConcR (KK wgBlock WgAt stA smA rd wr mk Payload DC0)


section
variable {nm : ByteArray} {T : Array Value} {w : World}
noncomputable def ops9L : Array Oper := match tL 7 with | .seq (.region _ o _) _ => o | _ => #[]
noncomputable def ops26L : Array Oper := match tL 19 with | .seq (.region _ o _) _ => o | _ => #[]
noncomputable def bT : Frame := base 7
noncomputable def bodyTo : Code := Try.f7.body.getD .skip

set_option maxRecDepth 100000 in
theorem into1 {X : Nat → Prop} {Shun : Loc → Prop} (hX : ShIn Shun X) {xb : Nat} {s1 s2 : Value} (hT : T.size = 77) (t1 : T[1]? = some (.string nm)) (t7 : T[7]? = some (.pointer (some ⟨xb, 0, none⟩))) {τ : Nat → Question → Nat} {d : Nat} (hc0 : (pzT X w τ d).cell? ⟨xb, 0, none⟩ = some s1) (hc1 : (pzT X w τ d).cell? ⟨xb, 1, none⟩ = some s2) :
    Go.Conc.Goes Try.prog true AtRel (DE (EvL Shun w.heap.size)) (fun g w' => (∃ T', T'.size = 77 ∧ T'[1]? = T[1]? ∧ T'[2]? = T[2]? ∧ T'[6]? = T[6]? ∧ T'[7]? = T[7]? ∧ g = G (Frame.enter Try.prog 15 #[.agg #[s1, s2], .string nm] .normal) [bL.at ⟨T', []⟩ (.inRegion ops9L [2, 3] :: [.code (tL 8)])]) ∧ AtRel w w') 20 (G (bL.at ⟨T, []⟩ [.code (tL 7)]) []) w := by
  obtain ⟨hc0, hx⟩ := pz_cell hc0
  obtain ⟨hc1, -⟩ := pz_cell hc1
  have hlt := World.block_lt_of_cell? w _ hc0
  have hns : ∀ o, ¬ Shun (.cell ⟨xb, o, none⟩) := fun o h => by obtain ⟨a, e, ha⟩ := hX _ h; cases e; exact hx ha
  obtain ⟨v0, v1, v2, v3, v4, v5, v6, v7, v8, v9, v10, v11, v12, v13, v14, v15, v16, v17, v18, v19, v20, v21, v22, v23, v24, v25, v26, v27, v28, v29, v30, v31, v32, v33, v34, v35, v36, v37, v38, v39, v40, v41, v42, v43, v44, v45, v46, v47, v48, v49, v50, v51, v52, v53, v54, v55, v56, v57, v58, v59, v60, v61, v62, v63, v64, v65, v66, v67, v68, v69, v70, v71, v72, v73, v74, v75, v76, rfl⟩ := array77 T hT
  simp only [List.getElem?_toArray, List.getElem?_cons_succ, List.getElem?_cons_zero, Option.some.injEq] at t1 t7
  subst t1 t7
  simp only [tL, ops9L, tailC, bodyLW, Try.f4, Option.getD_some]
  have rl : ∀ {V w w₁ : World}, AtRel V w → AtRel w w₁ → AtRel V w₁ := fun h r => atRel_trans _ _ _ h r
  have hF : AtRel w w := atRel_refl w
  u_c stepG_seq rl hF
  u_reg rl hF
  u_in rl hF
  refine goes_oper_k rfl rfl (by k_ne) (fun K hK => ?_)
  have hc' : (‹World›).cell? ⟨xb, 0, none⟩ = some s1 := by obtain ⟨d, rfl⟩ := hF; exact hc0
  have hc'' : (‹World›).cell? ⟨xb, 1, none⟩ = some s2 := by obtain ⟨d, rfl⟩ := hF; exact hc1
  go_simp
  refine hK _ _ ⟨fun e he => ?_, ?_⟩
  · have hm := mem_listed he
    simp [go_sem, *] at hm
    rcases hm with rfl | rfl <;> exact evL_low hlt (hns _)
  clear hK K hc' hc''
  try walk_nrm
  u_op rl hF
  u_in rl hF
  refine goes_call rfl rfl (by k_ne) rfl Try.func15 (by kernel_rfl) rfl ⟨fun e he => by simp at he, ?_⟩
  walk_nrmf Try.f15
  refine Go.Conc.Goes.stop fun w₁ r => ⟨⟨#[v0, .string nm, v2, v3, v4, v5, v6, .pointer (some ⟨xb, 0, none⟩), v8, v9, v10, v11, v12, v13, v14, v15, v16, v17, v18, v19, v20, v21, v22, v23, v24, v25, v26, .agg #[s1, s2], .string nm, v29, v30, v31, v32, v33, v34, v35, v36, v37, v38, v39, v40, v41, v42, v43, v44, v45, v46, v47, v48, v49, v50, v51, v52, v53, v54, v55, v56, v57, v58, v59, v60, v61, v62, v63, v64, v65, v66, v67, v68, v69, v70, v71, v72, v73, v74, v75, v76], rfl, rfl, rfl, rfl, rfl, ?_⟩, rl hF r⟩
  rw [enterS]
  simp only [slS, bodySW, Try.f15, Option.getD_some]
  rfl

set_option maxRecDepth 100000 in
theorem out1 (hT : T.size = 77) (v : Value) :
    Go.Conc.Goes Try.prog true AtRel (DE fun _ => False) (fun g w' => (∃ T', T'.size = 77 ∧ T'[1]? = T[1]? ∧ T'[2]? = T[2]? ∧ T'[6]? = T[6]? ∧ T'[7]? = T[7]? ∧ T'[8]? = some v ∧ g = G (bL.at ⟨T', []⟩ [.code (tL 8)]) []) ∧ AtRel w w') 10 (G ((bL.at ⟨T, []⟩ (.inRegion ops9L [2, 3] :: [.code (tL 8)])).finish v) []) w := by
  obtain ⟨v0, v1, v2, v3, v4, v5, v6, v7, v8, v9, v10, v11, v12, v13, v14, v15, v16, v17, v18, v19, v20, v21, v22, v23, v24, v25, v26, v27, v28, v29, v30, v31, v32, v33, v34, v35, v36, v37, v38, v39, v40, v41, v42, v43, v44, v45, v46, v47, v48, v49, v50, v51, v52, v53, v54, v55, v56, v57, v58, v59, v60, v61, v62, v63, v64, v65, v66, v67, v68, v69, v70, v71, v72, v73, v74, v75, v76, rfl⟩ := array77 T hT
  rw [Frame.finish_at]
  simp only [tL, ops9L, tailC, bodyLW, Try.f4, Option.getD_some]
  have rl : ∀ {V w w₁ : World}, AtRel V w → AtRel w w₁ → AtRel V w₁ := fun h r => atRel_trans _ _ _ h r
  have hF : AtRel w w := atRel_refl w
  walk_nrm
  u_op rl hF
  u_c stepG_region_end rl hF
  exact Go.Conc.Goes.stop fun w₁ r => ⟨⟨_, rfl, rfl, rfl, rfl, rfl, rfl, rfl⟩, rl hF r⟩

set_option maxRecDepth 100000 in
theorem into2 {X : Nat → Prop} {Shun : Loc → Prop} (hX : ShIn Shun X) {bx : Nat} {s1 s2 : Value} (hT : T.size = 77) (t2 : T[2]? = some (.pointer (some ⟨bx, 0, none⟩))) {τ : Nat → Question → Nat} {d : Nat} (hc0 : (pzT X w τ d).cell? ⟨bx, 0, none⟩ = some s1) (hc1 : (pzT X w τ d).cell? ⟨bx, 1, none⟩ = some s2) :
    Go.Conc.Goes Try.prog true AtRel (DE (EvL Shun w.heap.size)) (fun g w' => (∃ T', T'.size = 77 ∧ T'[1]? = T[1]? ∧ T'[6]? = T[6]? ∧ T'[8]? = T[8]? ∧ T'[10]? = T[10]? ∧ g = G (Frame.enter Try.prog 7 #[.agg #[s1, s2]] .normal) [bL.at ⟨T', []⟩ (.inRegion ops26L [1, 2, 3, 4] :: [.code (tL 20)])]) ∧ AtRel w w') 20 (G (bL.at ⟨T, []⟩ [.code (tL 19)]) []) w := by
  obtain ⟨hc0, hx⟩ := pz_cell hc0
  obtain ⟨hc1, -⟩ := pz_cell hc1
  have hlt := World.block_lt_of_cell? w _ hc0
  have hns : ∀ o, ¬ Shun (.cell ⟨bx, o, none⟩) := fun o h => by obtain ⟨a, e, ha⟩ := hX _ h; cases e; exact hx ha
  obtain ⟨v0, v1, v2, v3, v4, v5, v6, v7, v8, v9, v10, v11, v12, v13, v14, v15, v16, v17, v18, v19, v20, v21, v22, v23, v24, v25, v26, v27, v28, v29, v30, v31, v32, v33, v34, v35, v36, v37, v38, v39, v40, v41, v42, v43, v44, v45, v46, v47, v48, v49, v50, v51, v52, v53, v54, v55, v56, v57, v58, v59, v60, v61, v62, v63, v64, v65, v66, v67, v68, v69, v70, v71, v72, v73, v74, v75, v76, rfl⟩ := array77 T hT
  simp only [List.getElem?_toArray, List.getElem?_cons_succ, List.getElem?_cons_zero, Option.some.injEq] at t2
  subst t2
  simp only [tL, ops26L, tailC, bodyLW, Try.f4, Option.getD_some]
  have rl : ∀ {V w w₁ : World}, AtRel V w → AtRel w w₁ → AtRel V w₁ := fun h r => atRel_trans _ _ _ h r
  have hF : AtRel w w := atRel_refl w
  u_c stepG_seq rl hF
  u_reg rl hF
  u_in rl hF
  refine goes_oper_k rfl rfl (by k_ne) (fun K hK => ?_)
  have hc' : (‹World›).cell? ⟨bx, 0, none⟩ = some s1 := by obtain ⟨d, rfl⟩ := hF; exact hc0
  have hc'' : (‹World›).cell? ⟨bx, 1, none⟩ = some s2 := by obtain ⟨d, rfl⟩ := hF; exact hc1
  go_simp
  refine hK _ _ ⟨fun e he => ?_, ?_⟩
  · have hm := mem_listed he
    simp [go_sem, *] at hm
    rcases hm with rfl | rfl <;> exact evL_low hlt (hns _)
  clear hK K hc' hc''
  try walk_nrm
  u_in rl hF
  refine goes_call rfl rfl (by k_ne) rfl Try.func7 (by kernel_rfl) rfl ⟨fun e he => by simp at he, ?_⟩
  walk_nrmf Try.f7
  refine Go.Conc.Goes.stop fun w₁ r => ⟨⟨#[v0, v1, .pointer (some ⟨bx, 0, none⟩), v3, v4, v5, v6, v7, v8, v9, v10, v11, v12, v13, v14, v15, v16, v17, v18, v19, v20, v21, v22, v23, v24, v25, v26, v27, v28, v29, v30, v31, v32, v33, v34, v35, v36, v37, v38, v39, v40, v41, v42, v43, v44, v45, v46, v47, v48, v49, v50, v51, v52, v53, v54, v55, v56, v57, v58, v59, v60, .agg #[s1, s2], v62, v63, v64, v65, v66, v67, v68, v69, v70, v71, v72, v73, v74, v75, v76], rfl, rfl, rfl, rfl, rfl, ?_⟩, rl hF r⟩
  rw [enter_at _ Try.func7 rfl]
  simp only [Try.f7]
  rfl

set_option maxRecDepth 100000 in
theorem mid2 (hT : T.size = 77) (t1 : T[1]? = some (.string nm)) (v : Value) :
    Go.Conc.Goes Try.prog true AtRel (DE fun _ => False) (fun g w' => (∃ T', T'.size = 77 ∧ T'[6]? = T[6]? ∧ T'[8]? = T[8]? ∧ T'[10]? = T[10]? ∧ g = G (Frame.enter Try.prog 15 #[v, .string nm] .normal) [bL.at ⟨T', []⟩ (.inRegion ops26L [3, 4] :: [.code (tL 20)])]) ∧ AtRel w w') 10 (G ((bL.at ⟨T, []⟩ (.inRegion ops26L [1, 2, 3, 4] :: [.code (tL 20)])).finish v) []) w := by
  obtain ⟨v0, v1, v2, v3, v4, v5, v6, v7, v8, v9, v10, v11, v12, v13, v14, v15, v16, v17, v18, v19, v20, v21, v22, v23, v24, v25, v26, v27, v28, v29, v30, v31, v32, v33, v34, v35, v36, v37, v38, v39, v40, v41, v42, v43, v44, v45, v46, v47, v48, v49, v50, v51, v52, v53, v54, v55, v56, v57, v58, v59, v60, v61, v62, v63, v64, v65, v66, v67, v68, v69, v70, v71, v72, v73, v74, v75, v76, rfl⟩ := array77 T hT
  simp only [List.getElem?_toArray, List.getElem?_cons_succ, List.getElem?_cons_zero, Option.some.injEq] at t1
  subst t1
  rw [Frame.finish_at]
  simp only [tL, ops26L, tailC, bodyLW, Try.f4, Option.getD_some]
  have rl : ∀ {V w w₁ : World}, AtRel V w → AtRel w w₁ → AtRel V w₁ := fun h r => atRel_trans _ _ _ h r
  have hF : AtRel w w := atRel_refl w
  walk_nrm
  u_op rl hF
  u_in rl hF
  refine goes_call rfl rfl (by k_ne) rfl Try.func15 (by kernel_rfl) rfl ⟨fun e he => by simp at he, ?_⟩
  walk_nrmf Try.f15
  refine Go.Conc.Goes.stop fun w₁ r => ⟨⟨#[v0, .string nm, v2, v3, v4, v5, v6, v7, v8, v9, v10, v11, v12, v13, v14, v15, v16, v17, v18, v19, v20, v21, v22, v23, v24, v25, v26, v27, v28, v29, v30, v31, v32, v33, v34, v35, v36, v37, v38, v39, v40, v41, v42, v43, v44, v45, v46, v47, v48, v49, v50, v51, v52, v53, v54, v55, v56, v57, v58, v59, v60, v61, v, .string nm, v64, v65, v66, v67, v68, v69, v70, v71, v72, v73, v74, v75, v76], rfl, rfl, rfl, rfl, ?_⟩, rl hF r⟩
  rw [enterS]
  simp only [slS, bodySW, Try.f15, Option.getD_some]
  rfl

set_option maxRecDepth 100000 in
theorem out2 (hT : T.size = 77) (v : Value) :
    Go.Conc.Goes Try.prog true AtRel (DE fun _ => False) (fun g w' => (∃ T', T'.size = 77 ∧ T'[6]? = T[6]? ∧ T'[8]? = T[8]? ∧ T'[10]? = T[10]? ∧ T'[12]? = some v ∧ g = G (bL.at ⟨T', []⟩ [.code (tL 20)]) []) ∧ AtRel w w') 10 (G ((bL.at ⟨T, []⟩ (.inRegion ops26L [3, 4] :: [.code (tL 20)])).finish v) []) w := by
  obtain ⟨v0, v1, v2, v3, v4, v5, v6, v7, v8, v9, v10, v11, v12, v13, v14, v15, v16, v17, v18, v19, v20, v21, v22, v23, v24, v25, v26, v27, v28, v29, v30, v31, v32, v33, v34, v35, v36, v37, v38, v39, v40, v41, v42, v43, v44, v45, v46, v47, v48, v49, v50, v51, v52, v53, v54, v55, v56, v57, v58, v59, v60, v61, v62, v63, v64, v65, v66, v67, v68, v69, v70, v71, v72, v73, v74, v75, v76, rfl⟩ := array77 T hT
  rw [Frame.finish_at]
  simp only [tL, ops26L, tailC, bodyLW, Try.f4, Option.getD_some]
  have rl : ∀ {V w w₁ : World}, AtRel V w → AtRel w w₁ → AtRel V w₁ := fun h r => atRel_trans _ _ _ h r
  have hF : AtRel w w := atRel_refl w
  walk_nrm
  u_op rl hF
  u_c stepG_region_end rl hF
  exact Go.Conc.Goes.stop fun w₁ r => ⟨⟨_, rfl, rfl, rfl, rfl, rfl, rfl⟩, rl hF r⟩
end
end Go.Proofs.Ytmkpaciaollcbaa
