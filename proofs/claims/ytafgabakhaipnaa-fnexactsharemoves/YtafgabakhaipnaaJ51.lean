/- The law of ShareMoves, 4: its own steps around the calls that go. -/
import Derived.Test.YtafgabakhaipnaaLawMo3
namespace Go.Proofs.Ytafgabakhaipnaa
open Go.Conc Go.ConcN Go.RowKit Go.Conc.Lib Go.ConcR.Gen Go.ConcN.Gen
open Go.ConcR (KK wgBlock WgAt stA smA rd wr mk Payload DC0)


section
variable {T : Array Value} {w : World}
noncomputable def ops7L : Array Oper := match tL 6 with | .seq (.region _ o _) _ => o | _ => #[]
noncomputable def ops24L : Array Oper := match tL 18 with | .seq (.region _ o _) _ => o | _ => #[]
noncomputable def bT : Frame := base 6
noncomputable def bodyTo : Code := Try.f6.body.getD .skip

set_option maxRecDepth 100000 in
theorem into1 {X : Nat → Prop} {Shun : Loc → Prop} (hX : ShIn Shun X) {xb : Nat} {s1 s2 : Value} (hT : T.size = 69) (t7 : T[5]? = some (.pointer (some ⟨xb, 0, none⟩))) {τ : Nat → Question → Nat} {d : Nat} (hc0 : (pzT X w τ d).cell? ⟨xb, 0, none⟩ = some s1) (hc1 : (pzT X w τ d).cell? ⟨xb, 1, none⟩ = some s2) :
    Goes Try.prog true AtRel (DE (EvL Shun w.heap.size)) (fun g w' => (∃ T', T'.size = 69 ∧ T'[1]? = T[1]? ∧ T'[4]? = T[4]? ∧ T'[5]? = T[5]? ∧ g = G (Frame.enter Try.prog 7 #[.agg #[s1, s2]] .normal) [bL.at ⟨T', []⟩ (.inRegion ops7L [1, 2] :: [.code (tL 7)])]) ∧ AtRel w w') 20 (G (bL.at ⟨T, []⟩ [.code (tL 6)]) []) w := by
  obtain ⟨hc0, hx⟩ := pz_cell hc0
  obtain ⟨hc1, -⟩ := pz_cell hc1
  have hlt := World.block_lt_of_cell? w _ hc0
  have hns : ∀ o, ¬ Shun (.cell ⟨xb, o, none⟩) := fun o h => by obtain ⟨a, e, ha⟩ := hX _ h; cases e; exact hx ha
  obtain ⟨v0, v1, v2, v3, v4, v5, v6, v7, v8, v9, v10, v11, v12, v13, v14, v15, v16, v17, v18, v19, v20, v21, v22, v23, v24, v25, v26, v27, v28, v29, v30, v31, v32, v33, v34, v35, v36, v37, v38, v39, v40, v41, v42, v43, v44, v45, v46, v47, v48, v49, v50, v51, v52, v53, v54, v55, v56, v57, v58, v59, v60, v61, v62, v63, v64, v65, v66, v67, v68, rfl⟩ := array69 T hT
  simp only [List.getElem?_toArray, List.getElem?_cons_succ, List.getElem?_cons_zero, Option.some.injEq] at t7
  subst t7
  simp only [tL, ops7L, tailC, bodyLM, Try.f3, Option.getD_some]
  have rl : ∀ {V w w₁ : World}, AtRel V w → AtRel w w₁ → AtRel V w₁ := fun h r => atRel_trans _ _ _ h r
  have hF : AtRel w w := atRel_refl w
  u_c stepG_seq rl hF
  u_reg rl hF
  u_in rl hF
  refine goes_oper_k rfl rfl (by k_ne) (fun K hK => ?_)
  have hc' : (‹World›).cell? ⟨xb, 0, none⟩ = some s1 := by obtain ⟨d, rfl⟩ := hF; exact hc0
  have hc'' : (‹World›).cell? ⟨xb, 1, none⟩ = some s2 := by obtain ⟨d, rfl⟩ := hF; exact hc1
  go_simp
  refine hK _ _ ⟨fun e he => ?_, ?_⟩
  · have hm := mem_listed he
    simp [go_sem, *] at hm
    rcases hm with rfl | rfl <;> exact evL_low hlt (hns _)
  clear hK K hc' hc''
  try walk_nrm
  u_in rl hF
  refine goes_call rfl rfl (by k_ne) rfl Try.func7 (by kernel_rfl) rfl ⟨fun e he => by simp at he, ?_⟩
  walk_nrmf Try.f7
  refine Goes.stop fun w₁ r => ⟨⟨#[v0, v1, v2, v3, v4, .pointer (some ⟨xb, 0, none⟩), v6, v7, v8, v9, v10, v11, v12, v13, v14, v15, v16, v17, v18, v19, v20, .agg #[s1, s2], v22, v23, v24, v25, v26, v27, v28, v29, v30, v31, v32, v33, v34, v35, v36, v37, v38, v39, v40, v41, v42, v43, v44, v45, v46, v47, v48, v49, v50, v51, v52, v53, v54, v55, v56, v57, v58, v59, v60, v61, v62, v63, v64, v65, v66, v67, v68], rfl, rfl, rfl, rfl, ?_⟩, rl hF r⟩
  rw [enterM]
  simp only [slM, bodyM, Try.f7, Option.getD_some]
  rfl

set_option maxRecDepth 100000 in
theorem out1 (hT : T.size = 69) (v : Value) :
    Goes Try.prog true AtRel (DE fun _ => False) (fun g w' => (∃ T', T'.size = 69 ∧ T'[1]? = T[1]? ∧ T'[4]? = T[4]? ∧ T'[5]? = T[5]? ∧ T'[6]? = some v ∧ g = G (bL.at ⟨T', []⟩ [.code (tL 7)]) []) ∧ AtRel w w') 10 (G ((bL.at ⟨T, []⟩ (.inRegion ops7L [1, 2] :: [.code (tL 7)])).finish v) []) w := by
  obtain ⟨v0, v1, v2, v3, v4, v5, v6, v7, v8, v9, v10, v11, v12, v13, v14, v15, v16, v17, v18, v19, v20, v21, v22, v23, v24, v25, v26, v27, v28, v29, v30, v31, v32, v33, v34, v35, v36, v37, v38, v39, v40, v41, v42, v43, v44, v45, v46, v47, v48, v49, v50, v51, v52, v53, v54, v55, v56, v57, v58, v59, v60, v61, v62, v63, v64, v65, v66, v67, v68, rfl⟩ := array69 T hT
  rw [Frame.finish_at]
  simp only [tL, ops7L, tailC, bodyLM, Try.f3, Option.getD_some]
  have rl : ∀ {V w w₁ : World}, AtRel V w → AtRel w w₁ → AtRel V w₁ := fun h r => atRel_trans _ _ _ h r
  have hF : AtRel w w := atRel_refl w
  walk_nrm
  u_op rl hF
  u_c stepG_region_end rl hF
  exact Goes.stop fun w₁ r => ⟨⟨_, rfl, rfl, rfl, rfl, rfl, rfl⟩, rl hF r⟩

set_option maxRecDepth 100000 in
theorem into2 {X : Nat → Prop} {Shun : Loc → Prop} (hX : ShIn Shun X) {bx : Nat} {s1 s2 : Value} (hT : T.size = 69) (t2 : T[1]? = some (.pointer (some ⟨bx, 0, none⟩))) {τ : Nat → Question → Nat} {d : Nat} (hc0 : (pzT X w τ d).cell? ⟨bx, 0, none⟩ = some s1) (hc1 : (pzT X w τ d).cell? ⟨bx, 1, none⟩ = some s2) :
    Goes Try.prog true AtRel (DE (EvL Shun w.heap.size)) (fun g w' => (∃ T', T'.size = 69 ∧ T'[4]? = T[4]? ∧ T'[6]? = T[6]? ∧ T'[8]? = T[8]? ∧ g = G (Frame.enter Try.prog 6 #[.agg #[s1, s2]] .normal) [bL.at ⟨T', []⟩ (.inRegion ops24L [1, 2, 3] :: [.code (tL 19)])]) ∧ AtRel w w') 20 (G (bL.at ⟨T, []⟩ [.code (tL 18)]) []) w := by
  obtain ⟨hc0, hx⟩ := pz_cell hc0
  obtain ⟨hc1, -⟩ := pz_cell hc1
  have hlt := World.block_lt_of_cell? w _ hc0
  have hns : ∀ o, ¬ Shun (.cell ⟨bx, o, none⟩) := fun o h => by obtain ⟨a, e, ha⟩ := hX _ h; cases e; exact hx ha
  obtain ⟨v0, v1, v2, v3, v4, v5, v6, v7, v8, v9, v10, v11, v12, v13, v14, v15, v16, v17, v18, v19, v20, v21, v22, v23, v24, v25, v26, v27, v28, v29, v30, v31, v32, v33, v34, v35, v36, v37, v38, v39, v40, v41, v42, v43, v44, v45, v46, v47, v48, v49, v50, v51, v52, v53, v54, v55, v56, v57, v58, v59, v60, v61, v62, v63, v64, v65, v66, v67, v68, rfl⟩ := array69 T hT
  simp only [List.getElem?_toArray, List.getElem?_cons_succ, List.getElem?_cons_zero, Option.some.injEq] at t2
  subst t2
  simp only [tL, ops24L, tailC, bodyLM, Try.f3, Option.getD_some]
  have rl : ∀ {V w w₁ : World}, AtRel V w → AtRel w w₁ → AtRel V w₁ := fun h r => atRel_trans _ _ _ h r
  have hF : AtRel w w := atRel_refl w
  u_c stepG_seq rl hF
  u_reg rl hF
  u_in rl hF
  refine goes_oper_k rfl rfl (by k_ne) (fun K hK => ?_)
  have hc' : (‹World›).cell? ⟨bx, 0, none⟩ = some s1 := by obtain ⟨d, rfl⟩ := hF; exact hc0
  have hc'' : (‹World›).cell? ⟨bx, 1, none⟩ = some s2 := by obtain ⟨d, rfl⟩ := hF; exact hc1
  go_simp
  refine hK _ _ ⟨fun e he => ?_, ?_⟩
  · have hm := mem_listed he
    simp [go_sem, *] at hm
    rcases hm with rfl | rfl <;> exact evL_low hlt (hns _)
  clear hK K hc' hc''
  try walk_nrm
  u_in rl hF
  refine goes_call rfl rfl (by k_ne) rfl Try.func6 (by kernel_rfl) rfl ⟨fun e he => by simp at he, ?_⟩
  walk_nrmf Try.f6
  refine Goes.stop fun w₁ r => ⟨⟨#[v0, .pointer (some ⟨bx, 0, none⟩), v2, v3, v4, v5, v6, v7, v8, v9, v10, v11, v12, v13, v14, v15, v16, v17, v18, v19, v20, v21, v22, v23, v24, v25, v26, v27, v28, v29, v30, v31, v32, v33, v34, v35, v36, v37, v38, v39, v40, v41, v42, v43, v44, v45, v46, v47, v48, v49, v50, v51, v52, v53, .agg #[s1, s2], v55, v56, v57, v58, v59, v60, v61, v62, v63, v64, v65, v66, v67, v68], rfl, rfl, rfl, rfl, ?_⟩, rl hF r⟩
  rw [enter_at _ Try.func6 rfl]
  simp only [Try.f6]
  rfl

set_option maxRecDepth 100000 in
theorem mid2 (hT : T.size = 69) (v : Value) :
    Goes Try.prog true AtRel (DE fun _ => False) (fun g w' => (∃ T', T'.size = 69 ∧ T'[4]? = T[4]? ∧ T'[6]? = T[6]? ∧ T'[8]? = T[8]? ∧ g = G (Frame.enter Try.prog 7 #[v] .normal) [bL.at ⟨T', []⟩ (.inRegion ops24L [2, 3] :: [.code (tL 19)])]) ∧ AtRel w w') 10 (G ((bL.at ⟨T, []⟩ (.inRegion ops24L [1, 2, 3] :: [.code (tL 19)])).finish v) []) w := by
  obtain ⟨v0, v1, v2, v3, v4, v5, v6, v7, v8, v9, v10, v11, v12, v13, v14, v15, v16, v17, v18, v19, v20, v21, v22, v23, v24, v25, v26, v27, v28, v29, v30, v31, v32, v33, v34, v35, v36, v37, v38, v39, v40, v41, v42, v43, v44, v45, v46, v47, v48, v49, v50, v51, v52, v53, v54, v55, v56, v57, v58, v59, v60, v61, v62, v63, v64, v65, v66, v67, v68, rfl⟩ := array69 T hT
  rw [Frame.finish_at]
  simp only [tL, ops24L, tailC, bodyLM, Try.f3, Option.getD_some]
  have rl : ∀ {V w w₁ : World}, AtRel V w → AtRel w w₁ → AtRel V w₁ := fun h r => atRel_trans _ _ _ h r
  have hF : AtRel w w := atRel_refl w
  walk_nrm
  u_in rl hF
  refine goes_call rfl rfl (by k_ne) rfl Try.func7 (by kernel_rfl) rfl ⟨fun e he => by simp at he, ?_⟩
  walk_nrmf Try.f7
  refine Goes.stop fun w₁ r => ⟨⟨#[v0, v1, v2, v3, v4, v5, v6, v7, v8, v9, v10, v11, v12, v13, v14, v15, v16, v17, v18, v19, v20, v21, v22, v23, v24, v25, v26, v27, v28, v29, v30, v31, v32, v33, v34, v35, v36, v37, v38, v39, v40, v41, v42, v43, v44, v45, v46, v47, v48, v49, v50, v51, v52, v53, v54, v, v56, v57, v58, v59, v60, v61, v62, v63, v64, v65, v66, v67, v68], rfl, rfl, rfl, rfl, ?_⟩, rl hF r⟩
  rw [enterM]
  simp only [slM, bodyM, Try.f7, Option.getD_some]
  rfl

set_option maxRecDepth 100000 in
theorem out2 (hT : T.size = 69) (v : Value) :
    Goes Try.prog true AtRel (DE fun _ => False) (fun g w' => (∃ T', T'.size = 69 ∧ T'[4]? = T[4]? ∧ T'[6]? = T[6]? ∧ T'[8]? = T[8]? ∧ T'[10]? = some v ∧ g = G (bL.at ⟨T', []⟩ [.code (tL 19)]) []) ∧ AtRel w w') 10 (G ((bL.at ⟨T, []⟩ (.inRegion ops24L [2, 3] :: [.code (tL 19)])).finish v) []) w := by
  obtain ⟨v0, v1, v2, v3, v4, v5, v6, v7, v8, v9, v10, v11, v12, v13, v14, v15, v16, v17, v18, v19, v20, v21, v22, v23, v24, v25, v26, v27, v28, v29, v30, v31, v32, v33, v34, v35, v36, v37, v38, v39, v40, v41, v42, v43, v44, v45, v46, v47, v48, v49, v50, v51, v52, v53, v54, v55, v56, v57, v58, v59, v60, v61, v62, v63, v64, v65, v66, v67, v68, rfl⟩ := array69 T hT
  rw [Frame.finish_at]
  simp only [tL, ops24L, tailC, bodyLM, Try.f3, Option.getD_some]
  have rl : ∀ {V w w₁ : World}, AtRel V w → AtRel w w₁ → AtRel V w₁ := fun h r => atRel_trans _ _ _ h r
  have hF : AtRel w w := atRel_refl w
  walk_nrm
  u_op rl hF
  u_c stepG_region_end rl hF
  exact Goes.stop fun w₁ r => ⟨⟨_, rfl, rfl, rfl, rfl, rfl, rfl⟩, rl hF r⟩
end
end Go.Proofs.Ytafgabakhaipnaa

/- The law of ShareMoves, from its entry to its return, on every tape. -/
namespace Go.Proofs.Ytafgabakhaipnaa
open Go.Conc Go.ConcN Go.RowKit Go.Conc.Lib Go.ConcR.Gen Go.ConcN.Gen
open Go.ConcR (KK wgBlock WgAt stA smA rd wr mk Payload DC0)


/-- What W had is as it was. -/
structure BelR (W w : World) : Prop where
  os : w.os = W.os
  output : w.output = W.output
  size : W.heap.size ≤ w.heap.size
  block : ∀ k, k < W.heap.size → w.heap[k]? = W.heap[k]?
theorem pz_no (w : World) (τ : Nat → Question → Nat) (d : Nat) : (pzT (fun _ => False) w τ d).heap = w.heap := by
  apply Array.ext_getElem?
  intro b
  show (pz (fun _ => False) w).heap[b]? = _
  rw [pz_get]
  cases w.heap[b]? with
  | none => rfl
  | some o => simp [pzObj]
theorem old_real {W0 w : World} {X : Nat → Prop} {τ : Nat → Question → Nat} {d : Nat} {v : Value} {b : Bk} {bx : Nat} (h : OldB W0 (pzT X w τ d) v b bx) (hX : ∀ b, X b → W0.heap.size ≤ b) : BelR W0 w := by
  obtain ⟨w0, ⟨σ, rfl⟩, _, _, hb⟩ := h
  refine ⟨hb.os, hb.output, by have := hb.size; rwa [pz_size] at this, fun k hk => ?_⟩
  have h1 : (pz X w).heap[k]? = W0.heap[k]? := hb.block k hk
  rw [pz_get] at h1
  have hx : ¬ X k := fun hx => by have := hX k hx; omega
  rw [← h1]
  cases w.heap[k]? with
  | none => rfl
  | some o => simp [pzObj, hx]
theorem old_first {W0 : World} {v : Value} {b : Bk} (h : BkV W0 v b) (τ : Nat → Question → Nat) (d : Nat) : OldB W0 (pzT (fun _ => False) W0 τ d) v b (pzT (fun _ => False) W0 τ d).heap.size :=
  ⟨{ W0 with tape := τ }, ⟨τ, rfl⟩, h, by rw [pz_size]; exact Nat.le_refl _, rfl, rfl, rfl, by rw [pz_size]; exact Nat.le_refl _, fun k _ => by rw [pz_no]⟩

theorem old_all {W0 w : World} {X : Nat → Prop} {τ0 : Nat → Question → Nat} {d0 : Nat} {v : Value} {b : Bk} {bx : Nat} (h : OldB W0 (pzT X w τ0 d0) v b bx) (τ : Nat → Question → Nat) (d : Nat) : OldB W0 (pzT X w τ d) v b bx := OldB.tl W0 v b bx (pzT X w τ0 d0) τ d h
theorem okL : ∀ r ∈ [pL 0, pL 1, pL 2, pL 3, pL 4, pL 5, pL 7, pL 8, pL 9, pL 10, pL 11, pL 12, pL 13, pL 14, pL 15, pL 16, pL 17, pL 19, pL 20, pL 21, pL 22, pL 23], codeOk Try.prog (fun g => fsW.contains g) r = true := by
  intro r hr
  simp only [List.mem_cons, List.not_mem_nil, or_false] at hr
  rcases hr with rfl | rfl | rfl | rfl | rfl | rfl | rfl | rfl | rfl | rfl | rfl | rfl | rfl | rfl | rfl | rfl | rfl | rfl | rfl | rfl | rfl | rfl <;> kernel_rfl
theorem it1 : bodyLM = joinC [pL 0, pL 1, pL 2] (tL 3) := by simp only [joinC, pL, tL, nthC, tailC, bodyLM, Try.f3, Option.getD_some]
theorem it4 : tL 3 = joinC [pL 3, pL 4, pL 5] (tL 6) := by simp only [joinC, pL, tL, nthC, tailC, bodyLM, Try.f3, Option.getD_some]
theorem it8 : tL 7 = joinC [pL 7, pL 8, pL 9, pL 10, pL 11, pL 12, pL 13, pL 14, pL 15, pL 16, pL 17] (tL 18) := by simp only [joinC, pL, tL, nthC, tailC, bodyLM, Try.f3, Option.getD_some]
theorem it20 : tL 19 = joinC [pL 19, pL 20, pL 21, pL 22, pL 23] (tL 24) := by simp only [joinC, pL, tL, nthC, tailC, bodyLM, Try.f3, Option.getD_some]

section
variable {W0 : World} {b : Bk} {a1 a2 : Option Addr} {c1 c2 : Nat}
theorem tlA1 (a : Act) : Tapeless (QA1 W0 b a1 a2 c1 c2 a) := fun _ _ _ ⟨T, bx, x, h1, h2, h3, h4, h5, h6, h7⟩ => ⟨T, bx, x, h1, h2, h3, h4, h5, OldB.tl _ _ _ _ _ _ _ h6, h7⟩
theorem tlA2 (a : Act) : Tapeless (QA2 W0 b a1 a2 c1 c2 a) := fun _ _ _ ⟨T, bx, xb, b1, b2, lo, lw, uw, h1, h2, h3, h4, h5, h6, h7, h8⟩ => ⟨T, bx, xb, b1, b2, lo, lw, uw, h1, h2, h3, h4, h5, h6, OldB.tl _ _ _ _ _ _ _ h7, h8⟩
theorem tlB (ss : List ByteArray) (hg : Nat) (a : Act) : Tapeless (QB W0 b a1 a2 c1 c2 ss hg a) := fun _ _ _ ⟨T, bx, lw, uw, ug, ys, h1, h2, h3, h4, h5, h6, h7, h8, h9⟩ => ⟨T, bx, lw, uw, ug, ys, h1, h2, h3, h4, h5, h6, h7, OldB.tl _ _ _ _ _ _ _ h8, h9⟩
theorem fin {Shun : Loc → Prop} {gs : Array Goroutine} {g : Goroutine} {w : World} {sl : Option (Nat × Nat)} {t : Trace} (hh : Here Try.prog Shun gs g t) (hr : RetL (.bool true) g) (hb : BelR W0 w) : EndsG Try.prog (fun v w => v = .bool true ∧ BelR W0 w) (crowd gs w sl) t :=
  ends_last hh (by obtain ⟨_, _, rfl, _⟩ := hr; rfl) hr.last fun d => ⟨rfl, hb.os, hb.output, hb.size, hb.block⟩

theorem lawMoves_ends (h : BkV W0 (.agg #[.slice a1 b.things.length c1, .slice a2 b.bs.length c2]) b) (hp : ∀ (b : Nat) (c : Array Value) (t : TypeId), W0.heap[b]? = some (Obj.pending c t) → gN ≤ b) :
    EndsG Try.prog (fun v w => v = .bool true ∧ BelR W0 w) (crowd #[G (Frame.enter Try.prog 3 #[.agg #[.slice a1 b.things.length c1, .slice a2 b.bs.length c2]] .normal) []] W0 none) #[] := by
  have hb0 : Base (fun _ => False) W0 := ⟨fun _ h => h.elim, fun _ h => h.elim, hp⟩
  have hX0 : ShIn (fun _ => False) (fun _ => False) := fun _ h => h.elim
  have hh : Here Try.prog (fun _ => False) #[G (Frame.enter Try.prog 3 #[.agg #[.slice a1 b.things.length c1, .slice a2 b.bs.length c2]] .normal) []] (G (Frame.enter Try.prog 3 #[.agg #[.slice a1 b.things.length c1, .slice a2 b.bs.length c2]] .normal) []) #[] := ⟨rfl, ⟨_, leavers_one _ _⟩, ⟨0, fr_nil⟩⟩
  obtain ⟨gs0, hgs0⟩ : ∃ gs0, #[G (Frame.enter Try.prog 3 #[.agg #[.slice a1 b.things.length c1, .slice a2 b.bs.length c2]] .normal) []] = gs0 := ⟨_, rfl⟩
  rw [hgs0] at hh ⊢
  clear hgs0
  rw [enterL] at hh
  rw [it1] at hh
  refine ends_run (X := fun _ => False) (Shun := fun _ => False) hX0 hh (nest_run setW frL (Q := QA1 W0 b a1 a2 c1 c2) (tL 3) [] [] [pL 0, pL 1, pL 2] (fun r hr => okL r (by simp at hr; rcases hr with rfl | rfl | rfl <;> simp)) rfl hb0 (fun τ d => held_of hb0 (fun τ d => nestA1 W0 b a1 a2 c1 c2 _ (old_first h τ d)) τ d)) fun gs1 g1 w1 sl1 t1 hh1 hst => ?_
  obtain ⟨a, rfl, hd, hb1, hQ⟩ := hst
  obtain ⟨T, bx, x, rfl, hT, s2, s5, kA, ho, hx⟩ := Held.out (tlA1 a) (hQ (fun _ _ => 0) 0)
  by_cases hx0 : x < 0
  · refine ends_walk (D := DE fun _ => False) (B0 := 0) (fun _ _ _ h e he => (h e he).elim) hh1 (early2 (w := w1) hT s5 hx0) fun gs2 g2 w2 sl2 t2 hh2 hst2 => ?_
    obtain ⟨hret, d2, rfl⟩ := hst2
    exact fin hh2 hret (old_real (w := w1.at d2) ho fun _ h => h.elim)
  have hs : Small b := hx (by omega)
  rw [it4] at hh1
  refine ends_run (X := fun _ => False) (Shun := fun _ => False) hX0 hh1 (nest_run setW frL (Q := QA2 W0 b a1 a2 c1 c2) (tL 6) [] [] [pL 3, pL 4, pL 5] (fun r hr => okL r (by simp at hr; rcases hr with rfl | rfl | rfl <;> simp)) rfl hb1 (fun τ d => held_of hb1 (fun τ d => nestA2 W0 b a1 a2 c1 c2 _ hT s2 s5 kA (old_all ho τ d) hx0 hs) τ d)) fun gs2 g2 w2 sl2 t2 hh2 hst2 => ?_
  clear kA ho hQ hT s2 s5 hd
  obtain ⟨a, rfl, hd, hb2, hQ⟩ := hst2
  obtain ⟨T, bx, xb, b1, b2, lo, lw, uw, rfl, hT, s2, s6, s7, kA, ho, kX, hob, hbr, hwo, hlw, hbx, hlx⟩ := Held.out (tlA2 a) (hQ (fun _ _ => 0) 0)
  have hsz := moves_small ho.bk
  have hss := moves_short b
  refine ends_walk (D := DE (EvL (fun _ => False) w2.heap.size)) (B0 := w2.heap.size) (fun _ _ _ h => h) hh2 (into1 (X := fun _ => False) (Shun := fun _ => False) (w := w2) hX0 hT s7 (kX.1 0 _ rfl) (kX.1 1 _ rfl)) fun gs3 g3 w3 sl3 t3 hh3 hst3 => ?_
  obtain ⟨⟨T3, hT3, e2, e6, e7, rfl⟩, d3, rfl⟩ := hst3
  refine moves_g (X := fun _ => False) (Shun := fun _ => False) (b := b) hX0 (hb2.at d3) (fun τ d => hob) _ _ [] gs3 sl3 t3 hh3 fun X1 Shun1 gs4 w4 sl4 t4 ug hX1 hW1 hh4 hb4 hR => ?_
  rw [moves_eq] at hR
  refine ends_walk (D := DE fun _ => False) (B0 := 0) (fun _ _ _ h e he => (h e he).elim) hh4 (out1 (w := w4) hT3 ug) fun gs5 g5 w5 sl5 t5 hh5 hst5 => ?_
  obtain ⟨⟨T5, hT5, f2, f6, f7, f8, rfl⟩, d5, rfl⟩ := hst5
  have hB1 : ∀ τ d, Below (pzT (fun _ => False) w2 τ d).heap.size (pzT (fun _ => False) w2 τ d) (pzT X1 w4 τ d) := fun τ d => by rw [pz_size]; exact (hR τ d).2
  have hxg : xb < w2.heap.size := by have := kX.2.2; rwa [pz_size] at this
  have hbl : bx < (pzT (fun _ => False) w2 (fun _ _ => 0) 0).heap.size := kA.2.2
  rw [it8] at hh5
  refine ends_run hX1 hh5 (nest_run setW frL (Q := QB W0 b a1 a2 c1 c2 (movesS b) w2.heap.size) (tL 18) [] [] [pL 7, pL 8, pL 9, pL 10, pL 11, pL 12, pL 13, pL 14, pL 15, pL 16, pL 17] (fun r hr => okL r (by simp at hr; rcases hr with rfl | rfl | rfl | rfl | rfl | rfl | rfl | rfl | rfl | rfl | rfl <;> simp)) rfl (hb4.at d5)
    (fun τ d => held_of (hb4.at d5) (fun τ d => nest_only (nestB W0 b a1 a2 c1 c2 (pzT X1 w4 τ d) hT5 (f2.trans (e2.trans s2)) (f6.trans (e6.trans s6)) (f7.trans (e7.trans s7)) f8
      (CB.up (w := pzT (fun _ => False) w2 τ d) kA (hB1 τ d) hbl) ((old_all ho τ d).up (hB1 τ d)) (CB.up (w := pzT (fun _ => False) w2 τ d) kX (hB1 τ d) kX.2.2) (BkV.up (w := pzT (fun _ => False) w2 τ d) hob (hB1 τ d)) (BkR.up (w := pzT (fun _ => False) w2 τ d) hbr (hB1 τ d)) (OwnT.up (w := pzT (fun _ => False) w2 τ d) hwo (hB1 τ d)) hlw hbx hlx (hR τ d).1 hxg hs hsz hss)) τ d)) fun gs6 g6 w6 sl6 t6 hh6 hst6 => ?_
  have hW : ∀ b, X1 b → w2.heap.size ≤ b := fun b hb => (hW1 b hb).elim (fun h => h.elim) id
  have hle2 : W0.heap.size ≤ w2.heap.size := by have := (old_real (w := w2) ho fun _ h => h.elim).size; exact this
  clear kA ho hQ hT s2 s6 s7 hd kX hob hbr hwo hlw hbx hlx hB1 hR hbl hW1 f2 f6 f7 f8 e2 e6 e7 hT3 hT5 hh5
  obtain ⟨a, rfl, hd, hb6, hQ⟩ := hst6
  obtain ⟨T, bx, lw, uw, ug, ys, rfl, hT, s2, s6, s8, s10, kA, ho, hwo, hys, hM, hyl⟩ := Held.out (tlB _ _ a) (hQ (fun _ _ => 0) 0)
  refine ends_walk (D := DE (EvL Shun1 w6.heap.size)) (B0 := w6.heap.size) (fun _ _ _ h => h) hh6 (into2 (w := w6) hX1 hT s2 (kA.1 0 _ rfl) (kA.1 1 _ rfl)) fun gs7 g7 w7 sl7 t7 hh7 hst7 => ?_
  obtain ⟨⟨T7, hT7, e6, e8, e10, rfl⟩, d7, rfl⟩ := hst7
  refine ends_run hX1 hh7 (call_back setW (f := 6) (by kernel_rfl) (hb6.at d7) (R := fun w v u => BkV u v b ∧ Below w.heap.size w u) (fun τ d => (toBook_any b _ _ (old_all ho τ d).bk hs).mono ?_) _ []) fun gs8 g8 w8 sl8 t8 hh8 hst8 => ?_
  · rintro e u' ⟨⟨v, rfl, hv⟩, hb⟩
    exact ⟨v, rfl, hv.bk, hb⟩
  obtain ⟨v8, rfl, hb8, hR8⟩ := hst8
  have hR8' : ∀ τ d, BkV (pzT X1 w8 τ d) v8 b ∧ Below w6.heap.size (pzT X1 w6 τ d) (pzT X1 w8 τ d) := fun τ d => below_held (fun _ _ _ h => h) ((hR8 τ d).imp fun u h => let ⟨τ, d, h1, h2⟩ := h; ⟨τ, d, h1, by rw [pz_size] at h2; exact h2⟩)
  refine ends_walk (D := DE fun _ => False) (B0 := 0) (fun _ _ _ h e he => (h e he).elim) hh8 (mid2 (w := w8) hT7 v8) fun gs9 g9 w9 sl9 t9 hh9 hst9 => ?_
  obtain ⟨⟨T9, hT9, f6, f8, f10, rfl⟩, d9, rfl⟩ := hst9
  refine moves_g (b := b) hX1 (hb8.at d9) (fun τ d => (hR8' τ d).1) _ _ [] gs9 sl9 t9 hh9 fun X2 Shun2 gs10 w10 sl10 t10 uh hX2 hW2 hh10 hb10 hR10 => ?_
  rw [moves_eq] at hR10
  refine ends_walk (D := DE fun _ => False) (B0 := 0) (fun _ _ _ h e he => (h e he).elim) hh10 (out2 (w := w10) hT9 uh) fun gs11 g11 w11 sl11 t11 hh11 hst11 => ?_
  obtain ⟨⟨T11, hT11, k6, k8, k10, k12, rfl⟩, d11, rfl⟩ := hst11
  have hle8 : w6.heap.size ≤ w8.heap.size := by have := (hR8' (fun _ _ => 0) 0).2.size; rwa [pz_size, pz_size] at this
  have hB2 : ∀ τ d, Below (pzT X1 w6 τ d).heap.size (pzT X1 w6 τ d) (pzT X2 w10 τ d) := fun τ d => by rw [pz_size]; exact (hR8' τ d).2.trans ((hR10 τ d).2.mono hle8)
  rw [it20] at hh11
  refine ends_run hX2 hh11 (nest_run setW frL (Q := fun a u => (∃ T, a = ⟨T, []⟩ ∧ T.size = 69) ∧ OldB W0 u (.agg #[.slice a1 b.things.length c1, .slice a2 b.bs.length c2]) b bx) (tL 24) [] [] [pL 19, pL 20, pL 21, pL 22, pL 23] (fun r hr => okL r (by simp at hr; rcases hr with rfl | rfl | rfl | rfl | rfl <;> simp)) rfl (hb10.at d11)
    (fun τ d => held_of (hb10.at d11) (fun τ d => nestC W0 b a1 a2 c1 c2 (pzT X2 w10 τ d) hT11 (k6.trans (f6.trans (e6.trans s6))) (k8.trans (f8.trans (e8.trans s8))) (k10.trans (f10.trans (e10.trans s10))) k12
      ((old_all ho τ d).up (hB2 τ d)) (OwnT.up (w := pzT X1 w6 τ d) hwo (hB2 τ d)) (OwnT.up (w := pzT X1 w6 τ d) hys (hB2 τ d)) hM hyl (hR10 τ d).1 hsz hss) τ d)) fun gs12 g12 w12 sl12 t12 hh12 hst12 => ?_
  obtain ⟨a, rfl, hd, hb12, hQ12⟩ := hst12
  obtain ⟨u0, ⟨⟨T12, rfl, hT12⟩, -⟩, -⟩ := hQ12 (fun _ _ => 0) 0
  have hold := Held.out (OldB.tl W0 (.agg #[.slice a1 b.things.length c1, .slice a2 b.bs.length c2]) b _) ((hQ12 (fun _ _ => 0) 0).imp fun u h => h.2)
  refine ends_walk (D := DE fun _ => False) (B0 := 0) (fun _ _ _ h e he => (h e he).elim) hh12 (endL (w := w12) hT12) fun gs13 g13 w13 sl13 t13 hh13 hst13 => ?_
  obtain ⟨hret, d13, rfl⟩ := hst13
  have hle6 : W0.heap.size ≤ w6.heap.size := (old_real (w := w6) ho fun b hb => Nat.le_trans hle2 (hW b hb)).size
  exact fin hh13 hret (old_real (w := w12.at d13) hold fun b hb => (hW2 b hb).elim (fun h => Nat.le_trans hle2 (hW b h)) (fun h => Nat.le_trans (Nat.le_trans hle6 hle8) h))
end
end Go.Proofs.Ytafgabakhaipnaa
