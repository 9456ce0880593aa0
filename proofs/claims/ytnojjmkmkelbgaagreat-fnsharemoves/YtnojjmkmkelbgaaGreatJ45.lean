/- Safe by the program, beside leavers, where nobody moves: out of the loop, and home. -/
import Derived.Test.YtnojjmkmkelbgaaGreatJ42
namespace Go.Proofs.YtnojjmkmkelbgaaGreat
open Go.Conc Go.ConcN Go.RowKit Go.Conc.Lib Go.ConcR.Gen Go.ConcN.Gen
open Go.ConcR (KK wgBlock WgAt stA smA rd wr mk Payload DC0)


theorem evL_lowW {Shun : Loc → Prop} {a : Addr} {B0 : Nat} (hM : a.block < B0) (hs : ¬ Shun (.cell a)) : EvL Shun B0 ⟨.cell a, true, false⟩ := by
  refine ⟨fun x hx h => ?_, by simp, by simp, hM⟩
  simp only [Go.ConcR.ofEvent_cell, MemAct.touch?, Option.some.injEq] at hx
  subst hx
  exact absurd h hs
theorem cO_finish (T : Array Value) (d l : Nat) (v : Value) : (cO T d l).finish v = bO.at ⟨T, colO d⟩ (.endRangeFunc l :: .inBlock 0 :: [.code B7O]) := rfl
theorem leave_cells {P : Program} {main : Bool} {b : Frame} {a : Act} {todo : List Item} {c : Frame} {cs : List Frame} {w : World} {fn : Func} {q q2 : Tmp} {T T2 : TypeId} {r r2 : Addr} {x y : Value} (hn : b.kind = .normal) (hd : a.defers = []) (hf : P.funcs[b.fn]? = some fn) (hres : fn.results = #[.cell q T, .cell q2 T2])
    (ht : a.tmps.getD q undef = .pointer (some r)) (ht2 : a.tmps.getD q2 undef = .pointer (some r2)) (hL : (loadVar T r).run P w = .ok x w) (hE : ∀ es, (loadVar T r).events P w es = es.push ⟨.cell r, false, false⟩) (hL2 : (loadVar T2 r2).run P w = .ok y w) (hE2 : ∀ es, (loadVar T2 r2).events P w es = es.push ⟨.cell r2, false, false⟩) :
    ∃ es, stepG P main (G { b.at a todo with mode := .returning } (c :: cs)) w = .go (G (c.finish (.tuple #[x, y])) cs) w es ∧ ∀ e ∈ es, e = ⟨.cell r, false, false⟩ ∨ e = ⟨.cell r2, false, false⟩ := by
  have ht' : a.tmps[q]?.getD undef = .pointer (some r) := by simpa using ht
  have ht2' : a.tmps[q2]?.getD undef = .pointer (some r2) := by simpa using ht2
  have hr : (results fn a.tmps).runT P w #[] = (.ok (.tuple #[x, y]) w, #[⟨.cell r, false, false⟩, ⟨.cell r2, false, false⟩]) := by
    have ha : (asAddr (.pointer (some r))).run P w = .ok r w := by simp [go_sem]
    have ha2 : (asAddr (.pointer (some r2))).run P w = .ok r2 w := by simp [go_sem]
    have hb : ∀ es, (asAddr (.pointer (some r))).events P w es = es := fun es => by simp [go_sem]
    have hb2 : ∀ es, (asAddr (.pointer (some r2))).events P w es = es := fun es => by simp [go_sem]
    simp only [results, hres]
    simp [Sem.run_bind, Result.andThen, Result.evThen, ht', ht2', ha, ha2, hb, hb2, hL, hL2, hE, hE2]
  refine ⟨seen P b.fn #[⟨.cell r, false, false⟩, ⟨.cell r2, false, false⟩], ?_, fun e he => ?_⟩
  · simp only [G, stepG, unwind, doReturn, Frame.at, hn, hd, hf, hr, GStep.after]
    simp
  · have := mem_seen he
    simpa using this

theorem events_slS (P : Program) (w : World) (es : Array Event) (a : Addr) (m : Mode) (x : Option Addr) (n c : Nat) : (store a (.slice x n c) m).events P w es = storedEv P w es a (.slice x n c) m := events_store P w es a _ m rfl
theorem events_boS (P : Program) (w : World) (es : Array Event) (a : Addr) (m : Mode) (s : Bool) : (store a (.bool s) m).events P w es = storedEv P w es a (.bool s) m := events_store P w es a _ m rfl
theorem goes_ofP {s : GStep} {g : Goroutine} {w : World} {K : Goroutine → World → Array Event → Prop} {Q : Array Event → Prop} (h : ∃ es, s = .go g w es ∧ Q es) (hk : ∀ es, Q es → K g w es) : s.goes K := by
  obtain ⟨es, rfl, ho⟩ := h
  exact hk es ho
theorem putO_grown (W : World) (l : Nat) (o : Obj) : W.grownBy (W.putObj l o) (some l) := ⟨rfl, rfl, rfl, by rw [World.putObj_size]; exact Nat.le_refl _, fun i _ hi => World.putObj_heap_other fun e => hi (by rw [e])⟩

/-- The world behind it. -/
noncomputable def V8 (V : World) (TO : Array Value) (l dl p2 p3 : Nat) : World :=
  (((V.putObj l (.loop { lpO TO dl with state := .exhausted })).setCell ⟨p2, 0, none⟩ (.slice none 0 0)).setCell ⟨p3, 0, none⟩ (.bool false)).putObj dl (.deferred none)

section
variable {X : Nat → Prop} {Shun : Loc → Prop} {c : Frame} {cs : List Frame}
set_option maxRecDepth 100000 in
set_option maxHeartbeats 4000000 in
theorem outF (hX : ShIn Shun X) {V : World} {T TO : Array Value} {l dl p2 p3 : Nat} {x2 x3 : Value} (hT : T.size = 33) (hTO : TO.size = 18) (o2 : TO[2]? = some (.pointer (some ⟨p2, 0, none⟩))) (o3 : TO[3]? = some (.pointer (some ⟨p3, 0, none⟩)))
    (hl : V.heap[l]? = some (.loop (lpO TO dl))) (hdl : V.heap[dl]? = some (.deferred (some []))) (k2 : CB V p2 [x2]) (k3 : CB V p3 [x3]) (hne : p2 ≠ p3) (hx2 : ¬ X p2) (hx3 : ¬ X p3) :
    Go.Conc.Goes Tryz.prog true AtRel (DE (EvL Shun V.heap.size)) (fun g w' => g = G (c.finish (.tuple #[.slice none 0 0, .bool false])) cs ∧ AtRel (V8 V TO l dl p2 p3) w') 60
      (G ((bF.at ⟨T, []⟩ (.inRegion ops3F [1, 2, 3, 4, 5, 6] :: [.code R4F, .inBlock 1, .inLoop LbF, .inBlock 0])).finish (.tuple #[.int .i64 0, .bool false])) (cO TO dl l :: c :: cs)) V := by
  have hll : l < V.heap.size := (Array.getElem?_eq_some_iff.1 hl).1
  have hdd : dl < V.heap.size := (Array.getElem?_eq_some_iff.1 hdl).1
  have hns2 : ¬ Shun (.cell ⟨p2, 0, none⟩) := fun h => by obtain ⟨a, e, ha⟩ := hX _ h; cases e; exact hx2 ha
  have hns3 : ¬ Shun (.cell ⟨p3, 0, none⟩) := fun h => by obtain ⟨a, e, ha⟩ := hX _ h; cases e; exact hx3 ha
  obtain ⟨v0, v1, v2, v3, v4, v5, v6, v7, v8, v9, v10, v11, v12, v13, v14, v15, v16, v17, v18, v19, v20, v21, v22, v23, v24, v25, v26, v27, v28, v29, v30, v31, v32, rfl⟩ := array33 T hT
  simp only [LF, ops3F, R4F, LbF, bodyF, Tryz.f62, Option.getD_some]
  have rl : ∀ {V w w₁ : World}, AtRel V w → AtRel w w₁ → AtRel V w₁ := fun h r => atRel_trans _ _ _ h r
  have hF : AtRel V V := atRel_refl V
  rw [Frame.finish_at]
  walk_nrm
  u_op rl hF
  u_op rl hF
  u_op rl hF
  u_op rl hF
  u_op rl hF
  u_c stepG_region_end rl hF
  u_c stepG_seq rl hF
  u_c stepG_seq rl hF
  u_reg rl hF
  u_op rl hF
  u_op rl hF
  u_c stepG_region_end rl hF
  u_cond true rl hF
  u_c stepG_ret' rl hF
  u_in rl hF
  rw [stepG_leave (b := bF) rfl rfl Tryz.func62 (results_none rfl _ _ _) (events_results_none rfl _ _), cO_finish]
  simp only [goes_go]
  refine ⟨by u_nil, ?_⟩
  u_in rl hF
  obtain ⟨d, rfl⟩ := hF
  refine goes_of (over_step (w := V.at d) (l := l) hl (by simp [lpO]) rfl) fun es ho => ⟨fun e he => evL_obj hX hll (ho e he), ?_⟩
  clear ho es
  have hl2 : p2 ≠ l := fun e => by have := k2.1 0 _ rfl; subst e; simp [World.cell?, hl] at this
  have hl3 : p3 ≠ l := fun e => by have := k3.1 0 _ rfl; subst e; simp [World.cell?, hl] at this
  have hd2 : p2 ≠ dl := fun e => by have := k2.1 0 _ rfl; subst e; simp [World.cell?, hdl] at this
  have hd3 : p3 ≠ dl := fun e => by have := k3.1 0 _ rfl; subst e; simp [World.cell?, hdl] at this
  have hld : dl ≠ l := fun e => by subst e; rw [hl] at hdl; cases hdl
  have hp2 := k2.2.2
  have hp3 := k3.2.2
  have hg := putO_grown V l (.loop { lpO TO dl with state := .exhausted })
  have k2 := k2.kept hg (by simp; exact hl2)
  have k3 := k3.kept hg (by simp; exact hl3)
  have hdl6 : (V.putObj l (.loop { lpO TO dl with state := .exhausted })).heap[dl]? = some (.deferred (some [])) := (World.putObj_heap_other hld).trans hdl
  have hV8 : V8 V TO l dl p2 p3 = (((V.putObj l (.loop { lpO TO dl with state := .exhausted })).setCell ⟨p2, 0, none⟩ (.slice none 0 0)).setCell ⟨p3, 0, none⟩ (.bool false)).putObj dl (.deferred none) := rfl
  rw [hV8]
  clear hV8
  change Go.Conc.Goes _ _ _ _ _ _ _ (World.at (V.putObj l (.loop { lpO TO dl with state := .exhausted })) d)
  generalize V.putObj l (.loop { lpO TO dl with state := .exhausted }) = W6 at *
  have hF : AtRel W6 (W6.at d) := ⟨d, rfl⟩
  clear hg hl hdl
  obtain ⟨u0, u1, u2, u3, u4, u5, u6, u7, u8, u9, u10, u11, u12, u13, u14, u15, u16, u17, rfl⟩ := array18 TO hTO
  simp only [List.getElem?_toArray, List.getElem?_cons_succ, List.getElem?_cons_zero, Option.some.injEq] at o2 o3
  subst o2 o3
  have c2 := k2.1 0 _ rfl
  have f2 := (k2.2.1 0 (by simp)).2
  have k3' := k3.other (q := p2) (j := 0) (u := .slice none 0 0) (fun e => hne e.symm)
  have c3 := k3'.1 0 _ rfl
  have f3 := (k3'.2.1 0 (by simp)).2
  simp only [B7O, bodyO, Tryz.f23, Option.getD_some]
  u_c stepG_inBlock rl hF
  u_c stepG_seq rl hF
  u_reg rl hF
  u_in rl hF
  obtain ⟨d1, rfl⟩ := hF
  refine goes_oper_k rfl rfl (by k_ne) (fun K hK => ?_)
  have hc : (W6.at d1).cell? ⟨p2, 0, none⟩ = some x2 := c2
  have hf : (W6.at d1).frozen? ⟨p2, 0, none⟩ = false := f2
  go_simp
  refine hK _ _ ⟨(fun e he => by have hm := mem_listed he; simp [go_sem, events_slS, *] at hm; subst hm; exact evL_lowW hp2 hns2), ?_⟩
  clear hK K hc hf
  have hF : AtRel (W6.setCell ⟨p2, 0, none⟩ (.slice none 0 0)) ((W6.at d1).setCell ⟨p2, 0, none⟩ (.slice none 0 0)) := ⟨d1, rfl⟩
  try walk_nrm
  u_in rl hF
  obtain ⟨d2, rfl⟩ := hF
  refine goes_oper_k rfl rfl (by k_ne) (fun K hK => ?_)
  have hc : (World.at (W6.setCell ⟨p2, 0, none⟩ (.slice none 0 0)) d2).cell? ⟨p3, 0, none⟩ = some x3 := c3
  have hf : (World.at (W6.setCell ⟨p2, 0, none⟩ (.slice none 0 0)) d2).frozen? ⟨p3, 0, none⟩ = false := f3
  go_simp
  refine hK _ _ ⟨(fun e he => by have hm := mem_listed he; simp [go_sem, events_boS, *] at hm; subst hm; exact evL_lowW hp3 hns3), ?_⟩
  clear hK K hc hf
  have hF : AtRel ((W6.setCell ⟨p2, 0, none⟩ (.slice none 0 0)).setCell ⟨p3, 0, none⟩ (.bool false)) ((World.at (W6.setCell ⟨p2, 0, none⟩ (.slice none 0 0)) d2).setCell ⟨p3, 0, none⟩ (.bool false)) := ⟨d2, rfl⟩
  have k2' := (k2.set (j := 0) (u := .slice none 0 0) (by simp)).other (q := p3) (j := 0) (u := .bool false) hne
  have k3'' := k3'.set (j := 0) (u := .bool false) (by simp)
  have hdl7 : ((W6.setCell ⟨p2, 0, none⟩ (.slice none 0 0)).setCell ⟨p3, 0, none⟩ (.bool false)).heap[dl]? = some (.deferred (some [])) := ((aside_setCell _ _ _).block dl fun e => hd3 e.symm).trans (((aside_setCell _ _ _).block dl fun e => hd2 e.symm).trans hdl6)
  generalize (W6.setCell ⟨p2, 0, none⟩ (.slice none 0 0)).setCell ⟨p3, 0, none⟩ (.bool false) = W7 at *
  try walk_nrm
  u_c stepG_region_end rl hF
  u_c stepG_ret' rl hF
  u_in rl hF
  obtain ⟨d3, rfl⟩ := hF
  refine goes_of (taken_step (w := W7.at d3) (l := dl) hdl7 rfl) fun es ho => ⟨fun e he => evL_obj hX hdd (ho e he), ?_⟩
  clear ho es
  have hF : AtRel (W7.putObj dl (.deferred none)) ((W7.at d3).putObj dl (.deferred none)) := ⟨d3, rfl⟩
  have hg := putO_grown W7 dl (.deferred none)
  have k2 := k2'.kept hg (by simp; exact hd2)
  have k3 := k3''.kept hg (by simp; exact hd3)
  have c2 := k2.1 0 _ rfl
  have c3 := k3.1 0 _ rfl
  u_in rl hF
  obtain ⟨d4, rfl⟩ := hF
  have c2' : (World.at (W7.putObj dl (.deferred none)) d4).cell? ⟨p2, 0, none⟩ = some (.slice none 0 0) := c2
  have c3' : (World.at (W7.putObj dl (.deferred none)) d4).cell? ⟨p3, 0, none⟩ = some (.bool false) := c3
  refine goes_ofP (leave_cells (b := bO) (w := World.at (W7.putObj dl (.deferred none)) d4) (r := ⟨p2, 0, none⟩) (r2 := ⟨p3, 0, none⟩) (x := .slice none 0 0) (y := .bool false) rfl rfl Tryz.func23 Tryz.results23 rfl rfl (by simp [loadVar, isAgg, go_sem, c2']) (fun es => by simp [loadVar, isAgg, go_sem, c2']; rfl) (by simp [loadVar, isAgg, go_sem, c3']) (fun es => by simp [loadVar, isAgg, go_sem, c3']; rfl)) fun es ho => ⟨fun e he => ?_, ?_⟩
  · rcases ho e he with rfl | rfl
    · exact evL_low hp2 hns2
    · exact evL_low hp3 hns3
  exact Go.Conc.Goes.stop fun w₁ r => ⟨rfl, rl (V := W7.putObj dl (.deferred none)) ⟨d4, rfl⟩ r⟩
end
end Go.Proofs.YtnojjmkmkelbgaaGreat

/- Safe by the program, beside leavers, where nobody moves, whole. -/
namespace Go.Proofs.YtnojjmkmkelbgaaGreat
open Go.Conc Go.ConcN Go.RowKit Go.Conc.Lib Go.ConcR.Gen Go.ConcN.Gen
open Go.ConcR (KK wgBlock WgAt stA smA rd wr mk Payload DC0)

theorem array11 (T : Array Value) (h : T.size = 11) : ∃ v0 v1 v2 v3 v4 v5 v6 v7 v8 v9 v10 : Value, T = #[v0, v1, v2, v3, v4, v5, v6, v7, v8, v9, v10] := by
  obtain ⟨l⟩ := T
  simp only [List.size_toArray] at h
  match l, h with
  | [v0, v1, v2, v3, v4, v5, v6, v7, v8, v9, v10], _ => exact ⟨_, _, _, _, _, _, _, _, _, _, _, rfl⟩

theorem base_of {X : Nat → Prop} {W w : World} (hb : Base X W) (hsz : W.heap.size ≤ w.heap.size) (hX : ∀ b, X b → w.heap[b]? = W.heap[b]?) (hp : NV w) : Base X w :=
  ⟨fun b h => Nat.lt_of_lt_of_le (hb.old b h) hsz, fun b h => by rw [hX b h]; exact hb.cov b h, hp⟩
theorem nv_put {w : World} (h : NV w) {l : Nat} {o : Obj} (ho : ∀ c t, o ≠ .pending c t) : NV (w.putObj l o) := by
  intro b c t hx
  by_cases e : b = l
  · subst e
    by_cases hl : b < w.heap.size
    · rw [World.putObj_heap_same hl] at hx
      exact absurd (Option.some.inj hx) (ho c t)
    · rw [Array.getElem?_eq_none (by rw [World.putObj_size]; omega)] at hx; cases hx
  · rw [World.putObj_heap_other e] at hx
    exact h b c t hx
theorem nv_alloc {w : World} (h : NV w) {o : Obj} (ho : ∀ c t, o ≠ .pending c t) : NV (w.alloc o) := by
  intro b c t hx
  rcases Nat.lt_trichotomy b w.heap.size with h1 | rfl | h1
  · rw [Below.heap_alloc w o b h1] at hx; exact h b c t hx
  · rw [World.alloc_heap_new] at hx; exact absurd (Option.some.inj hx) (ho c t)
  · rw [Array.getElem?_eq_none (by rw [World.size_alloc]; omega)] at hx; cases hx
theorem pz_block {X : Nat → Prop} {V w : World} {τ τ' : Nat → Question → Nat} {d d' B k : Nat} (h : Below B (pzT X V τ d) (pzT X w τ' d')) (hk : k < B) (hx : ¬ X k) : w.heap[k]? = V.heap[k]? := by
  have h1 : (pz X w).heap[k]? = (pz X V).heap[k]? := h.block k hk
  rw [pz_get, pz_get] at h1
  have e : ∀ o : Option Obj, o.map (pzObj X k) = o := fun o => by cases o <;> simp [pzObj, hx]
  rwa [e, e] at h1
theorem V1_size (V : World) (T : Array Value) : (V1 V T).heap.size = V.heap.size + 2 := by simp [V1, World.size_alloc]
theorem V1_low (V : World) (T : Array Value) (b : Nat) (h : b < V.heap.size) : (V1 V T).heap[b]? = V.heap[b]? := by
  rw [V1, Below.heap_alloc _ _ _ (by rw [World.size_alloc]; omega), Below.heap_alloc _ _ _ h]
theorem V1_loop (V : World) (T : Array Value) : (V1 V T).heap[V.heap.size + 1]? = some (.loop (lpO T V.heap.size)) := by
  have := World.alloc_heap_new (V.alloc (.deferred (some []))) (.loop (lpO T V.heap.size))
  rwa [World.size_alloc] at this
theorem V1_def (V : World) (T : Array Value) : (V1 V T).heap[V.heap.size]? = some (.deferred (some [])) := by
  rw [V1, Below.heap_alloc _ _ _ (by rw [World.size_alloc]; omega)]
  exact World.alloc_heap_new V _
theorem base_V1 {X : Nat → Prop} {V : World} (h : Base X V) (T : Array Value) : Base X (V1 V T) :=
  base_of h (by rw [V1_size]; omega) (fun b hb => V1_low V T b (h.old b hb)) (nv_alloc (nv_alloc h.pend (by intro c t e; cases e)) (by intro c t e; cases e))
theorem V8_size (V : World) (TO : Array Value) (l dl p2 p3 : Nat) : (V8 V TO l dl p2 p3).heap.size = V.heap.size := by
  rw [V8, World.putObj_size, (aside_setCell _ _ _).size, (aside_setCell _ _ _).size, World.putObj_size]
theorem V8_other {V : World} {TO : Array Value} {l dl p2 p3 b : Nat} (h1 : b ≠ l) (h2 : b ≠ dl) (h3 : b ≠ p2) (h4 : b ≠ p3) : (V8 V TO l dl p2 p3).heap[b]? = V.heap[b]? := by
  rw [V8, World.putObj_heap_other h2, (aside_setCell _ _ _).block b h4, (aside_setCell _ _ _).block b h3, World.putObj_heap_other h1]
theorem base_V8 {X : Nat → Prop} {V : World} (h : Base X V) {TO : Array Value} {l dl p2 p3 : Nat} (h1 : ¬ X l) (h2 : ¬ X dl) (h3 : ¬ X p2) (h4 : ¬ X p3) : Base X (V8 V TO l dl p2 p3) :=
  base_of h (by rw [V8_size]; exact Nat.le_refl _) (fun b hb => V8_other (fun e => h1 (e ▸ hb)) (fun e => h2 (e ▸ hb)) (fun e => h3 (e ▸ hb)) (fun e => h4 (e ▸ hb)))
    (nv_put (nv_set (nv_set (nv_put h.pend (by intro c t e; cases e)) _ _) _ _) (by intro c t e; cases e))
theorem V8_os (V : World) (TO : Array Value) (l dl p2 p3 : Nat) : (V8 V TO l dl p2 p3).os = V.os ∧ (V8 V TO l dl p2 p3).output = V.output := ⟨rfl, rfl⟩

section
variable {X : Nat → Prop} {Shun : Loc → Prop} {c : Frame} {cs : List Frame}
set_option maxRecDepth 100000 in
set_option maxHeartbeats 2000000 in
theorem intoA1 (hX : ShIn Shun X) {T : Array Value} {w : World} {bx : Nat} {s1 s2 : Value} (hT : T.size = 11) (t1 : T[1]? = some (.pointer (some ⟨bx, 0, none⟩))) {τ : Nat → Question → Nat} {d : Nat} (hc0 : (pzT X w τ d).cell? ⟨bx, 0, none⟩ = some s1) (hc1 : (pzT X w τ d).cell? ⟨bx, 1, none⟩ = some s2) :
    Go.Conc.Goes Tryz.prog true AtRel (DE (EvL Shun w.heap.size)) (fun g w' => (∃ T', g = G (Frame.enter Tryz.prog 23 #[.agg #[s1, s2]] .normal) (bA.at ⟨T', []⟩ (.inRegion ops1A [1, 2, 3, 4, 5, 6] :: [.code B2A]) :: c :: cs) ∧ T'.size = 11) ∧ AtRel w w') 20 (G (bA.at ⟨T, []⟩ [.code B1A]) (c :: cs)) w := by
  obtain ⟨hc0, hx⟩ := pz_cell hc0
  obtain ⟨hc1, -⟩ := pz_cell hc1
  have hlt := World.block_lt_of_cell? w _ hc0
  have hns : ∀ o, ¬ Shun (.cell ⟨bx, o, none⟩) := fun o h => by obtain ⟨a, e, ha⟩ := hX _ h; cases e; exact hx ha
  obtain ⟨v0, v1, v2, v3, v4, v5, v6, v7, v8, v9, v10, rfl⟩ := array11 T hT
  simp only [List.getElem?_toArray, List.getElem?_cons_succ, List.getElem?_cons_zero, Option.some.injEq] at t1
  subst t1
  simp only [B1A, B2A, ops1A, bodyA, Tryz.f10, Option.getD_some]
  have rl : ∀ {V w w₁ : World}, AtRel V w → AtRel w w₁ → AtRel V w₁ := fun h r => atRel_trans _ _ _ h r
  have hF : AtRel w w := atRel_refl w
  u_c stepG_seq rl hF
  u_reg rl hF
  u_in rl hF
  refine goes_oper_k rfl rfl (by k_ne) (fun K hK => ?_)
  have hc' : (‹World›).cell? ⟨bx, 0, none⟩ = some s1 := (by obtain ⟨d, rfl⟩ := hF; exact hc0)
  have hc'' : (‹World›).cell? ⟨bx, 1, none⟩ = some s2 := (by obtain ⟨d, rfl⟩ := hF; exact hc1)
  go_simp
  refine hK _ _ ⟨(fun e he => by have hm := mem_listed he; simp [go_sem, *] at hm; rcases hm with rfl | rfl <;> exact evL_low hlt (hns _)), ?_⟩
  clear hK K hc' hc''
  try walk_nrm
  u_in rl hF
  refine goes_callE #[.agg #[s1, s2]] rfl rfl (by k_ne) rfl Tryz.func23 (by kernel_rfl) rfl (by simp [Act.eval]) ⟨fun e he => by simp at he, ?_⟩
  exact Go.Conc.Goes.stop fun w₁ r => ⟨⟨_, rfl, rfl⟩, rl hF r⟩

set_option maxRecDepth 100000 in
set_option maxHeartbeats 2000000 in
theorem outA {T : Array Value} {w : World} (hT : T.size = 11) :
    Go.Conc.Goes Tryz.prog true AtRel (DE fun _ => False) (fun g w' => g = G (c.finish (.bool false)) cs ∧ AtRel w w') 30 (G ((bA.at ⟨T, []⟩ (.inRegion ops1A [1, 2, 3, 4, 5, 6] :: [.code B2A])).finish (.tuple #[.slice none 0 0, .bool false])) (c :: cs)) w := by
  obtain ⟨v0, v1, v2, v3, v4, v5, v6, v7, v8, v9, v10, rfl⟩ := array11 T hT
  rw [Frame.finish_at]
  simp only [B1A, B2A, ops1A, bodyA, Tryz.f10, Option.getD_some]
  have rl : ∀ {V w w₁ : World}, AtRel V w → AtRel w w₁ → AtRel V w₁ := fun h r => atRel_trans _ _ _ h r
  have hF : AtRel w w := atRel_refl w
  walk_nrm
  u_op rl hF
  u_op rl hF
  u_op rl hF
  u_op rl hF
  u_op rl hF
  u_c stepG_region_end rl hF
  u_c stepG_seq rl hF
  u_reg rl hF
  u_op rl hF
  u_op rl hF
  u_c stepG_region_end rl hF
  u_c stepG_ret' rl hF
  u_in rl hF
  rw [stepG_leave (b := bA) rfl rfl Tryz.func10 (results_tmp rfl _ _ _) (events_results_tmp rfl _ _)]
  simp only [goes_go]
  refine ⟨by u_nil, ?_⟩
  exact Go.Conc.Goes.stop fun w₁ r => ⟨rfl, rl hF r⟩
end
end Go.Proofs.YtnojjmkmkelbgaaGreat

/- Safe by the program, beside leavers, where nobody moves: by whatever road. -/
namespace Go.Proofs.YtnojjmkmkelbgaaGreat
open Go.Conc Go.ConcN Go.RowKit Go.Conc.Lib Go.ConcR.Gen Go.ConcN.Gen
open Go.ConcR (KK wgBlock WgAt stA smA rd wr mk Payload DC0)

theorem atA_tl (b : Bk) (a : Act) : Tapeless (AtA b (fun _ => True) a) := fun _ _ _ h => h
theorem atO_tl (b : Bk) (lo : Nat) (a : Act) : Tapeless (AtO b lo (fun _ => True) a) := fun _ _ _ h => h
theorem atF_tl (b : Bk) (y : Value) (a : Act) : Tapeless (AtF b y (fun _ => True) a) := fun _ _ _ h => h
theorem bodyA1 : bodyA = joinC [r0A] B1A := by simp only [joinC, r0A, B1A, bodyA, Tryz.f10, Option.getD_some]
theorem bodyO1 : bodyO = joinC [r0O, c1O] (.seq (.seq r3O blkO) B7O) := by simp only [joinC, r0O, c1O, r3O, blkO, B7O, bodyO, Tryz.f23, Option.getD_some]
theorem bodyF1 : bodyF = joinC [r0F, r1F] LF := by simp only [joinC, r0F, r1F, LF, bodyF, Tryz.f62, Option.getD_some]
theorem okA : ∀ r ∈ [r0A, r0O, c1O, r3O, r0F, r1F], codeOk Tryz.prog (fun g => fsW.contains g) r = true := by
  intro r hr
  simp only [List.mem_cons, List.not_mem_nil, or_false] at hr
  rcases hr with rfl | rfl | rfl | rfl | rfl | rfl <;> kernel_rfl
theorem frA : FrB Tryz.prog bA := ⟨rfl, _, Tryz.func10⟩
theorem frO : FrB Tryz.prog bO := ⟨rfl, _, Tryz.func23⟩
theorem frF : FrB Tryz.prog bF := ⟨rfl, _, Tryz.func62⟩

theorem cb_blk {w w' : World} {b : Nat} {cs : List Value} (h : CB w b cs) (hb : w'.heap[b]? = w.heap[b]?) (hz : w.heap.size ≤ w'.heap.size) : CB w' b cs := by
  refine ⟨fun j v hv => ?_, fun j hj => ?_, Nat.lt_of_lt_of_le h.2.2 hz⟩
  · rw [World.cell?_of_block (w := w) (a := ⟨b, 0 + j, none⟩) hb]; exact h.1 j v hv
  · rw [World.cell?_of_block (w := w) (a := ⟨b, 0 + j, none⟩) hb, World.frozen?_of_block (w := w) (a := ⟨b, 0 + j, none⟩) hb]; exact h.2.1 j hj
theorem cb_real {X : Nat → Prop} {w : World} {τ : Nat → Question → Nat} {d b : Nat} {cs : List Value} (h : CB (pzT X w τ d) b cs) (hx : ¬ X b) : CB w b cs := by
  refine cb_blk (w := pzT X w τ d) h ?_ (by rw [pz_size]; exact Nat.le_refl _)
  show w.heap[b]? = (pz X w).heap[b]?
  rw [pz_get]
  cases w.heap[b]? <;> simp [pzObj, hx]

theorem safe0_g {X : Nat → Prop} {Shun : Loc → Prop} {W : World} {b : Bk} {bv : Value} (hX : ShIn Shun X) (hbW : Base X W) (hB : ∀ τ d, BkV (pzT X W τ d) bv b) (hbk : bookB b = true) (hn : 0 < b.bs.length) (hm : (movesS b).length = 0) :
    GCalls Tryz.prog 10 #[bv] X Shun W fun v _ => v = .bool false := by
  intro Post c cs gs sl t hh k
  have hok : BookOk b := pB_iff.1 hbk
  rw [enterA, bodyA1] at hh
  have hR : ∀ (V : World) (τ : Nat → Question → Nat) (d : Nat), Hid (∀ u, Below (pzT X V τ d).heap.size (pzT X V τ d) u → ∃ τ d, True ∧ Below V.heap.size (pzT X V τ d) u) := fun V τ d u hu => ⟨τ, d, trivial, by rw [pz_size] at hu; exact hu⟩
  -- ShareSafe's own frame
  refine ends_run hX hh (nest_run setW frA B1A [] (c :: cs) [r0A] (fun r hr => okA r (by simp at hr; simp [hr])) rfl hbW (fun τ d => held_of hbW (fun τ d => nestSf b bv _ (hB τ d) (hR W τ d)) τ d)) fun gs1 g1 w1 sl1 t1 hh1 hst => ?_
  obtain ⟨a, rfl, hd, hb1, hQ⟩ := hst
  have hbel1 : ∀ τ d, Below W.heap.size (pzT X W τ d) (pzT X w1 τ d) := fun τ d => (below_held (Q := fun _ => True) (fun _ _ _ h => h) ((hQ τ d).imp fun u h => let ⟨_, _, _, _, _, _, _, _, _, _, _, h⟩ := h; h)).2
  obtain ⟨T1, bx1, a1, c1, a2, c2, rfl, hT1, s1, kA1, hk1, -⟩ := Held.out (atA_tl b a) ((hQ (fun _ _ => 0) 0).imp fun u h => let ⟨T, bx, a1, c1, a2, c2, h1, h2, h3, h4, h5, _⟩ := h; ⟨T, bx, a1, c1, a2, c2, h1, h2, h3, h4, h5, trivial⟩)
  have hsz1 : W.heap.size ≤ w1.heap.size := by have := (hbel1 (fun _ _ => 0) 0).size; rwa [pz_size, pz_size] at this
  clear hQ hd
  refine ends_walk (D := DE (EvL Shun w1.heap.size)) (B0 := w1.heap.size) (fun _ _ _ h => h) hh1 (intoA1 hX hT1 s1 (kA1.1 0 _ rfl) (kA1.1 1 _ rfl)) fun gs2 g2 w2 sl2 t2 hh2 hst2 => ?_
  obtain ⟨⟨T2, rfl, hT2⟩, d2, rfl⟩ := hst2
  -- ShareOrder's, up to the loop
  rw [enterO, bodyO1] at hh2
  refine ends_run hX hh2 (nest_in setW frO r3O blkO B7O (okA _ (by simp)) [] _ [r0O, c1O] (fun r hr => okA r (by simp at hr; rcases hr with rfl | rfl <;> simp)) rfl (hb1.at d2) (fun τ d => held_of (hb1.at d2) (fun τ d => nestO b _ _ (show BkV (pzT X (w1.at d2) τ d) _ b from hk1) hbk (lo := w1.heap.size) (by rw [pz_size]; exact Nat.le_refl _) (hR (w1.at d2) τ d)) τ d)) fun gs3 g3 w3 sl3 t3 hh3 hst3 => ?_
  obtain ⟨a, rfl, hd, hb3, hQ⟩ := hst3
  have hbel3 : ∀ τ d, Below w1.heap.size (pzT X w1 τ d) (pzT X w3 τ d) := fun τ d => (below_held (Q := fun _ => True) (fun _ _ _ h => h) ((hQ τ d).imp fun u h => let ⟨_, _, _, _, _, _, _, _, _, _, _, _, _, _, _, _, _, _, _, _, _, _, _, _, _, _, _, h⟩ := h; h)).2
  obtain ⟨TO, bx, p2, p3, q, a1, c1, a2, c2, x2, x3, rfl, hTO, o1, o2, o3, o9, kB, k2, k3, kQ, hk3, hne, hb2, hb3', hl2, hl3, -⟩ := Held.out (atO_tl b _ a) ((hQ (fun _ _ => 0) 0).imp fun u h => let ⟨T, bx, p2, p3, q, a1, c1, a2, c2, x2, x3, h1, h2, h3, h4, h5, h6, h7, h8, h9, h10, h11, h12, h13, h14, h15, h16, _⟩ := h; ⟨T, bx, p2, p3, q, a1, c1, a2, c2, x2, x3, h1, h2, h3, h4, h5, h6, h7, h8, h9, h10, h11, h12, h13, h14, h15, h16, trivial⟩)
  clear hQ hd
  have hsz3 : w1.heap.size ≤ w3.heap.size := by have := (hbel3 (fun _ _ => 0) 0).size; rwa [pz_size, pz_size] at this
  have hXs : ∀ b, X b → b < w3.heap.size := hb3.old
  have hx2 := (pz_cell (k2.1 0 _ rfl)).2
  have hx3 := (pz_cell (k3.1 0 _ rfl)).2
  have hxb := (pz_cell (kB.1 0 _ rfl)).2
  have hxl : ¬ X (w3.heap.size + 1) := fun h => by have := hXs _ h; omega
  have hxd : ¬ X w3.heap.size := fun h => by have := hXs _ h; omega
  -- into the loop
  refine ends_walk (D := DE fun _ => False) (B0 := 0) (fun _ _ _ h e he => (h e he).elim) hh3 (intoR (V := w3) o9) fun gs4 g4 w4 sl4 t4 hh4 hst4 => ?_
  obtain ⟨rfl, d4, rfl⟩ := hst4
  have hb4 := base_V1 hb3 TO
  have hbel4 : ∀ τ d, Below w3.heap.size (pzT X w3 τ d) (pzT X (V1 w3 TO) τ d) := fun τ d => below_pz (W := w3) (w' := V1 w3 TO) rfl rfl (by rw [V1_size]; omega) (fun b hb => V1_low w3 TO b hb) (fun _ _ => Iff.rfl) τ d
  have up4 : ∀ τ d, Below (pzT X w3 τ d).heap.size (pzT X w3 τ d) (pzT X (V1 w3 TO) τ d) := fun τ d => by rw [pz_size]; exact hbel4 τ d
  have kQ4 : ∀ τ d, CB (pzT X (V1 w3 TO) τ d) q [.slice a1 b.things.length c1, .slice a2 b.bs.length c2] := fun τ d => CB.up (w := pzT X w3 τ d) kQ (up4 τ d) kQ.2.2
  have hk4 : ∀ τ d, BkV (pzT X (V1 w3 TO) τ d) (.agg #[.slice a1 b.things.length c1, .slice a2 b.bs.length c2]) b := fun τ d => BkV.up (w := pzT X w3 τ d) hk3 (up4 τ d)
  rw [enterF, bodyF1] at hh4
  refine ends_run hX hh4 (nest_run setW frF LF [] _ [r0F, r1F] (fun r hr => okA r (by simp at hr; rcases hr with rfl | rfl <;> simp)) rfl (hb4.at d4) (fun τ d => held_of (hb4.at d4) (fun τ d => nestF b _ a1 a2 c1 c2 q _ (show CB (pzT X ((V1 w3 TO).at d4) τ d) _ _ from kQ4 τ d) (hk4 τ d) hok (hR ((V1 w3 TO).at d4) τ d)) τ d)) fun gs5 g5 w5 sl5 t5 hh5 hst5 => ?_
  obtain ⟨a, rfl, hd, hb5, hQ⟩ := hst5
  have hbel5 : ∀ τ d, Below (V1 w3 TO).heap.size (pzT X (V1 w3 TO) τ d) (pzT X w5 τ d) := fun τ d => (below_held (Q := fun _ => True) (fun _ _ _ h => h) ((hQ τ d).imp fun u h => let ⟨_, _, _, _, _, _, _, _, h⟩ := h; h)).2
  obtain ⟨T5, tb, rfl, hT5, f0, f3, f4, hTab, -⟩ := Held.out (atF_tl b _ a) ((hQ (fun _ _ => 0) 0).imp fun u h => let ⟨T, tb, h1, h2, h3, h4, h5, h6, _⟩ := h; ⟨T, tb, h1, h2, h3, h4, h5, h6, trivial⟩)
  clear hQ hd
  have hz1 := V1_size w3 TO
  have hsz5 : (V1 w3 TO).heap.size ≤ w5.heap.size := by have := (hbel5 (fun _ _ => 0) 0).size; rwa [pz_size, pz_size] at this
  have hl5 : w5.heap[w3.heap.size + 1]? = some (.loop (lpO TO w3.heap.size)) := (pz_block (hbel5 (fun _ _ => 0) 0) (by omega) hxl).trans (V1_loop w3 TO)
  have hd5 : w5.heap[w3.heap.size]? = some (.deferred (some [])) := (pz_block (hbel5 (fun _ _ => 0) 0) (by omega) hxd).trans (V1_def w3 TO)
  have up5 : ∀ τ d, Below (pzT X w3 τ d).heap.size (pzT X w3 τ d) (pzT X w5 τ d) := fun τ d => by rw [pz_size]; exact (hbel4 τ d).trans ((hbel5 τ d).mono (by omega))
  have kB5 := CB.up (w := pzT X w3 (fun _ _ => 0) 0) kB (up5 _ _) kB.2.2
  -- a round, and up to first
  refine ends_walk (D := DE (EvL Shun w5.heap.size)) (B0 := w5.heap.size) (fun _ _ _ h => h) hh5 (intoFirst (V := w5) hX hn hT5 hTO f0 f3 f4 o1 hl5 (pz_cell (kB5.1 1 _ rfl)).1 hxb) fun gs6 g6 w6 sl6 t6 hh6 hst6 => ?_
  obtain ⟨⟨T6, rfl, hT6⟩, d6, rfl⟩ := hst6
  refine ends_run hX hh6 (call_back setW (f := 63) (by kernel_rfl) (hb5.at d6) (R := fun w v u => v = .tuple #[.int .i64 0, .bool false] ∧ Below w.heap.size w u) (fun τ d => (first_any tb b (ts0 b.bs b.bs.length) [] (pzT X (w5.at d6) τ d) hTab hok (by rw [ts0_fst, List.take_length]) (gone_none _ _)).mono ?_) _ _) fun gs7 g7 w7 sl7 t7 hh7 hst7 => ?_
  · rintro e u' ⟨⟨kk, rfl, hnx⟩ | ⟨rfl, -⟩, hb⟩
    · exfalso
      rcases hnx with ⟨h, -⟩ | ⟨k', -, hk', hg, -⟩
      · omega
      · exact moves_none hbk hm k' hk' hg
    · exact ⟨_, rfl, rfl, hb⟩
  obtain ⟨v7, rfl, hb7, hR7⟩ := hst7
  have hR7' : ∀ τ d, v7 = .tuple #[.int .i64 0, .bool false] ∧ Below w5.heap.size (pzT X w5 τ d) (pzT X w7 τ d) := fun τ d => below_held (Q := fun _ => v7 = .tuple #[.int .i64 0, .bool false]) (fun _ _ _ h => h) ((hR7 τ d).imp fun u h => let ⟨τ, d, h1, h2⟩ := h; ⟨τ, d, h1, by rw [pz_size] at h2; exact h2⟩)
  obtain rfl := (hR7' (fun _ _ => 0) 0).1
  have hsz7 : w5.heap.size ≤ w7.heap.size := by have := (hR7' (fun _ _ => 0) 0).2.size; rwa [pz_size, pz_size] at this
  have hl7 : w7.heap[w3.heap.size + 1]? = some (.loop (lpO TO w3.heap.size)) := (pz_block (hR7' (fun _ _ => 0) 0).2 (by omega) hxl).trans hl5
  have hd7 : w7.heap[w3.heap.size]? = some (.deferred (some [])) := (pz_block (hR7' (fun _ _ => 0) 0).2 (by omega) hxd).trans hd5
  have up7 : ∀ τ d, Below (pzT X w3 τ d).heap.size (pzT X w3 τ d) (pzT X w7 τ d) := fun τ d => (up5 τ d).trans ((hR7' τ d).2.mono (by rw [pz_size]; omega))
  have bk : ∀ k, k < w3.heap.size → ¬ X k → w7.heap[k]? = w3.heap[k]? := fun k hk hx => pz_block (up7 (fun _ _ => 0) 0) (by rw [pz_size]; exact hk) hx
  have k27 : CB w7 p2 [x2] := cb_real (CB.up (w := pzT X w3 (fun _ _ => 0) 0) k2 (up7 _ _) k2.2.2) hx2
  have k37 : CB w7 p3 [x3] := cb_real (CB.up (w := pzT X w3 (fun _ _ => 0) 0) k3 (up7 _ _) k3.2.2) hx3
  -- out of the loop, and home
  refine ends_walk (D := DE (EvL Shun w7.heap.size)) (B0 := w7.heap.size) (fun _ _ _ h => h) hh7 (outF (V := w7) hX hT6 hTO o2 o3 hl7 hd7 k27 k37 hne hx2 hx3) fun gs8 g8 w8 sl8 t8 hh8 hst8 => ?_
  obtain ⟨rfl, d8, rfl⟩ := hst8
  refine ends_walk (D := DE fun _ => False) (B0 := 0) (fun _ _ _ h e he => (h e he).elim) hh8 (outA (w := (V8 w7 TO (w3.heap.size + 1) w3.heap.size p2 p3).at d8) hT2) fun gs9 g9 w9 sl9 t9 hh9 hst9 => ?_
  obtain ⟨rfl, d9, rfl⟩ := hst9
  have hb8 : Base X (V8 w7 TO (w3.heap.size + 1) w3.heap.size p2 p3) := base_V8 hb7 hxl hxd hx2 hx3
  refine k X Shun gs9 _ sl9 t9 _ hX (fun b hb => .inl hb) hh9 ((hb8.at d8).at d9) fun τ d => ⟨rfl, ?_⟩
  have e8 : Below W.heap.size (pzT X w7 τ d) (pzT X (V8 w7 TO (w3.heap.size + 1) w3.heap.size p2 p3) τ d) := below_pz (W := w7) (w' := V8 w7 TO (w3.heap.size + 1) w3.heap.size p2 p3) rfl rfl (by rw [V8_size]; exact Nat.le_refl _) (fun b hb => V8_other (by omega) (by omega) (by omega) (by omega)) (fun _ _ => Iff.rfl) τ d
  have e7 : Below W.heap.size (pzT X w3 τ d) (pzT X w7 τ d) := (up7 τ d).mono (by rw [pz_size]; omega)
  exact (hbel1 τ d).trans (((hbel3 τ d).mono hsz1).trans (e7.trans e8))
end Go.Proofs.YtnojjmkmkelbgaaGreat
