/- The law of promises 14 and 15, 10: its entry, its returns, and what stands still. -/
import Derived.Test.YtnojjmkmkelbgaaGreatJ49
namespace Go.Proofs.YtnojjmkmkelbgaaGreat
open Go.Conc Go.ConcN Go.RowKit Go.Conc.Lib Go.ConcR.Gen Go.ConcN.Gen
open Go.ConcR (KK wgBlock WgAt stA smA rd wr mk Payload DC0)

theorem enterL (v0 v1 : Value) : Frame.enter Tryz.prog 3 #[v0, v1] .normal = bL.at ⟨slL v0 v1, []⟩ [.code (tL 0)] := by
  simp [Frame.enter, Frame.at, Tryz.func3, bL, base, slL, tL, tailC, bodyLS, Tryz.f3]
theorem tl0 : ∃ o, tL 0 = .seq (.region 0 #[o] false) (tL 1) ∧ o.op = .assign (.const (.bool false)) ∧ o.dst = some 4 ∧ o.guard = none := ⟨_, rfl, rfl, rfl, rfl⟩
theorem tl1 : ∃ o0 o1 o2 o3 o4 o5 o6 o7 p, tL 1 = .seq (.seq (.region 1 #[o0, o1, o2, o3, o4, o5, o6, o7] false) (.cond (.tmp 20) (.seq (.region 2 #[p] false) .ret) .skip)) (tL 2) ∧ (o0.op = .move (.tmp 0) ∧ o0.dst = some 13 ∧ o0.guard = none) ∧ (o1.op = .call { callee := .builtin .len, args := #[.tmp 13], argTypes := #[22] } ∧ o1.dst = some 14 ∧ o1.guard = none) ∧ (o2.op = .binOp .gtr 3 (.tmp 14) (.const (.int .i64 1048576)) 3 ∧ o2.dst = some 15 ∧ o2.guard = none) ∧ (o3.op = .move (.tmp 15) ∧ o3.dst = some 16 ∧ o3.guard = none) ∧ (o4.op = .move (.tmp 1) ∧ o4.dst = some 17 ∧ o4.guard = some (3, false)) ∧ (o5.op = .call { callee := .builtin .len, args := #[.tmp 17], argTypes := #[22] } ∧ o5.dst = some 18 ∧ o5.guard = some (3, false)) ∧ (o6.op = .binOp .gtr 3 (.tmp 18) (.const (.int .i64 1048576)) 3 ∧ o6.dst = some 19 ∧ o6.guard = some (3, false)) ∧ (o7.op = .pick (.tmp 16) (.const (.bool true)) (.tmp 19) ∧ o7.dst = some 20 ∧ o7.guard = none) ∧ (p.op = .assign (.const (.bool true)) ∧ p.dst = some 4 ∧ p.guard = none) :=
  ⟨_, _, _, _, _, _, _, _, _, rfl, ⟨rfl, rfl, rfl⟩, ⟨rfl, rfl, rfl⟩, ⟨rfl, rfl, rfl⟩, ⟨rfl, rfl, rfl⟩, ⟨rfl, rfl, rfl⟩, ⟨rfl, rfl, rfl⟩, ⟨rfl, rfl, rfl⟩, ⟨rfl, rfl, rfl⟩, ⟨rfl, rfl, rfl⟩⟩

/-- At its return, with this answer. -/
def RetL (v : Value) (g : Goroutine) : Prop := ∃ T todo, g = G { bL.at ⟨T, []⟩ todo with mode := .returning } [] ∧ T.getD 4 undef = v
theorem RetL.last {v : Value} {g : Goroutine} (h : RetL v g) (x : World) : stepG Tryz.prog true g x = .ended (.done v) x #[] := by
  obtain ⟨T, todo, rfl, rfl⟩ := h
  have hr := results_tmp (fn := Tryz.f3) (t := 4) rfl T Tryz.prog x
  have he := events_results_tmp (P := Tryz.prog) (w := x) (fn := Tryz.f3) (t := 4) rfl T
  simp [G, stepG, unwind, doReturn, Frame.at, hr, he, seen, GStep.after, bL, base]

/-- What W had is as it was. -/
structure BelR (W w : World) : Prop where
  os : w.os = W.os
  output : w.output = W.output
  size : W.heap.size ≤ w.heap.size
  block : ∀ k, k < W.heap.size → w.heap[k]? = W.heap[k]?
theorem BelR.at {W w : World} (h : BelR W w) (d : Nat) : BelR W (w.at d) := ⟨h.os, h.output, h.size, h.block⟩
theorem pz_no (w : World) (τ : Nat → Question → Nat) (d : Nat) : (pzT (fun _ => False) w τ d).heap = w.heap := by
  apply Array.ext_getElem?
  intro b
  show (pz (fun _ => False) w).heap[b]? = _
  rw [pz_get]
  cases w.heap[b]? with
  | none => rfl
  | some o => simp [pzObj]
theorem old_real {W0 w : World} {X : Nat → Prop} {τ : Nat → Question → Nat} {d : Nat} (h : OldW W0 (pzT X w τ d)) (hX : ∀ b, X b → W0.heap.size ≤ b) : BelR W0 w := by
  obtain ⟨w0, ⟨σ, rfl⟩, hb⟩ := h
  refine ⟨hb.os, hb.output, by have := hb.size; rwa [pz_size] at this, fun k hk => ?_⟩
  have h1 : (pz X w).heap[k]? = W0.heap[k]? := hb.block k hk
  rw [pz_get] at h1
  have hx : ¬ X k := fun hx => by have := hX k hx; omega
  rw [← h1]
  cases w.heap[k]? with
  | none => rfl
  | some o => simp [pzObj, hx]
theorem old_first (W0 : World) (τ : Nat → Question → Nat) (d : Nat) : OldW W0 (pzT (fun _ => False) W0 τ d) :=
  ⟨{ W0 with tape := τ }, ⟨τ, rfl⟩, rfl, rfl, rfl, by rw [pz_size]; exact Nat.le_refl _, fun k _ => by rw [pz_no]⟩
theorem old_all {W0 w : World} {X : Nat → Prop} {τ0 : Nat → Question → Nat} {d0 : Nat} (h : OldW W0 (pzT X w τ0 d0)) (τ : Nat → Question → Nat) (d : Nat) : OldW W0 (pzT X w τ d) := OldW.tl W0 (pzT X w τ0 d0) τ d h
theorem old_bytes {W0 u : World} {v : Value} {n : Nat} (h : OldW W0 u) (hb : BytesAt W0 W0.heap.size v n) : BytesAt u u.heap.size v n := by
  obtain ⟨w0, ⟨σ, rfl⟩, hB⟩ := h
  exact BytesAt.up (w := { W0 with tape := σ }) hb hB hB.size

section
variable {W0 : World} {Shun : Loc → Prop} {gs : Array Goroutine} {sl : Option (Nat × Nat)} {t : Trace} {V : World}
theorem fin {g : Goroutine} (hh : Here Tryz.prog Shun gs g t) (hr : RetL (.bool true) g) (hb : BelR W0 V) : EndsG Tryz.prog (fun v w => v = .bool true ∧ BelR W0 w) (crowd gs V sl) t :=
  ends_last hh (by obtain ⟨_, _, rfl, _⟩ := hr; rfl) hr.last fun d => ⟨rfl, hb.at d⟩
theorem fin_ret {T : Array Value} {k : List Item} (hh : Here Tryz.prog Shun gs (G (bL.at ⟨T, []⟩ (.code .ret :: k)) []) t) (hT : T[4]? = some (.bool true)) (hB : BelR W0 V) : EndsG Tryz.prog (fun v w => v = .bool true ∧ BelR W0 w) (crowd gs V sl) t := by
  refine e_ctl hh rfl (fun w => stepG_ret') fun gs sl t dd hh => ?_; replace hB := hB.at dd
  exact fin hh ⟨_, _, rfl, by simp [hT]⟩ hB
theorem gr0 {n : Nat} (h : 1048576 < n) : decide ((1048576 : Int) < (n : Int)) = true := by simp; omega
theorem early {x0 x1 : Option Addr} {n0 k0 n1 k1 : Nat} (hbig : 1048576 < n0 ∨ 1048576 < n1) (hB : BelR W0 V) (hh : Here Tryz.prog Shun gs (G (bL.at ⟨slL (.slice x0 n0 k0) (.slice x1 n1 k1), []⟩ [.code (tL 0)]) []) t) : EndsG Tryz.prog (fun v w => v = .bool true ∧ BelR W0 w) (crowd gs V sl) t := by
  have hT : Has 96 (slL (.slice x0 n0 k0) (.slice x1 n1 k1)) [(0, .slice x0 n0 k0), (1, .slice x1 n1 k1)] := ⟨rfl, fun p hp => by
    simp only [List.mem_cons, List.not_mem_nil, or_false] at hp
    rcases hp with rfl | rfl <;> rfl⟩
  generalize slL (.slice x0 n0 k0) (.slice x1 n1 k1) = T at hh hT
  obtain ⟨o, e, hop, hdst, hg⟩ := tl0
  rw [e] at hh
  refine e_ctl hh rfl (fun w => stepG_seq) fun gs sl t dd hh => ?_; replace hB := hB.at dd
  refine e_ctl hh rfl (fun w => stepG_region) fun gs sl t dd hh => ?_; replace hB := hB.at dd
  refine h_move (v := .bool false) hh hT (o := o) rfl (want0 hg _) rfl hdst (.inr hop) rfl (by omega) (by simp) fun gs sl t dd T hh hT => ?_; replace hB := hB.at dd
  refine e_ctl hh rfl (fun w => stepG_region_end) fun gs sl t dd hh => ?_; replace hB := hB.at dd
  replace hT := hT.sub (l' := [(0, .slice x0 n0 k0), (1, .slice x1 n1 k1)]) (by simp)
  obtain ⟨o0, o1, o2, o3, o4, o5, o6, o7, p, e, ⟨a0, d0, g0⟩, ⟨a1, d1, g1⟩, ⟨a2, d2, g2⟩, ⟨a3, d3, g3⟩, ⟨a4, d4, g4⟩, ⟨a5, d5, g5⟩, ⟨a6, d6, g6⟩, ⟨a7, d7, g7⟩, ⟨ap, dp, gp⟩⟩ := tl1
  rw [e] at hh
  have last : ∀ {gs V sl t T}, BelR W0 V → Has 96 T [(20, .bool true)] → Here Tryz.prog Shun gs (G (bL.at ⟨T, []⟩ [.inRegion #[o0, o1, o2, o3, o4, o5, o6, o7] [], .code (.cond (.tmp 20) (.seq (.region 2 #[p] false) .ret) .skip), .code (tL 2)]) []) t → EndsG Tryz.prog (fun v w => v = .bool true ∧ BelR W0 w) (crowd gs V sl) t := by
    intro gs V sl t T hB hT hh
    refine e_ctl hh rfl (fun w => stepG_region_end) fun gs sl t dd hh => ?_; replace hB := hB.at dd
    refine e_ctl hh rfl (fun w => stepG_cond (t := true) (hT.ev 20 (.bool true) (by simp))) fun gs sl t dd hh => ?_; replace hB := hB.at dd
    refine e_ctl hh rfl (fun w => stepG_seq) fun gs sl t dd hh => ?_; replace hB := hB.at dd
    refine e_ctl hh rfl (fun w => stepG_region) fun gs sl t dd hh => ?_; replace hB := hB.at dd
    refine h_move (v := .bool true) hh hT (o := p) rfl (want0 gp _) rfl dp (.inr ap) rfl (by omega) (by simp) fun gs sl t dd T hh hT => ?_; replace hB := hB.at dd
    refine e_ctl hh rfl (fun w => stepG_region_end) fun gs sl t dd hh => ?_; replace hB := hB.at dd
    exact fin_ret hh (hT.get 4 _ (by simp)) hB
  refine e_ctl hh rfl (fun w => stepG_seq) fun gs sl t dd hh => ?_; replace hB := hB.at dd
  refine e_ctl hh rfl (fun w => stepG_seq) fun gs sl t dd hh => ?_; replace hB := hB.at dd
  refine e_ctl hh rfl (fun w => stepG_region) fun gs sl t dd hh => ?_; replace hB := hB.at dd
  refine h_move (v := .slice x0 n0 k0) hh hT (o := o0) rfl (want0 g0 _) rfl d0 (.inl a0) (hT.ev 0 (.slice x0 n0 k0) (by simp)) (by omega) (by simp) fun gs sl t dd T hh hT => ?_; replace hB := hB.at dd
  refine h_val (v := .int .i64 n0) 0 hh hT (o := o1) rfl (want0 g1 _) rfl d1 (by omega) (by simp) (fun d => by unfold execOp; rw [a1]; simp [go_sem, resolve, invoke, Builtin.len_, Act.eval, hT.get 13 (.slice x0 n0 k0) (by simp)]) (fun d e he => by unfold execOp at he; rw [a1] at he; simp [go_sem, resolve, invoke, Builtin.len_, Act.eval, hT.get 13 (.slice x0 n0 k0) (by simp)] at he) fun gs sl t dd T hh hT => ?_; replace hB := hB.at dd
  refine h_val (v := .bool (decide ((1048576 : Int) < (n0 : Int)))) 0 hh hT (o := o2) rfl (want0 g2 _) rfl d2 (by omega) (by simp) (fun d => by unfold execOp; rw [a2]; simp [go_sem, Act.eval, hT.get 14 (.int .i64 n0) (by simp)]) (fun d e he => by unfold execOp at he; rw [a2] at he; simp [go_sem, Act.eval, hT.get 14 (.int .i64 n0) (by simp)] at he) fun gs sl t dd T hh hT => ?_; replace hB := hB.at dd
  refine h_move (v := .bool (decide ((1048576 : Int) < (n0 : Int)))) hh hT (o := o3) rfl (want0 g3 _) rfl d3 (.inl a3) (hT.ev 15 (.bool (decide ((1048576 : Int) < (n0 : Int)))) (by simp)) (by omega) (by simp) fun gs sl t dd T hh hT => ?_; replace hB := hB.at dd
  have e3 : ∃ oj, (#[o0, o1, o2, o3, o4, o5, o6, o7] : Array Oper)[3]? = some oj ∧ oj.dst = some 16 := ⟨o3, rfl, d3⟩
  cases hq : decide ((1048576 : Int) < (n0 : Int)) with
  | true =>
    rw [hq] at hT
    refine h_skip hh hT (o := o4) rfl (by rw [wantT g4 e3 hT (t' := true) (by simp)]; rfl) d4 (by omega) (by simp) fun gs sl t dd T hh hT => ?_
    replace hB := hB.at dd
    refine h_skip hh hT (o := o5) rfl (by rw [wantT g5 e3 hT (t' := true) (by simp)]; rfl) d5 (by omega) (by simp) fun gs sl t dd T hh hT => ?_
    replace hB := hB.at dd
    refine h_skip hh hT (o := o6) rfl (by rw [wantT g6 e3 hT (t' := true) (by simp)]; rfl) d6 (by omega) (by simp) fun gs sl t dd T hh hT => ?_
    replace hB := hB.at dd
    refine h_val (v := .bool true) 0 hh hT (o := o7) rfl (want0 g7 _) rfl d7 (by omega) (by simp) (fun d => by unfold execOp; rw [a7]; simp [go_sem, Act.eval, hT.get 16 (.bool true) (by simp)]) (fun d e he => by unfold execOp at he; rw [a7] at he; simp [go_sem, Act.eval, hT.get 16 (.bool true) (by simp)] at he) fun gs sl t dd T hh hT => ?_; replace hB := hB.at dd
    exact last hB (hT.sub (by simp)) hh
  | false =>
    rw [hq] at hT
    have hn1 : 1048576 < n1 := hbig.elim (fun h => by rw [gr0 h] at hq; cases hq) id
    refine h_move (v := .slice x1 n1 k1) hh hT (o := o4) rfl (by rw [wantT g4 e3 hT (t' := false) (by simp)]; rfl) rfl d4 (.inl a4) (hT.ev 1 (.slice x1 n1 k1) (by simp)) (by omega) (by simp) fun gs sl t dd T hh hT => ?_; replace hB := hB.at dd
    refine h_val (v := .int .i64 n1) 0 hh hT (o := o5) rfl (by rw [wantT g5 e3 hT (t' := false) (by simp)]; rfl) rfl d5 (by omega) (by simp) (fun d => by unfold execOp; rw [a5]; simp [go_sem, resolve, invoke, Builtin.len_, Act.eval, hT.get 17 (.slice x1 n1 k1) (by simp)]) (fun d e he => by unfold execOp at he; rw [a5] at he; simp [go_sem, resolve, invoke, Builtin.len_, Act.eval, hT.get 17 (.slice x1 n1 k1) (by simp)] at he) fun gs sl t dd T hh hT => ?_; replace hB := hB.at dd
    refine h_val (v := .bool true) 0 hh hT (o := o6) rfl (by rw [wantT g6 e3 hT (t' := false) (by simp)]; rfl) rfl d6 (by omega) (by simp) (fun d => by unfold execOp; rw [a6]; simp [go_sem, Act.eval, hT.get 18 (.int .i64 n1) (by simp), gr0 hn1]) (fun d e he => by unfold execOp at he; rw [a6] at he; simp [go_sem, Act.eval, hT.get 18 (.int .i64 n1) (by simp), gr0 hn1] at he) fun gs sl t dd T hh hT => ?_; replace hB := hB.at dd
    refine h_val (v := .bool true) 0 hh hT (o := o7) rfl (want0 g7 _) rfl d7 (by omega) (by simp) (fun d => by unfold execOp; rw [a7]; simp [go_sem, Act.eval, hT.get 16 (.bool false) (by simp), hT.get 19 (.bool true) (by simp)]) (fun d e he => by unfold execOp at he; rw [a7] at he; simp [go_sem, Act.eval, hT.get 16 (.bool false) (by simp), hT.get 19 (.bool true) (by simp)] at he) fun gs sl t dd T hh hT => ?_; replace hB := hB.at dd
    exact last hB (hT.sub (by simp)) hh
end
end Go.Proofs.YtnojjmkmkelbgaaGreat
