/- The share's goroutines, 1: a worker, behind what it asks. -/
import Derived.Test.YtafgabakhaipnaaJ24
namespace Go.Proofs.Ytafgabakhaipnaa
open Go.Conc Go.ConcN Go.RowKit Go.Conc.Lib Go.ConcR.Gen Go.ConcN.Gen
open Go.ConcR (KK wgBlock WgAt stA smA rd wr mk Payload DC0)

theorem dk_idle {p : Ph} {M : Nat → Prop} (w : World) : DK p M w w #[] := ⟨.refl w, by simp⟩
theorem dk_none {p : Ph} {M : Nat → Prop} {w : World} {es : Array Event} (h : ∀ e ∈ es, False) : DK p M w w es := ⟨.refl w, fun e he => (h e he).elim⟩
theorem evK_own {p : Ph} {M : Nat → Prop} {a : Addr} {wr : Bool} (hM : M a.block) (hs : ¬ p.Sh (.cell a)) : EvK p M ⟨.cell a, wr, false⟩ := by
  refine ⟨fun x hx => ?_, by simp, by simp, by simp⟩
  simp only [Go.ConcR.ofEvent_cell, MemAct.touch?, Option.some.injEq] at hx
  subst hx
  exact .inr ⟨rfl, a, rfl, hs, .inr hM⟩
theorem evK_low {p : Ph} {M : Nat → Prop} {a : Addr} (hM : a.block < p.Low) (hs : ¬ p.Sh (.cell a)) : EvK p M ⟨.cell a, false, false⟩ := by
  refine ⟨fun x hx => ?_, by simp, by simp, by simp⟩
  simp only [Go.ConcR.ofEvent_cell, MemAct.touch?, Option.some.injEq] at hx
  subst hx
  exact .inr ⟨rfl, a, rfl, hs, .inl ⟨hM, rfl⟩⟩

/-- What a worker holds once it has its answer: the group, the sum, its own box. -/
structure TK (p : Ph) (C i : Nat) (w : World) : Prop where
  live : WgLive p.ty p.Wg w
  sum : SumLive p w
  box : w.heap[C]? = some (.cells #[.int .i64 i] 3)
theorem rlT {p : Ph} {M : Nat → Prop} {C i : Nat} (hC : M C) {w w₁ : World} (h : TK p C i w) (r : RK p M w w₁) : TK p C i w₁ := ⟨r.live h.live, r.sum h.sum, (r.own C hC).trans h.box⟩
theorem TK.cell {p : Ph} {C i : Nat} {w : World} (h : TK p C i w) : w.cell? ⟨C, 0, none⟩ = some (.int .i64 i) := by simp [World.cell?, h.box]

def bW : Frame := baseD 46
noncomputable def bot : Frame := { (default : Frame) with fn := Try.prog.funcs.size, defers := [], mode := .panicking [goexitEntry] }
noncomputable def bodyW : Code := Try.f46.body.getD .skip
noncomputable def ops1W : Array Oper := match bodyW with | .seq _ (.seq (.region _ o _) _) => o | _ => #[]
noncomputable def condW : Code := match bodyW with | .seq _ (.seq _ c) => c | _ => .skip
def callW (Wg hB C S : Nat) : Deferred := { target := .fn (.func 46) #[.pointer (some ⟨Wg, 0, none⟩), .pointer (some ⟨hB, 0, none⟩), .pointer (some ⟨C, 0, none⟩), .pointer (some ⟨S, 0, none⟩)], args := #[] }

theorem quitsW (T : Array Value) : QuitsD Try.prog 2 0 (G { bW.at ⟨T, []⟩ [] with mode := .returning } [bot]) := by
  refine QuitsD.ctl (g' := G bot []) rfl (fun w => ?_) ?_
  · simp [G, stepG, unwind, doReturn, results, Frame.at, bW, baseD, bot, Try.func46, Try.f46, seen, GStep.after, goexitEntry]
  refine QuitsD.ctl (g' := { G bot [] with status := .finished }) rfl (fun w => ?_) ⟨rfl, rfl⟩
  simp [G, stepG, unwind, bot, goexitEntry, Frame.catches]
  rfl

section
variable {p : Ph} {M : Nat → Prop} {C hB i : Nat}

/-- Nothing to add: out, by Done. -/
theorem leaveW (hp : p.P = Try.prog) (hty : p.ty = 89) (hC : M C) (T : Array Value) (w : World) (hF : TK p C i w) :
    Wk p i C (.int .i64 i) 0 M 24 (G { bW.at ⟨T, [dcall 47 #[.pointer (some ⟨p.Wg, 0, none⟩)]]⟩ [] with mode := .returning } [bot]) w := by
  have hd := doneK (L := lnk) (p := p) (by rw [hp]; exact wgl) hty (i := i) (v := .int .i64 i) hC (c := { bW.at ⟨T, []⟩ [] with mode := .returning }) (cs := [bot]) (qt := 2) rfl (by rw [hp]; exact quitsW T)
  unfold Wk at hd ⊢
  refine Goes.step rfl (fun _ h₁ => ?_); replace hF := rlT hC hF h₁; clear h₁
  rw [hp, stepG_unwind_enter rfl Try.func47 (nm_done lnk) rfl]
  simp only [goes_go]
  refine ⟨dk_idle _, ?_⟩
  have h1 := hd _ hF.live hF.box
  rw [hp] at h1
  simp only [body_done, doneFn, Option.getD_some] at h1
  exact h1

def slotsW (p : Ph) (hB C i : Nat) (fv r : Value) : Array Value := #[.pointer (some ⟨p.Wg, 0, none⟩), .pointer (some ⟨hB, 0, none⟩), .pointer (some ⟨C, 0, none⟩), .pointer (some ⟨p.S, 0, none⟩), fv, .int .i64 i, r, undef, undef, undef]
def dsW (p : Ph) : List Deferred := [dcall 47 #[.pointer (some ⟨p.Wg, 0, none⟩)]]

set_option maxRecDepth 100000 in
/-- Its answer is no. -/
theorem tailNo (hp : p.P = Try.prog) (hty : p.ty = 89) (hC : M C) (fv : Value) (w : World) (hF : TK p C i w) :
    Wk p i C (.int .i64 i) 0 M 28 (G (bW.at ⟨slotsW p hB C i fv (.bool false), dsW p⟩ (.inRegion ops1W [] :: [.code condW])) [bot]) w := by
  have hl := leaveW (p := p) (M := M) (C := C) (i := i) hp hty hC
  unfold Wk at hl ⊢
  simp only [slotsW, dsW, ops1W, condW, bodyW, Try.f46, Option.getD_some]
  refine Goes.step rfl (fun _ h₁ => ?_); replace hF := rlT hC hF h₁; clear h₁; rw [stepG_region_end]; simp only [goes_go]; refine ⟨dk_idle _, ?_⟩
  refine Goes.step rfl (fun _ h₁ => ?_); replace hF := rlT hC hF h₁; clear h₁; rw [stepG_cond (t := false) rfl]; simp only [goes_go, Bool.false_eq_true, ↓reduceIte]; refine ⟨dk_idle _, ?_⟩
  refine Goes.step rfl (fun _ h₁ => ?_); replace hF := rlT hC hF h₁; clear h₁; rw [stepG_skip]; simp only [goes_go]; refine ⟨dk_idle _, ?_⟩
  refine Goes.step rfl (fun _ h₁ => ?_); replace hF := rlT hC hF h₁; clear h₁; rw [stepG_end]; simp only [goes_go]; refine ⟨dk_idle _, ?_⟩
  exact hl _ _ hF

set_option maxRecDepth 100000 in
/-- Its answer is yes: it adds its bit. -/
theorem tailYes (hp : p.P = Try.prog) (hty : p.ty = 89) (_htS : p.tS = 82) (o : p.Ok) (hC : M C) (hCL : p.Low ≤ C) (hi : i < 32) (hbit : p.bit i = 2 ^ i) (fv : Value) (w : World) (hF : TK p C i w) :
    Wk p i C (.int .i64 i) 1 M 40 (G (bW.at ⟨slotsW p hB C i fv (.bool true), dsW p⟩ (.inRegion ops1W [] :: [.code condW])) [bot]) w := by
  have hl := leaveW (p := p) (M := M) (C := C) (i := i) hp hty hC
  have hnS : ¬ p.Sh (.cell ⟨C, 0, none⟩) := fun h => by have := o.low h; simp at this; omega
  unfold Wk at hl ⊢
  rw [hp]
  simp only [hp] at hl
  simp only [slotsW, dsW, ops1W, condW, bodyW, Try.f46, Option.getD_some]
  refine Goes.step rfl (fun _ h₁ => ?_); replace hF := rlT hC hF h₁; clear h₁; rw [stepG_region_end]; simp only [goes_go]; refine ⟨dk_idle _, ?_⟩
  refine Goes.step rfl (fun _ h₁ => ?_); replace hF := rlT hC hF h₁; clear h₁; rw [stepG_cond (t := true) rfl]; simp only [goes_go, ↓reduceIte]; refine ⟨dk_idle _, ?_⟩
  refine Goes.step rfl (fun _ h₁ => ?_); replace hF := rlT hC hF h₁; clear h₁; rw [stepG_region]; simp only [goes_go, List.size_toArray, List.length_cons, List.length_nil, Nat.reduceAdd, Nat.zero_add, List.range, List.range.loop]; refine ⟨dk_idle _, ?_⟩
  refine Goes.step rfl (fun _ h₁ => ?_); replace hF := rlT hC hF h₁; clear h₁
  refine goes_oper_k rfl rfl (by k_ne) (fun K hK => ?_)
  have hc := hF.cell
  go_simp
  refine hK _ _ ⟨⟨.refl _, fun e he => ?_⟩, ?_⟩
  · have hm := mem_listed he
    simp [go_sem, *] at hm
    subst hm
    exact evK_own hC hnS
  clear hK K hc
  have hneg : ¬ ((i : Int) < 0) := by omega
  refine Goes.step rfl (fun _ h₁ => ?_); replace hF := rlT hC hF h₁; clear h₁
  refine goes_oper_k rfl rfl (by k_ne) (fun K hK => ?_)
  go_simp
  refine hK _ _ ⟨dk_none (by intro e he; have hm := mem_listed he; simp [go_sem, Op.shift, *] at hm), ?_⟩
  clear hK K
  have hV : IntKind.u32.wrap (1 * 2 ^ min (i : Int).toNat IntKind.u32.bits) = (p.bit i : Int) := by
    have h1 : min (i : Int).toNat IntKind.u32.bits = i := by simp [IntKind.bits]; omega
    have h2 : 2 ^ i < 2 ^ 32 := Nat.pow_lt_pow_right (by omega) hi
    have h3 : ((2 : Int) ^ i) = ((2 ^ i : Nat) : Int) := (Int.natCast_pow 2 i).symm
    rw [IntKind.wrap_u32, h1, Int.one_mul, h3, hbit]
    omega
  rw [hV]
  clear hV hneg hbit
  walk_nrm
  refine Goes.step rfl (fun _ h₁ => ?_); replace hF := rlT hC hF h₁; clear h₁
  refine goes_call rfl rfl (by k_ne) rfl Try.func48 (by kernel_rfl) rfl ⟨dk_idle _, ?_⟩
  walk_nrmf Try.f48
  refine Goes.step rfl (fun _ h₁ => ?_); replace hF := rlT hC hF h₁; clear h₁; rw [stepG_seq]; simp only [goes_go]; refine ⟨dk_idle _, ?_⟩
  refine Goes.step rfl (fun _ h₁ => ?_); replace hF := rlT hC hF h₁; clear h₁; rw [stepG_region]; simp only [goes_go, List.size_toArray, List.length_cons, List.length_nil, Nat.zero_add, List.range, List.range.loop]; refine ⟨dk_idle _, ?_⟩
  refine Goes.step rfl (fun _ h₁ => ?_); replace hF := rlT hC hF h₁; clear h₁; refine goes_oper_k rfl rfl (by k_ne) (fun K hK => ?_); go_simp; refine hK _ _ ⟨dk_none (by intro e he; have hm := mem_listed he; simp [go_sem, *] at hm), ?_⟩; clear hK K; try w_num
  refine Goes.step rfl (fun _ h₁ => ?_); replace hF := rlT hC hF h₁; clear h₁; rw [stepG_region_end]; simp only [goes_go]; refine ⟨dk_idle _, ?_⟩
  refine Goes.step rfl (fun _ h₁ => ?_); replace hF := rlT hC hF h₁; clear h₁; rw [stepG_seq]; simp only [goes_go]; refine ⟨dk_idle _, ?_⟩
  refine Goes.step rfl (fun _ h₁ => ?_); replace hF := rlT hC hF h₁; clear h₁; rw [stepG_region]; simp only [goes_go, List.size_toArray, List.length_cons, List.length_nil, Nat.reduceAdd, Nat.zero_add, List.range, List.range.loop]; refine ⟨dk_idle _, ?_⟩
  refine Goes.step rfl (fun _ h₁ => ?_); replace hF := rlT hC hF h₁; clear h₁; refine goes_oper_k rfl rfl (by k_ne) (fun K hK => ?_); go_simp; refine hK _ _ ⟨dk_none (by intro e he; have hm := mem_listed he; simp [go_sem, *] at hm), ?_⟩; clear hK K; try w_num
  refine Goes.step rfl (fun _ h₁ => ?_); replace hF := rlT hC hF h₁; clear h₁; refine goes_oper_k rfl rfl (by k_ne) (fun K hK => ?_); go_simp; refine hK _ _ ⟨dk_none (by intro e he; have hm := mem_listed he; simp [go_sem, *] at hm), ?_⟩; clear hK K; try w_num
  refine Goes.step rfl (fun _ h₁ => ?_); replace hF := rlT hC hF h₁; clear h₁; refine goes_oper_k rfl rfl (by k_ne) (fun K hK => ?_); go_simp; refine hK _ _ ⟨dk_none (by intro e he; have hm := mem_listed he; simp [go_sem, *] at hm), ?_⟩; clear hK K; try w_num
  refine Goes.step rfl (fun _ h₁ => ?_); replace hF := rlT hC hF h₁; clear h₁; refine goes_oper_k rfl rfl (by k_ne) (fun K hK => ?_); go_simp; refine hK _ _ ⟨dk_none (by intro e he; have hm := mem_listed he; simp [go_sem, *] at hm), ?_⟩; clear hK K; try w_num
  refine Goes.stop (fun w₂ h₂ => ?_)
  replace hF := rlT hC hF h₂
  clear h₂
  refine ⟨rfl, fun s hs hsum => ?_⟩
  have hcell : w₂.cell? ⟨p.S, 0, none⟩ = some (.int .u32 (s : Int)) := by unfold SumAt at hsum; simp [World.cell?, hsum]
  have hthaw : w₂.frozen? ⟨p.S, 0, none⟩ = false := by unfold SumAt at hsum; simp [World.frozen?, hsum]
  have hwrap : IntKind.u32.wrap ((s : Int) + (p.bit i : Int)) = ((s + p.bit i : Nat) : Int) := by rw [IntKind.wrap_u32]; omega
  have hCS : C ≠ p.S := fun e => by have := o.s; omega
  have has := aside_setCell w₂ (sA p) (.int .u32 ((s + p.bit i : Nat) : Int))
  have hF2 : TK p C i (w₂.setCell (sA p) (.int .u32 ((s + p.bit i : Nat) : Int))) :=
    ⟨let ⟨a, b, h⟩ := hF.live; ⟨a, b, h.of_block (has.block _ o.ne)⟩, ⟨_, hsum.set _⟩, (has.block _ hCS).trans hF.box⟩
  refine ⟨_, (by
    rw [hp]
    exact (stepG_add_atomic rfl rfl (by k_ne) rfl Try.func67 (by kernel_rfl) (by kernel_rfl) (by kernel_rfl) .u32 (by kernel_rfl) (ad := ⟨p.S, 0, none⟩) (v := (s : Int)) (d := (p.bit i : Int)) rfl rfl hcell hthaw).trans (by rw [hwrap]; rfl)), 33, ?_⟩
  clear hF hcell hthaw hwrap has hsum
  have hF := hF2
  clear hF2
  unfold Wk
  rw [hp]
  walk_nrm
  refine Goes.step rfl (fun _ h₁ => ?_); replace hF := rlT hC hF h₁; clear h₁; refine goes_oper_k rfl rfl (by k_ne) (fun K hK => ?_); go_simp; refine hK _ _ ⟨dk_none (by intro e he; have hm := mem_listed he; simp [go_sem, *] at hm), ?_⟩; clear hK K; try w_num
  refine Goes.step rfl (fun _ h₁ => ?_); replace hF := rlT hC hF h₁; clear h₁; rw [stepG_region_end]; simp only [goes_go]; refine ⟨dk_idle _, ?_⟩
  refine Goes.step rfl (fun _ h₁ => ?_); replace hF := rlT hC hF h₁; clear h₁; rw [stepG_ret']; simp only [goes_go]; refine ⟨dk_idle _, ?_⟩
  refine Goes.step rfl (fun _ h₁ => ?_); replace hF := rlT hC hF h₁; clear h₁
  refine goes_leave1 rfl rfl Try.func48 rfl ⟨dk_idle _, ?_⟩
  walk_nrm
  refine Goes.step rfl (fun _ h₁ => ?_); replace hF := rlT hC hF h₁; clear h₁; rw [stepG_region_end]; simp only [goes_go]; refine ⟨dk_idle _, ?_⟩
  refine Goes.step rfl (fun _ h₁ => ?_); replace hF := rlT hC hF h₁; clear h₁; rw [stepG_end]; simp only [goes_go]; refine ⟨dk_idle _, ?_⟩
  exact goes_le (hl _ _ hF) (by omega)
end
end Go.Proofs.Ytafgabakhaipnaa
