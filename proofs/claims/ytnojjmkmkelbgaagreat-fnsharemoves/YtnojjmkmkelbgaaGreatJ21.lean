/- Workers who read, add to one sum and leave, 8: a worker's Done. -/
import Derived.Test.YtnojjmkmkelbgaaGreatGw7
import Derived.Test.YtnojjmkmkelbgaaGreatChecked
import Derived.Conc.CompanyMem
namespace Go.Proofs.YtnojjmkmkelbgaaGreat
open Go.Conc Go.ConcN Go.RowKit Go.Conc.Lib Go.ConcR.Gen Go.ConcN.Gen
open Go.ConcR (KK wgBlock WgAt stA smA rd wr mk Payload DC0)

theorem goes_inv {P : Program} {main : Bool} {R R' : World → World → Prop} {D D' : World → World → Array Event → Prop} {Stop Stop' : Goroutine → World → Prop} {I : World → Prop}
    (hR : ∀ w w', I w → R' w w' → R w w' ∧ I w') (hD : ∀ w w' es, I w → D w w' es → D' w w' es ∧ I w') (hS : ∀ g w, I w → Stop g w → Stop' g w) {n : Nat} :
    ∀ {g : Goroutine} {w : World}, I w → Goes P main R D Stop n g w → Goes P main R' D' Stop' n g w := by
  induction n with
  | zero => exact fun hi h w₁ h₁ => hS _ _ (hR _ _ hi h₁).2 (h w₁ (hR _ _ hi h₁).1)
  | succ n ih =>
    intro g w hi h
    rcases h with h | ⟨hs, h⟩
    · exact .inl fun w₁ h₁ => hS _ _ (hR _ _ hi h₁).2 (h w₁ (hR _ _ hi h₁).1)
    · refine .inr ⟨hs, fun w₁ h₁ => ?_⟩
      have h2 := h w₁ (hR _ _ hi h₁).1
      have h3 := (hR _ _ hi h₁).2
      revert h2
      cases stepG P main g w₁ <;> simp only [GStep.goes, imp_self]
      exact fun ⟨d, x⟩ => ⟨(hD _ _ _ h3 d).1, ih (hD _ _ _ h3 d).2 x⟩

theorem evK_of_evW {p : Ph} {M : Nat → Prop} {e : Event} (h : EvW p.Wg No No 1 e) : EvK p M e := by
  refine ⟨fun x hx => ?_, h.2⟩
  rcases (h.1 0 "").2 x hx with h1 | h1 | h1
  · exact .inl h1
  · exact h1.elim
  · exact h1.1.elim
theorem payAt_box {C : Nat} {w : World} {v : Value} (h : w.heap[C]? = some (.cells #[v] 3)) : PayAt C 1 w := ⟨#[v], h, rfl⟩

/-- The deferred Done, from its entry. -/
theorem doneK {L : WgLink} {p : Ph} (H : WgLib p.P L) (hty : p.ty = L.tWg) {i C : Nat} {v : Value} {M : Nat → Prop} (hC : M C) {c : Frame} {cs : List Frame} {qt : Nat} (hcm : c.mode = .returning) (hT : QuitsD p.P qt 0 (G c cs))
    (w : World) (hl : WgLive p.ty p.Wg w) (hv : w.heap[C]? = some (.cells #[v] 3)) :
    Wk p i C v 0 M 23 (G ((baseD L.done).at ⟨#[.pointer (some ⟨p.Wg, 0, none⟩), undef, undef, undef], []⟩ [.code (body_done L)]) (c :: cs)) w := by
  unfold Wk
  have hd := doneN (P := p.P) H (Own := No) (Rd := No) (Wg := p.Wg) (C := C) (n := 1) (Low := 0) (k := 1) (val := v) hcm hT w ⟨by rw [← hty]; exact hl, by show w.cell? ⟨C, 0, none⟩ = some v; simp [World.cell?, hv]⟩
  rw [← hty] at hd
  refine goes_inv (I := PayAt C 1) (fun w w' hi hr => ?_) (fun w w' es hi hD => ?_) (fun g w _ h => h) (payAt_box hv) hd
  · obtain ⟨cs, h1, h2⟩ := hi
    exact ⟨hr.rw hC, cs, (hr.own C hC).trans h1, h2⟩
  · obtain ⟨ha, he⟩ := hD
    have hp := ha.pay hi
    obtain ⟨cs, h1, h2⟩ := hp
    exact ⟨⟨⟨ha.tape, ha.os, ha.output, fun k => k.one ha.block h1, ha.size, fun b hb => ha.block b (fun e => hb (e ▸ hC))⟩, fun e hx => evK_of_evW (he e hx)⟩, cs, h1, h2⟩
end Go.Proofs.YtnojjmkmkelbgaaGreat

/- The share's goroutines, 0: the library's functions in this program. -/
namespace Go.Proofs.YtnojjmkmkelbgaaGreat
open Go.Conc Go.Conc.Lib

abbrev lnk : WgLink := { add := 56, done := 58, wait := 60, relMerge := 78, disable := 79, enable := 80, inBubble := 81, associate := 82, fatal := 83, uOr := 84, uAdd := 85, raceRead := 86, uLoad := 87, uStore := 88, disassociate := 89, semrelease := 90, acquire := 92, isAssociated := 93, uCas := 94, raceWrite := 95, semacquire := 96, orU64 := 103, addU64 := 104, loadU64 := 105, storeU64 := 106, casU64 := 107, tWgP := 114, tUP := 116, tAssoc := 117, tWg := 99, tAU := 97, tU64 := 95, tUint := 52, tU32 := 74, tPU32 := 121, tPAU := 134, tPU64 := 136, tNoCopy := 93, tANoCopy := 90, tAlign64 := 94 }
theorem wgl : WgLib Tryz.prog lnk :=
  ⟨Tryz.func56, Tryz.func58, Tryz.func60, Tryz.func78, Tryz.func79, Tryz.func80, Tryz.func81, Tryz.func82, Tryz.func83, Tryz.func84, Tryz.func85, Tryz.func86, Tryz.func87, Tryz.func88, Tryz.func89, Tryz.func90, Tryz.func92, Tryz.func93, Tryz.func94, Tryz.func95, Tryz.func96, Tryz.func103, Tryz.func104, Tryz.func105, Tryz.func106, Tryz.func107, Tryz.underlying114, Tryz.runUnderlying114, Tryz.sizeOf114, Tryz.isAgg114, Tryz.zeroValue114, Tryz.underlying116, Tryz.runUnderlying116, Tryz.sizeOf116, Tryz.isAgg116, Tryz.zeroValue116, Tryz.underlying117, Tryz.runUnderlying117, Tryz.sizeOf117, Tryz.isAgg117, Tryz.zeroValue117, Tryz.underlying99, Tryz.runUnderlying99, Tryz.sizeOf99, Tryz.isAgg99, Tryz.zeroValue99, Tryz.underlying97, Tryz.runUnderlying97, Tryz.sizeOf97, Tryz.isAgg97, Tryz.zeroValue97, Tryz.underlying95, Tryz.runUnderlying95, Tryz.sizeOf95, Tryz.isAgg95, Tryz.zeroValue95, Tryz.underlying52, Tryz.runUnderlying52, Tryz.sizeOf52, Tryz.isAgg52, Tryz.zeroValue52, Tryz.underlying74, Tryz.runUnderlying74, Tryz.sizeOf74, Tryz.isAgg74, Tryz.zeroValue74, Tryz.underlying121, Tryz.runUnderlying121, Tryz.sizeOf121, Tryz.isAgg121, Tryz.zeroValue121, Tryz.underlying134, Tryz.runUnderlying134, Tryz.sizeOf134, Tryz.isAgg134, Tryz.zeroValue134, Tryz.underlying136, Tryz.runUnderlying136, Tryz.sizeOf136, Tryz.isAgg136, Tryz.zeroValue136, Tryz.underlying0, Tryz.runUnderlying0, Tryz.sizeOf0, Tryz.isAgg0, Tryz.zeroValue0, Tryz.underlying3, Tryz.runUnderlying3, Tryz.sizeOf3, Tryz.isAgg3, Tryz.zeroValue3, Tryz.underlying4, Tryz.runUnderlying4, Tryz.sizeOf4, Tryz.isAgg4, Tryz.zeroValue4, Tryz.underlying9, Tryz.runUnderlying9, Tryz.sizeOf9, Tryz.isAgg9, Tryz.zeroValue9, Tryz.underlying20, Tryz.runUnderlying20, Tryz.sizeOf20, Tryz.isAgg20, Tryz.zeroValue20, Tryz.underlying21, Tryz.runUnderlying21, Tryz.sizeOf21, Tryz.isAgg21, Tryz.zeroValue21, (by kernel_rfl), (by kernel_rfl)⟩
end Go.Proofs.YtnojjmkmkelbgaaGreat

/- The share's goroutines, 1: a worker, behind what it asks. -/
namespace Go.Proofs.YtnojjmkmkelbgaaGreat
open Go.Conc Go.ConcN Go.RowKit Go.Conc.Lib Go.ConcR.Gen Go.ConcN.Gen
open Go.ConcR (KK wgBlock WgAt stA smA rd wr mk Payload DC0)

theorem dk_idle {p : Ph} {M : Nat → Prop} (w : World) : DK p M w w #[] := ⟨.refl w, by simp⟩
theorem dk_none {p : Ph} {M : Nat → Prop} {w : World} {es : Array Event} (h : ∀ e ∈ es, False) : DK p M w w es := ⟨.refl w, fun e he => (h e he).elim⟩
theorem evK_own {p : Ph} {M : Nat → Prop} {a : Addr} {wr : Bool} (hM : M a.block) (hs : ¬ p.Sh (.cell a)) : EvK p M ⟨.cell a, wr, false⟩ := by
  refine ⟨fun x hx => ?_, by simp, by simp, by simp⟩
  simp only [Go.ConcR.ofEvent_cell, MemAct.touch?, Option.some.injEq] at hx
  subst hx
  exact .inr ⟨rfl, a, rfl, hs, .inr hM⟩
theorem evK_low {p : Ph} {M : Nat → Prop} {a : Addr} (hM : a.block < p.Low) (hs : ¬ p.Sh (.cell a)) : EvK p M ⟨.cell a, false, false⟩ := by
  refine ⟨fun x hx => ?_, by simp, by simp, by simp⟩
  simp only [Go.ConcR.ofEvent_cell, MemAct.touch?, Option.some.injEq] at hx
  subst hx
  exact .inr ⟨rfl, a, rfl, hs, .inl ⟨hM, rfl⟩⟩

/-- What a worker holds once it has its answer: the group, the sum, its own box. -/
structure TK (p : Ph) (C i : Nat) (w : World) : Prop where
  live : WgLive p.ty p.Wg w
  sum : SumLive p w
  box : w.heap[C]? = some (.cells #[.int .i64 i] 3)
theorem rlT {p : Ph} {M : Nat → Prop} {C i : Nat} (hC : M C) {w w₁ : World} (h : TK p C i w) (r : RK p M w w₁) : TK p C i w₁ := ⟨r.live h.live, r.sum h.sum, (r.own C hC).trans h.box⟩
theorem TK.cell {p : Ph} {C i : Nat} {w : World} (h : TK p C i w) : w.cell? ⟨C, 0, none⟩ = some (.int .i64 i) := by simp [World.cell?, h.box]

def bW : Frame := baseD 57
noncomputable def bot : Frame := { (default : Frame) with fn := Tryz.prog.funcs.size, defers := [], mode := .panicking [goexitEntry] }
noncomputable def bodyW : Code := Tryz.f57.body.getD .skip
noncomputable def ops1W : Array Oper := match bodyW with | .seq _ (.seq (.region _ o _) _) => o | _ => #[]
noncomputable def condW : Code := match bodyW with | .seq _ (.seq _ c) => c | _ => .skip
def callW (Wg hB C S : Nat) : Deferred := { target := .fn (.func 57) #[.pointer (some ⟨Wg, 0, none⟩), .pointer (some ⟨hB, 0, none⟩), .pointer (some ⟨C, 0, none⟩), .pointer (some ⟨S, 0, none⟩)], args := #[] }

theorem quitsW (T : Array Value) : QuitsD Tryz.prog 2 0 (G { bW.at ⟨T, []⟩ [] with mode := .returning } [bot]) := by
  refine QuitsD.ctl (g' := G bot []) rfl (fun w => ?_) ?_
  · simp [G, stepG, unwind, doReturn, results, Frame.at, bW, baseD, bot, Tryz.func57, Tryz.f57, seen, GStep.after, goexitEntry]
  refine QuitsD.ctl (g' := { G bot [] with status := .finished }) rfl (fun w => ?_) ⟨rfl, rfl⟩
  simp [G, stepG, unwind, bot, goexitEntry, Frame.catches]
  rfl

section
variable {p : Ph} {M : Nat → Prop} {C hB i : Nat}

/-- Nothing to add: out, by Done. -/
theorem leaveW (hp : p.P = Tryz.prog) (hty : p.ty = 99) (hC : M C) (T : Array Value) (w : World) (hF : TK p C i w) :
    Wk p i C (.int .i64 i) 0 M 24 (G { bW.at ⟨T, [dcall 58 #[.pointer (some ⟨p.Wg, 0, none⟩)]]⟩ [] with mode := .returning } [bot]) w := by
  have hd := doneK (L := lnk) (p := p) (by rw [hp]; exact wgl) hty (i := i) (v := .int .i64 i) hC (c := { bW.at ⟨T, []⟩ [] with mode := .returning }) (cs := [bot]) (qt := 2) rfl (by rw [hp]; exact quitsW T)
  unfold Wk at hd ⊢
  refine Goes.step rfl (fun _ h₁ => ?_); replace hF := rlT hC hF h₁; clear h₁
  rw [hp, stepG_unwind_enter rfl Tryz.func58 (nm_done lnk) rfl]
  simp only [goes_go]
  refine ⟨dk_idle _, ?_⟩
  have h1 := hd _ hF.live hF.box
  rw [hp] at h1
  simp only [body_done, doneFn, Option.getD_some] at h1
  exact h1

def slotsW (p : Ph) (hB C i : Nat) (fv r : Value) : Array Value := #[.pointer (some ⟨p.Wg, 0, none⟩), .pointer (some ⟨hB, 0, none⟩), .pointer (some ⟨C, 0, none⟩), .pointer (some ⟨p.S, 0, none⟩), fv, .int .i64 i, r, undef, undef, undef]
def dsW (p : Ph) : List Deferred := [dcall 58 #[.pointer (some ⟨p.Wg, 0, none⟩)]]

set_option maxRecDepth 100000 in
/-- Its answer is no. -/
theorem tailNo (hp : p.P = Tryz.prog) (hty : p.ty = 99) (hC : M C) (fv : Value) (w : World) (hF : TK p C i w) :
    Wk p i C (.int .i64 i) 0 M 28 (G (bW.at ⟨slotsW p hB C i fv (.bool false), dsW p⟩ (.inRegion ops1W [] :: [.code condW])) [bot]) w := by
  have hl := leaveW (p := p) (M := M) (C := C) (i := i) hp hty hC
  unfold Wk at hl ⊢
  simp only [slotsW, dsW, ops1W, condW, bodyW, Tryz.f57, Option.getD_some]
  refine Goes.step rfl (fun _ h₁ => ?_); replace hF := rlT hC hF h₁; clear h₁; rw [stepG_region_end]; simp only [goes_go]; refine ⟨dk_idle _, ?_⟩
  refine Goes.step rfl (fun _ h₁ => ?_); replace hF := rlT hC hF h₁; clear h₁; rw [stepG_cond (t := false) rfl]; simp only [goes_go, Bool.false_eq_true, ↓reduceIte]; refine ⟨dk_idle _, ?_⟩
  refine Goes.step rfl (fun _ h₁ => ?_); replace hF := rlT hC hF h₁; clear h₁; rw [stepG_skip]; simp only [goes_go]; refine ⟨dk_idle _, ?_⟩
  refine Goes.step rfl (fun _ h₁ => ?_); replace hF := rlT hC hF h₁; clear h₁; rw [stepG_end]; simp only [goes_go]; refine ⟨dk_idle _, ?_⟩
  exact hl _ _ hF

set_option maxRecDepth 100000 in
/-- Its answer is yes: it adds its bit. -/
theorem tailYes (hp : p.P = Tryz.prog) (hty : p.ty = 99) (_htS : p.tS = 92) (o : p.Ok) (hC : M C) (hCL : p.Low ≤ C) (hi : i < 32) (hbit : p.bit i = 2 ^ i) (fv : Value) (w : World) (hF : TK p C i w) :
    Wk p i C (.int .i64 i) 1 M 40 (G (bW.at ⟨slotsW p hB C i fv (.bool true), dsW p⟩ (.inRegion ops1W [] :: [.code condW])) [bot]) w := by
  have hl := leaveW (p := p) (M := M) (C := C) (i := i) hp hty hC
  have hnS : ¬ p.Sh (.cell ⟨C, 0, none⟩) := fun h => by have := o.low h; simp at this; omega
  unfold Wk at hl ⊢
  rw [hp]
  simp only [hp] at hl
  simp only [slotsW, dsW, ops1W, condW, bodyW, Tryz.f57, Option.getD_some]
  refine Goes.step rfl (fun _ h₁ => ?_); replace hF := rlT hC hF h₁; clear h₁; rw [stepG_region_end]; simp only [goes_go]; refine ⟨dk_idle _, ?_⟩
  refine Goes.step rfl (fun _ h₁ => ?_); replace hF := rlT hC hF h₁; clear h₁; rw [stepG_cond (t := true) rfl]; simp only [goes_go, ↓reduceIte]; refine ⟨dk_idle _, ?_⟩
  refine Goes.step rfl (fun _ h₁ => ?_); replace hF := rlT hC hF h₁; clear h₁; rw [stepG_region]; simp only [goes_go, List.size_toArray, List.length_cons, List.length_nil, Nat.reduceAdd, Nat.zero_add, List.range, List.range.loop]; refine ⟨dk_idle _, ?_⟩
  refine Goes.step rfl (fun _ h₁ => ?_); replace hF := rlT hC hF h₁; clear h₁
  refine goes_oper_k rfl rfl (by k_ne) (fun K hK => ?_)
  have hc := hF.cell
  go_simp
  refine hK _ _ ⟨⟨.refl _, fun e he => ?_⟩, ?_⟩
  · have hm := mem_listed he
    simp [go_sem, *] at hm
    subst hm
    exact evK_own hC hnS
  clear hK K hc
  have hneg : ¬ ((i : Int) < 0) := by omega
  refine Goes.step rfl (fun _ h₁ => ?_); replace hF := rlT hC hF h₁; clear h₁
  refine goes_oper_k rfl rfl (by k_ne) (fun K hK => ?_)
  go_simp
  refine hK _ _ ⟨dk_none (by intro e he; have hm := mem_listed he; simp [go_sem, Op.shift, *] at hm), ?_⟩
  clear hK K
  have hV : IntKind.u32.wrap (1 * 2 ^ min (i : Int).toNat IntKind.u32.bits) = (p.bit i : Int) := by
    have h1 : min (i : Int).toNat IntKind.u32.bits = i := by simp [IntKind.bits]; omega
    have h2 : 2 ^ i < 2 ^ 32 := Nat.pow_lt_pow_right (by omega) hi
    have h3 : ((2 : Int) ^ i) = ((2 ^ i : Nat) : Int) := (Int.natCast_pow 2 i).symm
    rw [IntKind.wrap_u32, h1, Int.one_mul, h3, hbit]
    omega
  rw [hV]
  clear hV hneg hbit
  walk_nrm
  refine Goes.step rfl (fun _ h₁ => ?_); replace hF := rlT hC hF h₁; clear h₁
  refine goes_call rfl rfl (by k_ne) rfl Tryz.func59 (by kernel_rfl) rfl ⟨dk_idle _, ?_⟩
  walk_nrmf Tryz.f59
  refine Goes.step rfl (fun _ h₁ => ?_); replace hF := rlT hC hF h₁; clear h₁; rw [stepG_seq]; simp only [goes_go]; refine ⟨dk_idle _, ?_⟩
  refine Goes.step rfl (fun _ h₁ => ?_); replace hF := rlT hC hF h₁; clear h₁; rw [stepG_region]; simp only [goes_go, List.size_toArray, List.length_cons, List.length_nil, Nat.zero_add, List.range, List.range.loop]; refine ⟨dk_idle _, ?_⟩
  refine Goes.step rfl (fun _ h₁ => ?_); replace hF := rlT hC hF h₁; clear h₁; refine goes_oper_k rfl rfl (by k_ne) (fun K hK => ?_); go_simp; refine hK _ _ ⟨dk_none (by intro e he; have hm := mem_listed he; simp [go_sem, *] at hm), ?_⟩; clear hK K; try w_num
  refine Goes.step rfl (fun _ h₁ => ?_); replace hF := rlT hC hF h₁; clear h₁; rw [stepG_region_end]; simp only [goes_go]; refine ⟨dk_idle _, ?_⟩
  refine Goes.step rfl (fun _ h₁ => ?_); replace hF := rlT hC hF h₁; clear h₁; rw [stepG_seq]; simp only [goes_go]; refine ⟨dk_idle _, ?_⟩
  refine Goes.step rfl (fun _ h₁ => ?_); replace hF := rlT hC hF h₁; clear h₁; rw [stepG_region]; simp only [goes_go, List.size_toArray, List.length_cons, List.length_nil, Nat.reduceAdd, Nat.zero_add, List.range, List.range.loop]; refine ⟨dk_idle _, ?_⟩
  refine Goes.step rfl (fun _ h₁ => ?_); replace hF := rlT hC hF h₁; clear h₁; refine goes_oper_k rfl rfl (by k_ne) (fun K hK => ?_); go_simp; refine hK _ _ ⟨dk_none (by intro e he; have hm := mem_listed he; simp [go_sem, *] at hm), ?_⟩; clear hK K; try w_num
  refine Goes.step rfl (fun _ h₁ => ?_); replace hF := rlT hC hF h₁; clear h₁; refine goes_oper_k rfl rfl (by k_ne) (fun K hK => ?_); go_simp; refine hK _ _ ⟨dk_none (by intro e he; have hm := mem_listed he; simp [go_sem, *] at hm), ?_⟩; clear hK K; try w_num
  refine Goes.step rfl (fun _ h₁ => ?_); replace hF := rlT hC hF h₁; clear h₁; refine goes_oper_k rfl rfl (by k_ne) (fun K hK => ?_); go_simp; refine hK _ _ ⟨dk_none (by intro e he; have hm := mem_listed he; simp [go_sem, *] at hm), ?_⟩; clear hK K; try w_num
  refine Goes.step rfl (fun _ h₁ => ?_); replace hF := rlT hC hF h₁; clear h₁; refine goes_oper_k rfl rfl (by k_ne) (fun K hK => ?_); go_simp; refine hK _ _ ⟨dk_none (by intro e he; have hm := mem_listed he; simp [go_sem, *] at hm), ?_⟩; clear hK K; try w_num
  refine Goes.stop (fun w₂ h₂ => ?_)
  replace hF := rlT hC hF h₂
  clear h₂
  refine ⟨rfl, fun s hs hsum => ?_⟩
  have hcell : w₂.cell? ⟨p.S, 0, none⟩ = some (.int .u32 (s : Int)) := by unfold SumAt at hsum; simp [World.cell?, hsum]
  have hthaw : w₂.frozen? ⟨p.S, 0, none⟩ = false := by unfold SumAt at hsum; simp [World.frozen?, hsum]
  have hwrap : IntKind.u32.wrap ((s : Int) + (p.bit i : Int)) = ((s + p.bit i : Nat) : Int) := by rw [IntKind.wrap_u32]; omega
  have hCS : C ≠ p.S := fun e => by have := o.s; omega
  have has := aside_setCell w₂ (sA p) (.int .u32 ((s + p.bit i : Nat) : Int))
  have hF2 : TK p C i (w₂.setCell (sA p) (.int .u32 ((s + p.bit i : Nat) : Int))) :=
    ⟨let ⟨a, b, h⟩ := hF.live; ⟨a, b, h.of_block (has.block _ o.ne)⟩, ⟨_, hsum.set _⟩, (has.block _ hCS).trans hF.box⟩
  refine ⟨_, (by
    rw [hp]
    exact (stepG_add_atomic rfl rfl (by k_ne) rfl Tryz.func91 (by kernel_rfl) (by kernel_rfl) (by kernel_rfl) .u32 (by kernel_rfl) (ad := ⟨p.S, 0, none⟩) (v := (s : Int)) (d := (p.bit i : Int)) rfl rfl hcell hthaw).trans (by rw [hwrap]; rfl)), 33, ?_⟩
  clear hF hcell hthaw hwrap has hsum
  have hF := hF2
  clear hF2
  unfold Wk
  rw [hp]
  walk_nrm
  refine Goes.step rfl (fun _ h₁ => ?_); replace hF := rlT hC hF h₁; clear h₁; refine goes_oper_k rfl rfl (by k_ne) (fun K hK => ?_); go_simp; refine hK _ _ ⟨dk_none (by intro e he; have hm := mem_listed he; simp [go_sem, *] at hm), ?_⟩; clear hK K; try w_num
  refine Goes.step rfl (fun _ h₁ => ?_); replace hF := rlT hC hF h₁; clear h₁; rw [stepG_region_end]; simp only [goes_go]; refine ⟨dk_idle _, ?_⟩
  refine Goes.step rfl (fun _ h₁ => ?_); replace hF := rlT hC hF h₁; clear h₁; rw [stepG_ret']; simp only [goes_go]; refine ⟨dk_idle _, ?_⟩
  refine Goes.step rfl (fun _ h₁ => ?_); replace hF := rlT hC hF h₁; clear h₁
  refine goes_leave1 rfl rfl Tryz.func59 rfl ⟨dk_idle _, ?_⟩
  walk_nrm
  refine Goes.step rfl (fun _ h₁ => ?_); replace hF := rlT hC hF h₁; clear h₁; rw [stepG_region_end]; simp only [goes_go]; refine ⟨dk_idle _, ?_⟩
  refine Goes.step rfl (fun _ h₁ => ?_); replace hF := rlT hC hF h₁; clear h₁; rw [stepG_end]; simp only [goes_go]; refine ⟨dk_idle _, ?_⟩
  exact goes_le (hl _ _ hF) (by omega)
end
end Go.Proofs.YtnojjmkmkelbgaaGreat

/- The share's goroutines, 2: a worker, from its birth, that asks a function which makes nothing. -/
namespace Go.Proofs.YtnojjmkmkelbgaaGreat
open Go.Conc Go.ConcN Go.RowKit Go.Conc.Lib Go.ConcR.Gen Go.ConcN.Gen
open Go.ConcR (KK wgBlock WgAt stA smA rd wr mk Payload DC0)

theorem termsK (p : Ph) (M : Nat → Prop) : Terms (RK p M) (DK p M) := ⟨RK.tr, fun w => dk_idle w⟩
theorem drawK (p : Ph) (M : Nat → Prop) : LetsDraw (DK p M) := fun w => ⟨⟨rfl, rfl, rfl, id, rfl, fun _ _ => rfl⟩, by simp⟩
theorem ownDrawK {p : Ph} {M : Nat → Prop} (w : World) : RK p M w { w with drawn := w.drawn + 1 } := ⟨fun _ _ _ _ => rfl, fun _ _ => rfl, Nat.le_refl _, id, id⟩

/-- Through a call of a function value. -/
theorem goes_callV {P : Program} {main : Bool} {R : World → World → Prop} {D : World → World → Array Event → Prop} (T : Terms R D) {b : Frame} {a : Act} {k : List Item} {cs : List Frame} {w : World} {ops : Array Oper} {i : Nat} {rest : List Nat} {o : Oper} {f : FuncId} {args : Array Value}
    {nf m : Nat} {Post : Value → World → Prop} {Stop : Goroutine → World → Prop}
    (ho : ops[i]? = some o) (hw : Region.wanted o (yielded ops a.tmps) = true) (hk : b.kind ≠ .early) (hrun : ∀ w, (execOp a.eval o).run P w = .ok (.enter f args) w) (hev : ∀ w, (execOp a.eval o).events P w #[] = #[])
    (hcall : CallsC P main R D f args nf w Post)
    (hnext : ∀ v w', Post v w' → Goes P main R D Stop m (G (b.at (a.put o.dst v) (.inRegion ops rest :: k)) cs) w') :
    Goes P main R D Stop (m + nf + 3) (G (b.at a (.inRegion ops (i :: rest) :: k)) cs) w := by
  obtain ⟨fn, c, hf, hname, hbody, hwp⟩ := hcall
  have hfin : ∀ v, (b.at a (.inRegion ops (i :: rest) :: k)).finish v = b.at (a.put o.dst v) (.inRegion ops rest :: k) := fun v => by rw [Frame.finish_at, ho]; rfl
  have hleave : ∀ (a' : Act) (w' : World) (todo : List Item), (a'.defers = [] ∧ ∃ v, ResultsC P fn a'.tmps v ∧ Post v w') →
      Goes P main R D Stop (m + 1) (G { (base f).at a' todo with mode := .returning } (b.at a (.inRegion ops (i :: rest) :: k) :: cs)) w' := by
    rintro a' w' todo ⟨hd, v, hr, hp⟩
    refine Goes.step rfl fun w₁ h₁ => ?_
    rw [stepG_leave (b := base f) rfl hd hf (hr w₁).1 (hr w₁).2, hfin]
    exact ⟨T.idle _, (hnext v w' hp).rely T.trans h₁⟩
  have hbodyG : Goes P main R D Stop (m + 2 + nf) (G ((base f).at { tmps := args ++ Array.replicate (fn.ntmps - args.size) undef, defers := [] } [.code c]) (b.at a (.inRegion ops (i :: rest) :: k) :: cs)) w := by
    refine hwp (base f) [] _ Stop (m + 2) rfl (by simp [base]) fun e a' w' q => ?_
    cases e with
    | normal => exact Goes.step rfl fun w₁ h₁ => by rw [stepG_end]; exact ⟨T.idle _, (hleave a' w' [] q).rely T.trans h₁⟩
    | ret => exact fun todo => (hleave a' w' todo q).more
    | exit id => exact q.elim
    | goto l => exact q.elim
    | panic ch => exact q.elim
    | outgrown => exact q.elim
  have e : m + nf + 3 = (m + 2 + nf) + 1 := by omega
  rw [e]
  refine Goes.step rfl fun w₁ h₁ => ?_
  rw [stepG_enter ho hw hk (hrun w₁), enter_at _ hf hbody]
  have : listed P b.fn a o w₁ = #[] := by unfold listed; rw [hev w₁]; exact seen_none P _
  rw [this]
  exact ⟨T.idle _, hbodyG.rely T.trans h₁⟩

/-- Into a function value's call. -/
theorem goes_enterV {P : Program} {main : Bool} {R : World → World → Prop} {D : World → World → Array Event → Prop} (T : Terms R D) {b : Frame} {a : Act} {k : List Item} {cs : List Frame} {w : World} {ops : Array Oper} {i : Nat} {rest : List Nat} {o : Oper} {f : FuncId} {args : Array Value}
    {m : Nat} {Stop : Goroutine → World → Prop} {fn : Func} {c : Code}
    (ho : ops[i]? = some o) (hw : Region.wanted o (yielded ops a.tmps) = true) (hk : b.kind ≠ .early) (hrun : ∀ w, (execOp a.eval o).run P w = .ok (.enter f args) w) (hev : ∀ w, (execOp a.eval o).events P w #[] = #[])
    (hf : P.funcs[f]? = some fn) (hbody : fn.body = some c)
    (hnext : Goes P main R D Stop m (G ((base f).at { tmps := args ++ Array.replicate (fn.ntmps - args.size) undef, defers := [] } [.code c]) (b.at a (.inRegion ops (i :: rest) :: k) :: cs)) w) :
    Goes P main R D Stop (m + 1) (G (b.at a (.inRegion ops (i :: rest) :: k)) cs) w := by
  refine Goes.step rfl fun w₁ h₁ => ?_
  rw [stepG_enter ho hw hk (hrun w₁), enter_at _ hf hbody]
  have : listed P b.fn a o w₁ = #[] := by unfold listed; rw [hev w₁]; exact seen_none P _
  rw [this]
  exact ⟨T.idle _, hnext.rely T.trans h₁⟩

/-- What a worker holds from its birth on: besides, what lies low is as it was. -/
structure WKn (p : Ph) (W : World) (C i : Nat) (w : World) : Prop where
  tk : TK p C i w
  low : ∀ b, b < p.Low → b ≠ p.Wg → b ≠ p.S → w.heap[b]? = W.heap[b]?
theorem rlW {p : Ph} {W : World} {M : Nat → Prop} {C i : Nat} (hC : M C) {w w₁ : World} (h : WKn p W C i w) (r : RK p M w w₁) : WKn p W C i w₁ := ⟨rlT hC h.tk r, fun b h1 h2 h3 => (r.low b h1 h2 h3).trans (h.low b h1 h2 h3)⟩
/-- A place that lies low. -/
structure LowA (p : Ph) (a : Addr) : Prop where
  lt : a.block < p.Low
  sh : ¬ p.Sh (.cell a)
theorem LowA.wg {p : Ph} {a : Addr} (h : LowA p a) : a.block ≠ p.Wg := fun e => h.sh (.inr (.inl ⟨a, rfl, e⟩))
theorem LowA.s {p : Ph} {a : Addr} (h : LowA p a) : a.block ≠ p.S := fun e => h.sh (.inr (.inr ⟨a, rfl, e⟩))
theorem WKn.cell {p : Ph} {W : World} {C i : Nat} {w : World} (h : WKn p W C i w) {a : Addr} (ha : LowA p a) : w.cell? a = W.cell? a := World.cell?_of_block (h.low _ ha.lt ha.wg ha.s)

theorem born_W (Wg hB C S : Nat) (w : World) : stepG Tryz.prog false (born Tryz.prog (callW Wg hB C S)) w =
    .go (G (bW.at ⟨#[.pointer (some ⟨Wg, 0, none⟩), .pointer (some ⟨hB, 0, none⟩), .pointer (some ⟨C, 0, none⟩), .pointer (some ⟨S, 0, none⟩), undef, undef, undef, undef, undef, undef], []⟩ [.code bodyW]) [bot]) w #[] := by
  simp [born, callW, stepG, unwind, callDeferred, invoke, callFunc, Tryz.func57, Tryz.f57, seen, GStep.after, G, Frame.enter, Frame.at, bW, baseD, bot, bodyW]

section
variable {p : Ph} {W : World} {M : Nat → Prop} {C hB i : Nat}
set_option maxRecDepth 100000 in
/-- To its answer. -/
theorem askW (_hp : p.P = Tryz.prog) (o : p.Ok) (hC : M C) (hCL : p.Low ≤ C) (hhB : LowA p ⟨hB, 0, none⟩) {f : FuncId} {bd cap : Array Value} (hfv : W.cell? ⟨hB, 0, none⟩ = some (.func (.func f) bd cap)) {fn : Func} (hf : Tryz.prog.funcs[f]? = some fn) (hn : (fn.name == "runtime.NumGoroutine") = false) (hb : fn.body.isNone = false)
    {nf m : Nat} {r : Bool} {Stop : Goroutine → World → Prop}
    (hcal : ∀ w, WKn p W C i w → CallsC Tryz.prog false (RK p M) (DK p M) f (bd ++ #[.int .i64 i] ++ cap) nf w fun v w' => v = .bool r ∧ WKn p W C i w')
    (hnext : ∀ w, WKn p W C i w → Goes Tryz.prog false (RK p M) (DK p M) Stop m (G (bW.at ⟨slotsW p hB C i (.func (.func f) bd cap) (.bool r), dsW p⟩ (.inRegion ops1W [] :: [.code condW])) [bot]) w)
    (w : World) (hF : WKn p W C i w) : Goes Tryz.prog false (RK p M) (DK p M) Stop (m + nf + 3 + 9) (born Tryz.prog (callW p.Wg hB C p.S)) w := by
  have hnS : ¬ p.Sh (.cell ⟨C, 0, none⟩) := fun h => by have := o.low h; simp at this; omega
  have hn' : ¬ fn.name = "runtime.NumGoroutine" := by simpa using hn
  have hb' : ¬ fn.body = none := by cases hx : fn.body <;> simp_all
  refine Goes.step rfl (fun _ h₁ => ?_); replace hF := rlW hC hF h₁; clear h₁
  rw [born_W]
  refine ⟨dk_idle _, ?_⟩
  simp only [slotsW, dsW, ops1W, condW, bodyW, Tryz.f57, Option.getD_some] at hnext ⊢
  refine Goes.step rfl (fun _ h₁ => ?_); replace hF := rlW hC hF h₁; clear h₁; rw [stepG_seq]; simp only [goes_go]; refine ⟨dk_idle _, ?_⟩
  refine Goes.step rfl (fun _ h₁ => ?_); replace hF := rlW hC hF h₁; clear h₁; rw [stepG_region]; simp only [goes_go, List.size_toArray, List.length_cons, List.length_nil, Nat.zero_add, List.range, List.range.loop]; refine ⟨dk_idle _, ?_⟩
  refine Goes.step rfl (fun _ h₁ => ?_); replace hF := rlW hC hF h₁; clear h₁
  rw [stepG_defer rfl rfl (by k_ne) rfl]
  simp only [goes_go]
  refine ⟨dk_idle _, ?_⟩
  walk_nrm
  refine Goes.step rfl (fun _ h₁ => ?_); replace hF := rlW hC hF h₁; clear h₁; rw [stepG_region_end]; simp only [goes_go]; refine ⟨dk_idle _, ?_⟩
  refine Goes.step rfl (fun _ h₁ => ?_); replace hF := rlW hC hF h₁; clear h₁; rw [stepG_seq]; simp only [goes_go]; refine ⟨dk_idle _, ?_⟩
  refine Goes.step rfl (fun _ h₁ => ?_); replace hF := rlW hC hF h₁; clear h₁; rw [stepG_region]; simp only [goes_go, List.size_toArray, List.length_cons, List.length_nil, Nat.reduceAdd, Nat.zero_add, List.range, List.range.loop]; refine ⟨dk_idle _, ?_⟩
  refine Goes.step rfl (fun _ h₁ => ?_); replace hF := rlW hC hF h₁; clear h₁
  refine goes_oper_k rfl rfl (by k_ne) (fun K hK => ?_)
  have hc := (hF.cell hhB).trans hfv
  go_simp
  refine hK _ _ ⟨⟨.refl _, fun e he => ?_⟩, ?_⟩
  · have hm := mem_listed he
    simp [go_sem, *] at hm
    subst hm
    exact evK_low hhB.lt hhB.sh
  clear hK K hc
  refine Goes.step rfl (fun _ h₁ => ?_); replace hF := rlW hC hF h₁; clear h₁
  refine goes_oper_k rfl rfl (by k_ne) (fun K hK => ?_)
  have hc := hF.tk.cell
  go_simp
  refine hK _ _ ⟨⟨.refl _, fun e he => ?_⟩, ?_⟩
  · have hm := mem_listed he
    simp [go_sem, *] at hm
    subst hm
    exact evK_own hC hnS
  clear hK K hc
  try walk_nrm
  refine goes_callV (termsK p M) rfl rfl (by k_ne) (fun w => ?_) (fun w => ?_) (hcal _ hF) fun v w' hv => ?_
  · unfold execOp
    simp [resolve, Deferred.ofValue, invoke, callFunc, Act.eval, hf, hn', hb']
  · unfold execOp
    simp [resolve, Deferred.ofValue, invoke, callFunc, Act.eval, hf, hn', hb']
  · obtain ⟨rfl, hw'⟩ := hv
    exact hnext _ hw'
end
end Go.Proofs.YtnojjmkmkelbgaaGreat
