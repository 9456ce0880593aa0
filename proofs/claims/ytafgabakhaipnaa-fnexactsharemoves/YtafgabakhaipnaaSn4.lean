/- The share's goroutines, 4: the starter. -/
import Derived.Test.YtafgabakhaipnaaSn2
namespace Go.Proofs.Ytafgabakhaipnaa
open Go.Conc Go.ConcN Go.RowKit Go.Conc.Lib Go.ConcR.Gen Go.ConcN.Gen
open Go.ConcR (KK wgBlock WgAt stA smA rd wr mk Payload DC0)

/-- What the starter holds. -/
structure SK (p : Ph) (W w : World) : Prop where
  tape : w.tape = W.tape
  os : w.os = W.os
  output : w.output = W.output
  nv : NV w
  size : p.Low ≤ w.heap.size
  low : ∀ b, b < p.Low → b ≠ p.Wg → b ≠ p.S → w.heap[b]? = W.heap[b]?
  sum : SumLive p w
theorem SK.r0 {p : Ph} {W : World} {M : Nat → Prop} : ∀ w w', R0 p M w w' → SK p W w → SK p W w' := fun _ _ r h =>
  ⟨r.tape.trans h.tape, r.os.trans h.os, r.output.trans h.output, r.nv h.nv, Nat.le_trans h.size r.rk.size, fun b h1 h2 h3 => (r.rk.low b h1 h2 h3).trans (h.low b h1 h2 h3), r.rk.sum h.sum⟩
theorem SK.turn {p : Ph} {W : World} {Z : Nat → Prop} {w w' : World} (t : Turn p Z w w') (hZ : ∀ b, Z b → b = p.Wg ∨ b = p.S ∨ p.Low ≤ b) (h : SK p W w) : SK p W w' :=
  SK.r0 (M := Mt) _ _ (t.r0 h.size hZ (fun _ hb => hb.elim)) h
/-- .. with this round's box. -/
structure SB (p : Ph) (W : World) (C j : Nat) (w : World) : Prop where
  sk : SK p W w
  lo : p.Low ≤ C
  box : w.heap[C]? = some (.cells #[.int .i64 j] 3)
theorem SB.r0 {p : Ph} {W : World} {C j : Nat} : ∀ w w', R0 p (One C) w w' → SB p W C j w → SB p W C j w' := fun _ _ r h => ⟨SK.r0 _ _ r h.sk, h.lo, (r.rk.own C rfl).trans h.box⟩
theorem SK.wg {p : Ph} {W : World} (o : p.Ok) (w : World) (a : Addr) (v : Value) (ha : a.block = p.Wg) (hl : WgLive p.ty p.Wg (w.setCell a v)) (h : SK p W w) : SK p W (w.setCell a v) :=
  h.turn (Turn.wg (by have := aside_setCell w a v; rwa [ha] at this) hl o.ne) (fun b hb => .inl hb)

theorem nv_set {w : World} (h : NV w) (a : Addr) (v : Value) : NV (w.setCell a v) := by
  intro b x t hx
  simp only [World.setCell, Array.getElem?_modify] at hx
  split at hx
  · obtain ⟨ob, ho, he⟩ := Option.map_eq_some_iff.1 hx
    cases ob <;> simp at he
    exact h _ _ _ ho
  · exact h b x t hx
theorem SK.set {p : Ph} {W : World} (o : p.Ok) (w : World) (a : Addr) (v : Value) (ha : a.block = p.Wg) (h : SK p W w) : SK p W (w.setCell a v) := by
  have has := aside_setCell w a v
  rw [ha] at has
  exact ⟨h.tape, h.os, h.output, nv_set h.nv a v, by rw [has.size]; exact h.size, fun b h1 h2 h3 => (has.block b h2).trans (h.low b h1 h2 h3), let ⟨s, hs⟩ := h.sum; ⟨s, (has.block _ (Ne.symm o.ne)).trans hs⟩⟩
theorem SB.set {p : Ph} {W : World} {C j : Nat} (o : p.Ok) (w : World) (v : Value) (h : SB p W C j w) : SB p W C j (w.setCell (stA p.Wg) v) :=
  ⟨h.sk.set o w _ v rfl, h.lo, ((aside_setCell w (stA p.Wg) v).block C (fun e => by have := h.lo; have := o.wg; simp only [stA] at e; omega)).trans h.box⟩

def bN : Frame := base 38
noncomputable def bodyN : Code := Try.f38.body.getD .skip
/-- The loop's text, and what comes behind it. -/
noncomputable def LN : Code := match bodyN with | .seq _ (.seq _ (.seq _ (.seq (.seq _ (.block _ (.loop c))) _))) => c | _ => .skip
noncomputable def RN : Code := match bodyN with | .seq _ (.seq _ (.seq _ (.seq _ r))) => r | _ => .skip
noncomputable def ops9N : Array Oper := match RN with | .seq (.region _ o _) _ => o | _ => #[]
noncomputable def R10N : Code := match RN with | .seq _ r => r | _ => .skip
/-- At the loop's head, j workers being started. -/
def HeadN (p : Ph) (hB j : Nat) (cs : List Frame) (g : Goroutine) : Prop :=
  ∃ T : Array Value, g = G (bN.at ⟨T, []⟩ [.code LN, .inLoop LN, .inBlock 0, .code RN]) cs ∧ T.size = 17 ∧ T[3]? = some (.pointer (some ⟨hB, 0, none⟩)) ∧ T[5]? = some (.pointer (some ⟨p.S, 0, none⟩)) ∧ T[6]? = some (.pointer (some ⟨p.Wg, 0, none⟩)) ∧ T[8]? = some (.int .i64 p.n) ∧ T[9]? = some (.int .i64 j)
theorem array17 (T : Array Value) (h : T.size = 17) : ∃ v0 v1 v2 v3 v4 v5 v6 v7 v8 v9 v10 v11 v12 v13 v14 v15 v16 : Value, T = #[v0, v1, v2, v3, v4, v5, v6, v7, v8, v9, v10, v11, v12, v13, v14, v15, v16] := by
  obtain ⟨l⟩ := T
  simp only [List.size_toArray] at h
  match l, h with
  | [v0, v1, v2, v3, v4, v5, v6, v7, v8, v9, v10, v11, v12, v13, v14, v15, v16], _ => exact ⟨_, _, _, _, _, _, _, _, _, _, _, _, _, _, _, _, _, rfl⟩
/-- The frame in Wait's back. -/
noncomputable def cN (T : Array Value) : Frame := bN.at ⟨T, []⟩ (.inRegion ops9N [0] :: [.code R10N])
def AnN (p : Ph) (W : World) (hB : Nat) (cs : List Frame) (g : Goroutine) (w : World) : Prop := ∃ T : Array Value, T.size = 17 ∧ T[5]? = some (.pointer (some ⟨p.S, 0, none⟩)) ∧ T[3]? = some (.pointer (some ⟨hB, 0, none⟩)) ∧ AnS lnk p (SK p W) (cN T) cs g w
/-- The next stop, r workers being still to be started. -/
def StopN (p : Ph) (An : Goroutine → World → Prop) : Nat → Goroutine → World → Prop
  | 0 => AtMk p Mt .disable An
  | r + 1 => L7 p r (Sp p An r)
theorem sp_iff (p : Ph) (An : Goroutine → World → Prop) (r : Nat) (g : Goroutine) (w : World) : Sp p An r g w ↔ ∃ m, Goes p.P true (R0 p Mt) DC0 (StopN p An r) m g w := by cases r <;> exact Iff.rfl

/-- A stop that says more. -/
theorem AtMk.mono {p : Ph} {M : Nat → Prop} {k : Mark} {S S' : Goroutine → World → Prop} (h : ∀ g w, S g w → S' g w) {g : Goroutine} {w : World} (hh : AtMk p M k S g w) : AtMk p M k S' g w :=
  let ⟨h1, g', h2, m, h3⟩ := hh; ⟨h1, g', h2, m, goes_mono (fun _ _ r => r) (fun _ _ _ d => d) h h3⟩

theorem loudN : (Try.prog.funcs[bN.fn]?).any (·.norace) = false := by kernel_rfl
theorem seenN (a : Addr) (wr : Bool) : seen Try.prog bN.fn #[⟨.cell a, wr, false⟩] = #[⟨.cell a, wr, false⟩] := by
  rw [seen_def, loudN]; simp [seenStep]
theorem goes_eq {s : GStep} {g0 : Goroutine} {w0 : World} {es0 : Array Event} (h : s.goes fun g w es => g = g0 ∧ w = w0 ∧ es = es0) : s = .go g0 w0 es0 := by
  cases s with
  | go g w es => obtain ⟨rfl, rfl, rfl⟩ := h; rfl
  | _ => exact h.elim
theorem grownS_alloc (w : World) (c : Array Value) (e : TypeId) : Grown w (w.alloc (.cells c e)) := by
  have hb : ∀ b, b < w.heap.size → (w.alloc (.cells c e)).heap[b]? = w.heap[b]? := fun b hb => Below.heap_alloc w _ b hb
  have hs : (w.alloc (.cells c e)).heap.size = w.heap.size + 1 := World.size_alloc w _
  have hx : (w.alloc (.cells c e)).heap[w.heap.size]? = some (.cells c e) := heap_alloc_new w _
  refine ⟨rfl, rfl, rfl, fun h b a t hh => ?_, hs, hb⟩
  rcases Nat.lt_trichotomy b w.heap.size with h1 | rfl | h1
  · rw [hb b h1] at hh; exact h b a t hh
  · rw [hx] at hh; cases hh
  · rw [Array.getElem?_eq_none (by omega)] at hh; cases hh

section
variable {p : Ph} {W : World} {hB : Nat} {cs : List Frame}
theorem flN {w w₁ : World} {M : Nat → Prop} (h : SK p W w ∧ WgLive p.ty p.Wg w) (r : R0 p M w w₁) : SK p W w₁ ∧ WgLive p.ty p.Wg w₁ := ⟨SK.r0 _ _ r h.1, r.rk.live h.2⟩
theorem flB {w w₁ : World} {C j : Nat} (h : SB p W C j w ∧ WgLive p.ty p.Wg w) (r : R0 p (One C) w w₁) : SB p W C j w₁ ∧ WgLive p.ty p.Wg w₁ := ⟨SB.r0 _ _ r h.1, r.rk.live h.2⟩

set_option maxRecDepth 100000 in
set_option maxHeartbeats 4000000 in
theorem spawnsN (hp : p.P = Try.prog) (o : p.Ok) (hn : p.n ≤ 100)
    (HW : ∀ j, j < p.n → ∀ C w, p.Low ≤ C → WKn p W C j w → ∃ e m, e ≤ 2 ∧ (e = 0 → p.bit j = 0) ∧ Wk p j C (.int .i64 j) e (One C) m (born Try.prog (callW p.Wg hB C p.S)) w) :
    ∀ (r j : Nat), j + r = p.n → ∃ f, ∀ (g : Goroutine) (w : World), HeadN p hB j cs g → SK p W w ∧ WgLive p.ty p.Wg w → Goes Try.prog true (R0 p Mt) DC0 (StopN p (AnN p W hB cs) r) f g w := by
  intro r
  induction r with
  | zero =>
    intro j hj
    refine ⟨9 + 1 + 3, ?_⟩
    rintro g w ⟨T, rfl, hT, t3, t5, t6, t8, t9⟩ hF
    obtain ⟨v0, v1, v2, v3, v4, v5, v6, v7, v8, v9, v10, v11, v12, v13, v14, v15, v16, rfl⟩ := array17 T hT
    simp only [List.getElem?_toArray, List.getElem?_cons_succ, List.getElem?_cons_zero, Option.some.injEq] at t3 t5 t6 t8 t9
    subst t3 t5 t6 t8 t9
    have hA := fun (a₀ : Act) (ops₀ : Array Oper) (i₀ : Nat) (rest₀ : List Nat) (k₀ : List Item) => intoWait (L := lnk) (p := p) (F := SK p W) (b₀ := bN) (a₀ := a₀) (ops₀ := ops₀) (i₀ := i₀) (rest₀ := rest₀) (k₀ := k₀) (cs := cs) (by rw [hp]; exact wgl) SK.r0
    simp only [hp] at hA
    simp only [StopN, LN, RN, bodyN, body_wait, Try.f38, waitFn, Option.getD_some] at hA ⊢
    obtain rfl : j = p.n := by omega
    have hnl : ¬ ((p.n : Int) < (p.n : Int)) := by omega
    u_c stepG_seq flN hF
    u_reg flN hF
    u_op flN hF
    u_c stepG_region_end flN hF
    u_c stepG_seq flN hF
    u_cond false flN hF
    u_exit flN hF
    u_c stepG_seq flN hF
    u_reg flN hF
    u_in flN hF
    refine goes_call rfl rfl (by k_ne) rfl Try.func49 (nm_wait lnk) rfl ⟨by u_nil, ?_⟩
    walk_nrmf Try.f49
    refine goes_mono (fun _ _ r => r) (fun _ _ _ d => d) (fun _ _ y => AtMk.mono (fun _ _ z => ⟨_, ?_, ?_, ?_, z⟩) y) (hA _ _ _ _ _ _ hF)
    · simp
    · simp
    · simp
  | succ r ih =>
    intro j hj
    obtain ⟨f₁, h₁⟩ := ih (j + 1) (by omega)
    refine ⟨12, ?_⟩
    rintro g w ⟨T, rfl, hT, t3, t5, t6, t8, t9⟩ hF
    obtain ⟨v0, v1, v2, v3, v4, v5, v6, v7, v8, v9, v10, v11, v12, v13, v14, v15, v16, rfl⟩ := array17 T hT
    simp only [List.getElem?_toArray, List.getElem?_cons_succ, List.getElem?_cons_zero, Option.some.injEq] at t3 t5 t6 t8 t9
    subst t3 t5 t6 t8 t9
    have ej : p.n - (r + 1) = j := by omega
    have hlt : (j : Int) < (p.n : Int) := by omega
    simp only [StopN, LN, RN, bodyN, Try.f38, Option.getD_some]
    u_c stepG_seq flN hF
    u_reg flN hF
    u_op flN hF
    u_c stepG_region_end flN hF
    u_c stepG_seq flN hF
    u_cond true flN hF
    u_c stepG_skip flN hF
    u_c stepG_seq flN hF
    u_c stepG_block flN hF
    u_c stepG_seq flN hF
    u_reg flN hF
    u_op flN hF
    refine Goes.stop (fun w₁ r₁ => ?_)
    replace hF := flN hF r₁
    clear r₁
    refine ⟨rfl, _, _, by rw [hp]; exact goes_eq (by
      refine goes_oper_k rfl rfl (by k_ne) (fun K hK => ?_)
      go_simp
      exact hK _ _ ⟨rfl, rfl, listed_nil (by simp [go_sem])⟩), grownS_alloc _ _ _, 0, ?_⟩
    have hgr := grownS_alloc w₁ #[.int .i64 0] 3
    have hnew : (w₁.alloc (.cells #[.int .i64 0] 3)).heap[w₁.heap.size]? = some (.cells #[.int .i64 0] 3) := heap_alloc_new w₁ _
    have hlo : p.Low ≤ w₁.heap.size := hF.1.size
    have hW : WgLive p.ty p.Wg (w₁.alloc (.cells #[.int .i64 0] 3)) := (Turn.gr hgr o hF.1.size).live hF.2
    have hK : SK p W (w₁.alloc (.cells #[.int .i64 0] 3)) := hF.1.turn (Turn.gr hgr o hF.1.size) (fun _ hb => hb.elim)
    clear hF hgr
    generalize w₁.alloc (.cells #[.int .i64 0] 3) = w₂ at hnew hW hK ⊢
    generalize w₁.heap.size = C at hnew hlo ⊢
    refine Goes.stop (fun w₃ r₃ => ?_)
    have hbx : w₃.heap[C]? = some (.cells #[.int .i64 0] 3) := (r₃.rk.own C rfl).trans hnew
    replace hK := SK.r0 _ _ r₃ hK
    replace hW := r₃.rk.live hW
    clear r₃ hnew
    have hcell : w₃.cell? ⟨C, 0, none⟩ = some (.int .i64 0) := by simp [World.cell?, hbx]
    have hthaw : w₃.frozen? ⟨C, 0, none⟩ = false := by simp [World.frozen?, hbx]
    have hnS : ¬ p.Sh (.cell ⟨C, 0, none⟩) := fun h => by have := o.low h; simp at this; omega
    have has := aside_setCell w₃ ⟨C, 0, none⟩ (.int .i64 j)
    have hbx' : (w₃.setCell ⟨C, 0, none⟩ (.int .i64 j)).heap[C]? = some (.cells #[.int .i64 j] 3) := by
      rw [setCell_eq_setRow w₃ C 0 _ 3 (0, 0) _ hbx, setRow_heap w₃ C _ _ 3 _ hbx]; simp
    have hown : Owns (One C) w₃ (w₃.setCell ⟨C, 0, none⟩ (.int .i64 j)) := ⟨has.tape, has.os, has.output, fun h => nv_set h _ _, has.size, fun b hb => has.block b hb⟩
    have hCW : ¬ One C p.Wg := fun e => by have : p.Wg = C := e; have := o.wg; omega
    have hCS : ¬ One C p.S := fun e => by have : p.S = C := e; have := o.s; omega
    refine ⟨rfl, _, w₃.setCell ⟨C, 0, none⟩ (.int .i64 j), #[⟨.cell ⟨C, 0, none⟩, true, false⟩], by rw [hp]; exact goes_eq (by
      refine goes_oper_k rfl rfl (by k_ne) (fun K hK => ?_)
      go_simp
      refine hK _ _ ⟨rfl, rfl, ?_⟩
      unfold listed
      simp [go_sem, *]
      exact seenN _ _), ⟨hown, fun e he => by simp at he; subst he; exact evK_own rfl hnS⟩, 20, ?_⟩
    have hF : SB p W C j (w₃.setCell ⟨C, 0, none⟩ (.int .i64 j)) ∧ WgLive p.ty p.Wg (w₃.setCell ⟨C, 0, none⟩ (.int .i64 j)) :=
      ⟨⟨hK.turn (Turn.ow hown hCW hCS) (fun b hb => .inr (.inr (by have : b = C := hb; omega))), hlo, hbx'⟩, (Turn.ow hown hCW hCS).live hW⟩
    generalize w₃.setCell ⟨C, 0, none⟩ (.int .i64 j) = w₄ at hF
    clear hbx hK hW hcell hthaw has hbx' hown
    rw [hp]
    try walk_nrm
    u_c stepG_region_end flB hF
    u_c stepG_seq flB hF
    u_reg flB hF
    u_in flB hF
    refine goes_call rfl rfl (by k_ne) rfl Try.func45 (nm_add lnk) rfl ⟨by u_nil, ?_⟩
    walk_nrmf Try.f45
    have hA := fun (a₀ : Act) (ops₀ : Array Oper) (i₀ : Nat) (rest₀ : List Nat) (k₀ : List Item) (mT : Nat) => addS (L := lnk) (p := p) (M := One C) (F := SB p W C j) (Next := AtGo p (One C) (p.n - (r + 1)) (Sp p (AnN p W hB cs) r)) (b₀ := bN) (a₀ := a₀) (ops₀ := ops₀) (i₀ := i₀) (rest₀ := rest₀) (k₀ := k₀) (cs := cs) (mT := mT) (by rw [hp]; exact wgl) SB.r0 (fun w v h => h.set o w v)
    simp only [hp, body_add, addFn, Option.getD_some] at hA
    refine goes_le (hA _ _ _ _ _ 6 (fun w h1 h2 => ?_) _ hF) (by omega)
    clear hA hF
    have hF := And.intro h1 h2
    clear h1 h2
    walk_nrm
    u_c stepG_region_end flB hF
    u_reg flB hF
    u_in flB hF
    refine goes_oper_k rfl rfl (by k_ne) (fun K hK => ?_)
    go_simp
    refine hK _ _ ⟨by u_none; intro e he; have hm := mem_listed he; simp [go_sem, Instr.makeFunc] at hm, ?_⟩
    clear hK K
    refine Goes.stop (fun w₅ r₅ => ?_)
    replace hF := flB hF r₅
    clear r₅
    obtain ⟨e, m, he2, he0, hwk⟩ := HW j (by omega) C w₅ hlo ⟨⟨hF.2, hF.1.sk.sum, hF.1.box⟩, hF.1.sk.low⟩
    try walk_nrm
    refine ⟨rfl, _, _, by rw [hp]; exact (stepG_spawn (d := callW p.Wg hB C p.S) (w' := w₅) (f := .func 46) (c := #[.pointer (some ⟨p.Wg, 0, none⟩), .pointer (some ⟨hB, 0, none⟩), .pointer (some ⟨C, 0, none⟩), .pointer (some ⟨p.S, 0, none⟩)]) rfl rfl (by k_ne) (by simp [go_sem, callW, Deferred.ofValue]) rfl).trans (by rw [listed_nil (by simp [go_sem, Deferred.ofValue])]),
      ⟨C, .int .i64 j, e, m, rfl, he2, by rw [ej]; exact he0, by rw [ej]; exact hwk⟩, ?_⟩
    have hF' : SK p W w₅ ∧ WgLive p.ty p.Wg w₅ := ⟨hF.1.sk, hF.2⟩
    clear hF hwk
    have hF := hF'
    clear hF'
    refine (sp_iff _ _ _ _ _).2 ⟨f₁ + 8, ?_⟩
    rw [hp]
    walk_nrm
    u_c stepG_region_end flN hF
    u_c stepG_inBlock flN hF
    u_reg flN hF
    u_op flN hF
    u_op flN hF
    u_c stepG_region_end flN hF
    u_c stepG_inLoop flN hF
    have hw1 : IntKind.i64.wrap ((j : Int) + 1) = ((j + 1 : Nat) : Int) := by rw [IntKind.wrap_i64]; omega
    rw [hw1]
    exact goes_le (h₁ _ _ ⟨_, rfl, by simp, by simp, by simp, by simp, by simp, by simp⟩ hF) (by omega)
end
end Go.Proofs.Ytafgabakhaipnaa
