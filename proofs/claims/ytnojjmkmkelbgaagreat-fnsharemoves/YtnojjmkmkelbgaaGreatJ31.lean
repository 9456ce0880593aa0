/- The share's goroutines, 4: the starter. -/
import Derived.Test.YtnojjmkmkelbgaaGreatJ21
import Derived.Test.YtnojjmkmkelbgaaGreatJ26
namespace Go.Proofs.YtnojjmkmkelbgaaGreat
open Go.Conc Go.ConcN Go.RowKit Go.Conc.Lib Go.ConcR.Gen Go.ConcN.Gen
open Go.ConcR (KK wgBlock WgAt stA smA rd wr mk Payload DC0)

/-- What the starter holds. -/
structure SK (p : Ph) (W w : World) : Prop where
  tape : w.tape = W.tape
  os : w.os = W.os
  output : w.output = W.output
  nv : NV w
  size : p.Low ≤ w.heap.size
  low : ∀ b, b < p.Low → b ≠ p.Wg → b ≠ p.S → w.heap[b]? = W.heap[b]?
  sum : SumLive p w
theorem SK.r0 {p : Ph} {W : World} {M : Nat → Prop} : ∀ w w', R0 p M w w' → SK p W w → SK p W w' := fun _ _ r h =>
  ⟨r.tape.trans h.tape, r.os.trans h.os, r.output.trans h.output, r.nv h.nv, Nat.le_trans h.size r.rk.size, fun b h1 h2 h3 => (r.rk.low b h1 h2 h3).trans (h.low b h1 h2 h3), r.rk.sum h.sum⟩
theorem SK.turn {p : Ph} {W : World} {Z : Nat → Prop} {w w' : World} (t : Turn p Z w w') (hZ : ∀ b, Z b → b = p.Wg ∨ b = p.S ∨ p.Low ≤ b) (h : SK p W w) : SK p W w' :=
  SK.r0 (M := Mt) _ _ (t.r0 h.size hZ (fun _ hb => hb.elim)) h
/-- .. with this round's box. -/
structure SB (p : Ph) (W : World) (C j : Nat) (w : World) : Prop where
  sk : SK p W w
  lo : p.Low ≤ C
  box : w.heap[C]? = some (.cells #[.int .i64 j] 3)
theorem SB.r0 {p : Ph} {W : World} {C j : Nat} : ∀ w w', R0 p (One C) w w' → SB p W C j w → SB p W C j w' := fun _ _ r h => ⟨SK.r0 _ _ r h.sk, h.lo, (r.rk.own C rfl).trans h.box⟩
theorem SK.wg {p : Ph} {W : World} (o : p.Ok) (w : World) (a : Addr) (v : Value) (ha : a.block = p.Wg) (hl : WgLive p.ty p.Wg (w.setCell a v)) (h : SK p W w) : SK p W (w.setCell a v) :=
  h.turn (Turn.wg (by have := aside_setCell w a v; rwa [ha] at this) hl o.ne) (fun b hb => .inl hb)

theorem nv_set {w : World} (h : NV w) (a : Addr) (v : Value) : NV (w.setCell a v) := by
  intro b x t hx
  simp only [World.setCell, Array.getElem?_modify] at hx
  split at hx
  · obtain ⟨ob, ho, he⟩ := Option.map_eq_some_iff.1 hx
    cases ob <;> simp at he
    exact h _ _ _ ho
  · exact h b x t hx
theorem SK.set {p : Ph} {W : World} (o : p.Ok) (w : World) (a : Addr) (v : Value) (ha : a.block = p.Wg) (h : SK p W w) : SK p W (w.setCell a v) := by
  have has := aside_setCell w a v
  rw [ha] at has
  exact ⟨h.tape, h.os, h.output, nv_set h.nv a v, by rw [has.size]; exact h.size, fun b h1 h2 h3 => (has.block b h2).trans (h.low b h1 h2 h3), let ⟨s, hs⟩ := h.sum; ⟨s, (has.block _ (Ne.symm o.ne)).trans hs⟩⟩
theorem SB.set {p : Ph} {W : World} {C j : Nat} (o : p.Ok) (w : World) (v : Value) (h : SB p W C j w) : SB p W C j (w.setCell (stA p.Wg) v) :=
  ⟨h.sk.set o w _ v rfl, h.lo, ((aside_setCell w (stA p.Wg) v).block C (fun e => by have := h.lo; have := o.wg; simp only [stA] at e; omega)).trans h.box⟩

def bN : Frame := base 40
noncomputable def bodyN : Code := Tryz.f40.body.getD .skip
/-- The loop's text, and what comes behind it. -/
noncomputable def LN : Code := match bodyN with | .seq _ (.seq _ (.seq _ (.seq (.seq _ (.block _ (.loop c))) _))) => c | _ => .skip
noncomputable def RN : Code := match bodyN with | .seq _ (.seq _ (.seq _ (.seq _ r))) => r | _ => .skip
noncomputable def ops9N : Array Oper := match RN with | .seq (.region _ o _) _ => o | _ => #[]
noncomputable def R10N : Code := match RN with | .seq _ r => r | _ => .skip
/-- At the loop's head, j workers being started. -/
def HeadN (p : Ph) (hB j : Nat) (cs : List Frame) (g : Goroutine) : Prop :=
  ∃ T : Array Value, g = G (bN.at ⟨T, []⟩ [.code LN, .inLoop LN, .inBlock 0, .code RN]) cs ∧ T.size = 17 ∧ T[3]? = some (.pointer (some ⟨hB, 0, none⟩)) ∧ T[5]? = some (.pointer (some ⟨p.S, 0, none⟩)) ∧ T[6]? = some (.pointer (some ⟨p.Wg, 0, none⟩)) ∧ T[8]? = some (.int .i64 p.n) ∧ T[9]? = some (.int .i64 j)
theorem array17 (T : Array Value) (h : T.size = 17) : ∃ v0 v1 v2 v3 v4 v5 v6 v7 v8 v9 v10 v11 v12 v13 v14 v15 v16 : Value, T = #[v0, v1, v2, v3, v4, v5, v6, v7, v8, v9, v10, v11, v12, v13, v14, v15, v16] := by
  obtain ⟨l⟩ := T
  simp only [List.size_toArray] at h
  match l, h with
  | [v0, v1, v2, v3, v4, v5, v6, v7, v8, v9, v10, v11, v12, v13, v14, v15, v16], _ => exact ⟨_, _, _, _, _, _, _, _, _, _, _, _, _, _, _, _, _, rfl⟩
/-- The frame in Wait's back. -/
noncomputable def cN (T : Array Value) : Frame := bN.at ⟨T, []⟩ (.inRegion ops9N [0] :: [.code R10N])
def AnN (p : Ph) (W : World) (hB : Nat) (cs : List Frame) (g : Goroutine) (w : World) : Prop := ∃ T : Array Value, T.size = 17 ∧ T[5]? = some (.pointer (some ⟨p.S, 0, none⟩)) ∧ T[3]? = some (.pointer (some ⟨hB, 0, none⟩)) ∧ AnS lnk p (SK p W) (cN T) cs g w
/-- The next stop, r workers being still to be started. -/
def StopN (p : Ph) (An : Goroutine → World → Prop) : Nat → Goroutine → World → Prop
  | 0 => AtMk p Mt .disable An
  | r + 1 => L7 p r (Sp p An r)
theorem sp_iff (p : Ph) (An : Goroutine → World → Prop) (r : Nat) (g : Goroutine) (w : World) : Sp p An r g w ↔ ∃ m, Goes p.P true (R0 p Mt) DC0 (StopN p An r) m g w := by cases r <;> exact Iff.rfl

/-- A stop that says more. -/
theorem AtMk.mono {p : Ph} {M : Nat → Prop} {k : Mark} {S S' : Goroutine → World → Prop} (h : ∀ g w, S g w → S' g w) {g : Goroutine} {w : World} (hh : AtMk p M k S g w) : AtMk p M k S' g w :=
  let ⟨h1, g', h2, m, h3⟩ := hh; ⟨h1, g', h2, m, goes_mono (fun _ _ r => r) (fun _ _ _ d => d) h h3⟩

theorem loudN : (Tryz.prog.funcs[bN.fn]?).any (·.norace) = false := by kernel_rfl
theorem seenN (a : Addr) (wr : Bool) : seen Tryz.prog bN.fn #[⟨.cell a, wr, false⟩] = #[⟨.cell a, wr, false⟩] := by
  rw [seen_def, loudN]; simp [seenStep]
theorem goes_eq {s : GStep} {g0 : Goroutine} {w0 : World} {es0 : Array Event} (h : s.goes fun g w es => g = g0 ∧ w = w0 ∧ es = es0) : s = .go g0 w0 es0 := by
  cases s with
  | go g w es => obtain ⟨rfl, rfl, rfl⟩ := h; rfl
  | _ => exact h.elim
theorem grownS_alloc (w : World) (c : Array Value) (e : TypeId) : Grown w (w.alloc (.cells c e)) := by
  have hb : ∀ b, b < w.heap.size → (w.alloc (.cells c e)).heap[b]? = w.heap[b]? := fun b hb => Below.heap_alloc w _ b hb
  have hs : (w.alloc (.cells c e)).heap.size = w.heap.size + 1 := World.size_alloc w _
  have hx : (w.alloc (.cells c e)).heap[w.heap.size]? = some (.cells c e) := heap_alloc_new w _
  refine ⟨rfl, rfl, rfl, fun h b a t hh => ?_, hs, hb⟩
  rcases Nat.lt_trichotomy b w.heap.size with h1 | rfl | h1
  · rw [hb b h1] at hh; exact h b a t hh
  · rw [hx] at hh; cases hh
  · rw [Array.getElem?_eq_none (by omega)] at hh; cases hh

section
variable {p : Ph} {W : World} {hB : Nat} {cs : List Frame}
theorem flN {w w₁ : World} {M : Nat → Prop} (h : SK p W w ∧ WgLive p.ty p.Wg w) (r : R0 p M w w₁) : SK p W w₁ ∧ WgLive p.ty p.Wg w₁ := ⟨SK.r0 _ _ r h.1, r.rk.live h.2⟩
theorem flB {w w₁ : World} {C j : Nat} (h : SB p W C j w ∧ WgLive p.ty p.Wg w) (r : R0 p (One C) w w₁) : SB p W C j w₁ ∧ WgLive p.ty p.Wg w₁ := ⟨SB.r0 _ _ r h.1, r.rk.live h.2⟩

set_option maxRecDepth 100000 in
set_option maxHeartbeats 4000000 in
theorem spawnsN (hp : p.P = Tryz.prog) (o : p.Ok) (hn : p.n ≤ 100)
    (HW : ∀ j, j < p.n → ∀ C w, p.Low ≤ C → WKn p W C j w → ∃ e m, e ≤ 2 ∧ (e = 0 → p.bit j = 0) ∧ Wk p j C (.int .i64 j) e (One C) m (born Tryz.prog (callW p.Wg hB C p.S)) w) :
    ∀ (r j : Nat), j + r = p.n → ∃ f, ∀ (g : Goroutine) (w : World), HeadN p hB j cs g → SK p W w ∧ WgLive p.ty p.Wg w → Goes Tryz.prog true (R0 p Mt) DC0 (StopN p (AnN p W hB cs) r) f g w := by
  intro r
  induction r with
  | zero =>
    intro j hj
    refine ⟨9 + 1 + 3, ?_⟩
    rintro g w ⟨T, rfl, hT, t3, t5, t6, t8, t9⟩ hF
    obtain ⟨v0, v1, v2, v3, v4, v5, v6, v7, v8, v9, v10, v11, v12, v13, v14, v15, v16, rfl⟩ := array17 T hT
    simp only [List.getElem?_toArray, List.getElem?_cons_succ, List.getElem?_cons_zero, Option.some.injEq] at t3 t5 t6 t8 t9
    subst t3 t5 t6 t8 t9
    have hA := fun (a₀ : Act) (ops₀ : Array Oper) (i₀ : Nat) (rest₀ : List Nat) (k₀ : List Item) => intoWait (L := lnk) (p := p) (F := SK p W) (b₀ := bN) (a₀ := a₀) (ops₀ := ops₀) (i₀ := i₀) (rest₀ := rest₀) (k₀ := k₀) (cs := cs) (by rw [hp]; exact wgl) SK.r0
    simp only [hp] at hA
    simp only [StopN, LN, RN, bodyN, body_wait, Tryz.f40, waitFn, Option.getD_some] at hA ⊢
    obtain rfl : j = p.n := by omega
    have hnl : ¬ ((p.n : Int) < (p.n : Int)) := by omega
    u_c stepG_seq flN hF
    u_reg flN hF
    u_op flN hF
    u_c stepG_region_end flN hF
    u_c stepG_seq flN hF
    u_cond false flN hF
    u_exit flN hF
    u_c stepG_seq flN hF
    u_reg flN hF
    u_in flN hF
    refine goes_call rfl rfl (by k_ne) rfl Tryz.func60 (nm_wait lnk) rfl ⟨by u_nil, ?_⟩
    walk_nrmf Tryz.f60
    refine goes_mono (fun _ _ r => r) (fun _ _ _ d => d) (fun _ _ y => AtMk.mono (fun _ _ z => ⟨_, ?_, ?_, ?_, z⟩) y) (hA _ _ _ _ _ _ hF)
    · simp
    · simp
    · simp
  | succ r ih =>
    intro j hj
    obtain ⟨f₁, h₁⟩ := ih (j + 1) (by omega)
    refine ⟨12, ?_⟩
    rintro g w ⟨T, rfl, hT, t3, t5, t6, t8, t9⟩ hF
    obtain ⟨v0, v1, v2, v3, v4, v5, v6, v7, v8, v9, v10, v11, v12, v13, v14, v15, v16, rfl⟩ := array17 T hT
    simp only [List.getElem?_toArray, List.getElem?_cons_succ, List.getElem?_cons_zero, Option.some.injEq] at t3 t5 t6 t8 t9
    subst t3 t5 t6 t8 t9
    have ej : p.n - (r + 1) = j := by omega
    have hlt : (j : Int) < (p.n : Int) := by omega
    simp only [StopN, LN, RN, bodyN, Tryz.f40, Option.getD_some]
    u_c stepG_seq flN hF
    u_reg flN hF
    u_op flN hF
    u_c stepG_region_end flN hF
    u_c stepG_seq flN hF
    u_cond true flN hF
    u_c stepG_skip flN hF
    u_c stepG_seq flN hF
    u_c stepG_block flN hF
    u_c stepG_seq flN hF
    u_reg flN hF
    u_op flN hF
    refine Goes.stop (fun w₁ r₁ => ?_)
    replace hF := flN hF r₁
    clear r₁
    refine ⟨rfl, _, _, by rw [hp]; exact goes_eq (by
      refine goes_oper_k rfl rfl (by k_ne) (fun K hK => ?_)
      go_simp
      exact hK _ _ ⟨rfl, rfl, listed_nil (by simp [go_sem])⟩), grownS_alloc _ _ _, 0, ?_⟩
    have hgr := grownS_alloc w₁ #[.int .i64 0] 3
    have hnew : (w₁.alloc (.cells #[.int .i64 0] 3)).heap[w₁.heap.size]? = some (.cells #[.int .i64 0] 3) := heap_alloc_new w₁ _
    have hlo : p.Low ≤ w₁.heap.size := hF.1.size
    have hW : WgLive p.ty p.Wg (w₁.alloc (.cells #[.int .i64 0] 3)) := (Turn.gr hgr o hF.1.size).live hF.2
    have hK : SK p W (w₁.alloc (.cells #[.int .i64 0] 3)) := hF.1.turn (Turn.gr hgr o hF.1.size) (fun _ hb => hb.elim)
    clear hF hgr
    generalize w₁.alloc (.cells #[.int .i64 0] 3) = w₂ at hnew hW hK ⊢
    generalize w₁.heap.size = C at hnew hlo ⊢
    refine Goes.stop (fun w₃ r₃ => ?_)
    have hbx : w₃.heap[C]? = some (.cells #[.int .i64 0] 3) := (r₃.rk.own C rfl).trans hnew
    replace hK := SK.r0 _ _ r₃ hK
    replace hW := r₃.rk.live hW
    clear r₃ hnew
    have hcell : w₃.cell? ⟨C, 0, none⟩ = some (.int .i64 0) := by simp [World.cell?, hbx]
    have hthaw : w₃.frozen? ⟨C, 0, none⟩ = false := by simp [World.frozen?, hbx]
    have hnS : ¬ p.Sh (.cell ⟨C, 0, none⟩) := fun h => by have := o.low h; simp at this; omega
    have has := aside_setCell w₃ ⟨C, 0, none⟩ (.int .i64 j)
    have hbx' : (w₃.setCell ⟨C, 0, none⟩ (.int .i64 j)).heap[C]? = some (.cells #[.int .i64 j] 3) := by
      rw [setCell_eq_setRow w₃ C 0 _ 3 (0, 0) _ hbx, setRow_heap w₃ C _ _ 3 _ hbx]; simp
    have hown : Owns (One C) w₃ (w₃.setCell ⟨C, 0, none⟩ (.int .i64 j)) := ⟨has.tape, has.os, has.output, fun h => nv_set h _ _, has.size, fun b hb => has.block b hb⟩
    have hCW : ¬ One C p.Wg := fun e => by have : p.Wg = C := e; have := o.wg; omega
    have hCS : ¬ One C p.S := fun e => by have : p.S = C := e; have := o.s; omega
    refine ⟨rfl, _, w₃.setCell ⟨C, 0, none⟩ (.int .i64 j), #[⟨.cell ⟨C, 0, none⟩, true, false⟩], by rw [hp]; exact goes_eq (by
      refine goes_oper_k rfl rfl (by k_ne) (fun K hK => ?_)
      go_simp
      refine hK _ _ ⟨rfl, rfl, ?_⟩
      unfold listed
      simp [go_sem, *]
      exact seenN _ _), ⟨hown, fun e he => by simp at he; subst he; exact evK_own rfl hnS⟩, 20, ?_⟩
    have hF : SB p W C j (w₃.setCell ⟨C, 0, none⟩ (.int .i64 j)) ∧ WgLive p.ty p.Wg (w₃.setCell ⟨C, 0, none⟩ (.int .i64 j)) :=
      ⟨⟨hK.turn (Turn.ow hown hCW hCS) (fun b hb => .inr (.inr (by have : b = C := hb; omega))), hlo, hbx'⟩, (Turn.ow hown hCW hCS).live hW⟩
    generalize w₃.setCell ⟨C, 0, none⟩ (.int .i64 j) = w₄ at hF
    clear hbx hK hW hcell hthaw has hbx' hown
    rw [hp]
    try walk_nrm
    u_c stepG_region_end flB hF
    u_c stepG_seq flB hF
    u_reg flB hF
    u_in flB hF
    refine goes_call rfl rfl (by k_ne) rfl Tryz.func56 (nm_add lnk) rfl ⟨by u_nil, ?_⟩
    walk_nrmf Tryz.f56
    have hA := fun (a₀ : Act) (ops₀ : Array Oper) (i₀ : Nat) (rest₀ : List Nat) (k₀ : List Item) (mT : Nat) => addS (L := lnk) (p := p) (M := One C) (F := SB p W C j) (Next := AtGo p (One C) (p.n - (r + 1)) (Sp p (AnN p W hB cs) r)) (b₀ := bN) (a₀ := a₀) (ops₀ := ops₀) (i₀ := i₀) (rest₀ := rest₀) (k₀ := k₀) (cs := cs) (mT := mT) (by rw [hp]; exact wgl) SB.r0 (fun w v h => h.set o w v)
    simp only [hp, body_add, addFn, Option.getD_some] at hA
    refine goes_le (hA _ _ _ _ _ 6 (fun w h1 h2 => ?_) _ hF) (by omega)
    clear hA hF
    have hF := And.intro h1 h2
    clear h1 h2
    walk_nrm
    u_c stepG_region_end flB hF
    u_reg flB hF
    u_in flB hF
    refine goes_oper_k rfl rfl (by k_ne) (fun K hK => ?_)
    go_simp
    refine hK _ _ ⟨by u_none; intro e he; have hm := mem_listed he; simp [go_sem, Instr.makeFunc] at hm, ?_⟩
    clear hK K
    refine Goes.stop (fun w₅ r₅ => ?_)
    replace hF := flB hF r₅
    clear r₅
    obtain ⟨e, m, he2, he0, hwk⟩ := HW j (by omega) C w₅ hlo ⟨⟨hF.2, hF.1.sk.sum, hF.1.box⟩, hF.1.sk.low⟩
    try walk_nrm
    refine ⟨rfl, _, _, by rw [hp]; exact (stepG_spawn (d := callW p.Wg hB C p.S) (w' := w₅) (f := .func 57) (c := #[.pointer (some ⟨p.Wg, 0, none⟩), .pointer (some ⟨hB, 0, none⟩), .pointer (some ⟨C, 0, none⟩), .pointer (some ⟨p.S, 0, none⟩)]) rfl rfl (by k_ne) (by simp [go_sem, callW, Deferred.ofValue]) rfl).trans (by rw [listed_nil (by simp [go_sem, Deferred.ofValue])]),
      ⟨C, .int .i64 j, e, m, rfl, he2, by rw [ej]; exact he0, by rw [ej]; exact hwk⟩, ?_⟩
    have hF' : SK p W w₅ ∧ WgLive p.ty p.Wg w₅ := ⟨hF.1.sk, hF.2⟩
    clear hF hwk
    have hF := hF'
    clear hF'
    refine (sp_iff _ _ _ _ _).2 ⟨f₁ + 8, ?_⟩
    rw [hp]
    walk_nrm
    u_c stepG_region_end flN hF
    u_c stepG_inBlock flN hF
    u_reg flN hF
    u_op flN hF
    u_op flN hF
    u_c stepG_region_end flN hF
    u_c stepG_inLoop flN hF
    have hw1 : IntKind.i64.wrap ((j : Int) + 1) = ((j + 1 : Nat) : Int) := by rw [IntKind.wrap_i64]; omega
    rw [hw1]
    exact goes_le (h₁ _ _ ⟨_, rfl, by simp, by simp, by simp, by simp, by simp, by simp⟩ hF) (by omega)
end
end Go.Proofs.YtnojjmkmkelbgaaGreat

/- The share's goroutines, 5: shareNoted, from its entry to its return, beside leavers. -/
namespace Go.Proofs.YtnojjmkmkelbgaaGreat
open Go.Conc Go.ConcN Go.RowKit Go.Conc.Lib Go.ConcR.Gen Go.ConcN.Gen
open Go.ConcR (KK wgBlock WgAt stA smA rd wr mk Payload DC0)

theorem AtW2.mono {p : Ph} {A A' F : Goroutine → World → Prop} (h : ∀ g w, A g w → A' g w) {v : Nat} {g : Goroutine} {w : World} (hh : AtW2 p A F v g w) : AtW2 p A' F v g w :=
  ⟨hh.1, fun u hu hw => ⟨(hh.2 u hu hw).1, fun e => let ⟨g', h1, m, h2⟩ := (hh.2 u hu hw).2 e; ⟨g', h1, m, goes_mono (fun _ _ r => r) (fun _ _ _ d => d) h h2⟩⟩⟩
theorem AtW1.mono {p : Ph} {A A' F : Goroutine → World → Prop} (h : ∀ g w, A g w → A' g w) {g : Goroutine} {w : World} (hh : AtW1 p A F g w) : AtW1 p A' F g w :=
  ⟨hh.1, fun u hu hw => let ⟨g', h1, h2, h3⟩ := hh.2 u hu hw; ⟨g', h1, h2, fun e => let ⟨m, h4⟩ := h3 e; ⟨m, goes_mono (fun _ _ r => r) (fun _ _ _ d => d) (fun _ _ x => AtW2.mono h x) h4⟩⟩⟩

/-- Behind Wait. -/
def StpN (p : Ph) (V : World) (_hB : Nat) (cs : List Frame) (s : Int) (g : Goroutine) (w : World) : Prop :=
  ∃ T : Array Value, g = G (bN.at ⟨T, []⟩ (.inRegion ops9N [] :: [.code R10N])) cs ∧ T.size = 17 ∧ T[5]? = some (.pointer (some ⟨p.S, 0, none⟩)) ∧ SK p V w ∧ WgLive p.ty p.Wg w ∧ SumAt p w s

section
variable {p : Ph} {V : World} {hB : Nat} {cs : List Frame}
theorem anN_run {g : Goroutine} {w : World} (h : AnN p V hB cs g w) : g.status = .running := by
  obtain ⟨T, _, _, _, U, rfl, _⟩ := h; rfl
theorem anN_round (hp : p.P = Tryz.prog) (o : p.Ok) (g : Goroutine) (w : World) (h : AnN p V hB cs g w) : ∃ m, Goes p.P true (R0 p Mt) DC0 (AtW1 p (AnN p V hB cs) (FinS p (StpN p V hB cs))) m g w := by
  obtain ⟨T, hT, t5, t3, hA⟩ := h
  have hT0 : ∀ s w, SK p V w → WgLive p.ty p.Wg w → SumAt p w s → Goes p.P true AtRel DC0 (StpN p V hB cs s) 0 (G (bN.at ((⟨T, []⟩ : Act).put ((ops9N[0]?).bind (·.dst)) (.tuple #[])) (.inRegion ops9N [] :: [.code R10N])) cs) w := fun s w h1 h3 h2 => Goes.stop fun w₁ r => by
    refine ⟨((⟨T, []⟩ : Act).put ((ops9N[0]?).bind (·.dst)) (.tuple #[])).tmps, ?_, ?_, ?_, SK.r0 (M := Mt) _ _ (at_r0 r) h1, (at_r0 (p := p) (M := Mt) r).rk.live h3, by obtain ⟨d, rfl⟩ := r; exact h2⟩
    · simp only [ops9N, RN, bodyN, Tryz.f40, Option.getD_some]; rfl
    · simp only [ops9N, RN, bodyN, Tryz.f40, Option.getD_some]; simp [Act.put, hT]
    · simp only [ops9N, RN, bodyN, Tryz.f40, Option.getD_some]; simp [Act.put, t5]
  obtain ⟨m, hm⟩ := waitS (L := lnk) (p := p) (F := SK p V) (Stp := StpN p V hB cs) (b₀ := bN) (a₀ := ⟨T, []⟩) (ops₀ := ops9N) (i₀ := 0) (rest₀ := []) (k₀ := [.code R10N]) (cs := cs) (mT := 0) (by rw [hp]; exact wgl) SK.r0 (fun w a v ha h => h.set o w a v ha) hT0 g w hA
  exact ⟨m, goes_mono (fun _ _ r => r) (fun _ _ _ d => d) (fun _ _ y => AtW1.mono (fun _ _ z => ⟨T, hT, t5, t3, z⟩) y) hm⟩

set_option maxRecDepth 100000 in
/-- Out of it: the sum is read, and returned. -/
theorem outN (_hp : p.P = Tryz.prog) {B0 : Nat} (hB0 : p.S < B0) {b₀ : Frame} {a₀ : Act} {ops₀ : Array Oper} {i₀ : Nat} {rest₀ : List Nat} {k₀ : List Item} {cs : List Frame} {s : Int} {g : Goroutine} {w : World} (h : StpN p V hB (b₀.at a₀ (.inRegion ops₀ (i₀ :: rest₀) :: k₀) :: cs) s g w) :
    Goes Tryz.prog true AtRel (DE (EvL p.Sh B0)) (fun g w => g = G (b₀.at (a₀.put ((ops₀[i₀]?).bind (·.dst)) (.int .u32 s)) (.inRegion ops₀ rest₀ :: k₀)) cs ∧ SK p V w ∧ WgLive p.ty p.Wg w ∧ SumAt p w s) 30 g w := by
  obtain ⟨T, rfl, hT, t5, hF⟩ := h
  have rl : ∀ {w w₁ : World}, (SK p V w ∧ WgLive p.ty p.Wg w ∧ SumAt p w s) → AtRel w w₁ → SK p V w₁ ∧ WgLive p.ty p.Wg w₁ ∧ SumAt p w₁ s := fun h r => ⟨SK.r0 (M := Mt) _ _ (at_r0 r) h.1, (at_r0 (p := p) (M := Mt) r).rk.live h.2.1, by obtain ⟨d, rfl⟩ := r; exact h.2.2⟩
  obtain ⟨v0, v1, v2, v3, v4, v5, v6, v7, v8, v9, v10, v11, v12, v13, v14, v15, v16, rfl⟩ := array17 T hT
  simp only [List.getElem?_toArray, List.getElem?_cons_succ, List.getElem?_cons_zero, Option.some.injEq] at t5
  subst t5
  simp only [ops9N, R10N, RN, bodyN, Tryz.f40, Option.getD_some]
  u_c stepG_region_end rl hF
  u_c stepG_seq rl hF
  u_reg rl hF
  u_call Tryz.func61 (by kernel_rfl) Tryz.f61 rl hF
  u_c stepG_seq rl hF
  u_reg rl hF
  u_op rl hF
  u_c stepG_region_end rl hF
  u_c stepG_seq rl hF
  u_reg rl hF
  u_op rl hF
  u_op rl hF
  u_op rl hF
  u_in rl hF
  rw [stepG_load_atomic (v := s) rfl rfl (by k_ne) rfl Tryz.func97 (by kernel_rfl) (by kernel_rfl) (by kernel_rfl) .u32 (by kernel_rfl) (ad := ⟨p.S, 0, none⟩) rfl (by have := hF.2.2; unfold SumAt at this; simp [World.cell?, this])]
  simp only [goes_go]
  refine ⟨fun e he => ?_, ?_⟩
  · simp only [Array.mem_singleton] at he
    subst he
    refine ⟨fun x hx _ => ?_, by simp, by simp, hB0⟩
    simp only [ofEvent_cell0, MemAct.touch?, Option.some.injEq] at hx
    subst hx
    simp
  walk_nrm
  u_op rl hF
  u_c stepG_region_end rl hF
  u_c stepG_ret' rl hF
  u_leave1 Tryz.func61 rl hF
  u_op rl hF
  u_c stepG_region_end rl hF
  u_c stepG_ret' rl hF
  u_leave1 Tryz.func40 rl hF
  exact Goes.stop fun w₁ r => ⟨rfl, rl hF r⟩
end
end Go.Proofs.YtnojjmkmkelbgaaGreat

/- The share's goroutines, 3: on whom one waits, asked in company. -/
namespace Go.Proofs.YtnojjmkmkelbgaaGreat
open Go.Conc Go.ConcN Go.RowKit Go.Conc.Lib Go.ConcR.Gen Go.ConcN.Gen

section
variable {p : Ph} {W : World} {M : Nat → Prop} {C i own : Nat} {oB tB tb g n cap hb nb : Nat}
set_option maxRecDepth 100000 in
set_option maxHeartbeats 4000000 in
theorem waitsNo (hC : M C) (hi : i = own) (h0 : LowA p ⟨oB, 0, none⟩) (c0 : W.cell? ⟨oB, 0, none⟩ = some (.int .i64 own)) :
    ∃ nf, ∀ w, WKn p W C i w → CallsC Tryz.prog false (RK p M) (DK p M) 29 #[.int .i64 i, .pointer (some ⟨oB, 0, none⟩), .pointer (some ⟨tB, 0, none⟩)] nf w fun v w' => v = .bool false ∧ WKn p W C i w' := by
  subst hi
  co_apply Exists.intro
  intro w hF
  co_apply callsC_of_wpC Tryz.func29 (by rfl) rfl
  simp only [Tryz.ntmps29, List.size_toArray, List.length_cons, List.length_nil, Nat.reduceAdd, Nat.reduceSub, Array.replicate_succ, Array.replicate_zero, List.push_toArray, List.append_toArray, List.nil_append, List.cons_append]
  co_stmt (termsK p M) (rlW hC) hF (co_quiet (termsK p M))
  co_apply wpC_seq (termsK p M)
  co_held (termsK p M) (drawK p M) ownDrawK (WKn p W C i) (rlW hC) hF
  co_take 0 (termsK p M) (rlW hC) hF hw (skip) (co_quiet (termsK p M))
  co_take 1 (termsK p M) (rlW hC) hF hw (have hc := (hw.cell h0).trans c0) (refine ⟨.refl _, ?_⟩; co_evs (exact evK_low (h0).lt (h0).sh))
  co_take 2 (termsK p M) (rlW hC) hF hw (skip) (co_quiet (termsK p M))
  co_take 3 (termsK p M) (rlW hC) hF hw (skip) (co_quiet (termsK p M))
  co_applyP anyCH_take (termsK p M) (fun _ _ h r => rlW hC h r) (fun _ _ _ h r => wpC_rely (termsK p M) h r) (i := 4) rfl (by kernel_rfl) (by kernel_rfl) (by kernel_rfl) (.inr ⟨by rfl, rfl⟩) hF ?r4; try walk_nrm
  co_applyP anyCH_take (termsK p M) (fun _ _ h r => rlW hC h r) (fun _ _ _ h r => wpC_rely (termsK p M) h r) (i := 5) rfl (by kernel_rfl) (by kernel_rfl) (by kernel_rfl) (.inr ⟨by rfl, rfl⟩) hF ?r5; try walk_nrm
  co_applyP anyCH_take (termsK p M) (fun _ _ h r => rlW hC h r) (fun _ _ _ h r => wpC_rely (termsK p M) h r) (i := 6) rfl (by kernel_rfl) (by kernel_rfl) (by kernel_rfl) (.inr ⟨by rfl, rfl⟩) hF ?r6; try walk_nrm
  co_applyP anyCH_take (termsK p M) (fun _ _ h r => rlW hC h r) (fun _ _ _ h r => wpC_rely (termsK p M) h r) (i := 7) rfl (by kernel_rfl) (by kernel_rfl) (by kernel_rfl) (.inr ⟨by rfl, rfl⟩) hF ?r7; try walk_nrm
  co_applyP anyCH_take (termsK p M) (fun _ _ h r => rlW hC h r) (fun _ _ _ h r => wpC_rely (termsK p M) h r) (i := 8) rfl (by kernel_rfl) (by kernel_rfl) (by kernel_rfl) (.inr ⟨by rfl, rfl⟩) hF ?r8; try walk_nrm
  co_applyP anyCH_take (termsK p M) (fun _ _ h r => rlW hC h r) (fun _ _ _ h r => wpC_rely (termsK p M) h r) (i := 9) rfl (by kernel_rfl) (by kernel_rfl) (by kernel_rfl) (.inr ⟨by rfl, rfl⟩) hF ?r9; try walk_nrm
  co_applyP anyCH_take (termsK p M) (fun _ _ h r => rlW hC h r) (fun _ _ _ h r => wpC_rely (termsK p M) h r) (i := 10) rfl (by kernel_rfl) (by kernel_rfl) (by kernel_rfl) (.inr ⟨by rfl, rfl⟩) hF ?r10; try walk_nrm
  co_applyP anyCH_take (termsK p M) (fun _ _ h r => rlW hC h r) (fun _ _ _ h r => wpC_rely (termsK p M) h r) (i := 11) rfl (by kernel_rfl) (by kernel_rfl) (by kernel_rfl) (.inr ⟨by rfl, rfl⟩) hF ?r11; try walk_nrm
  co_applyP anyCH_take (termsK p M) (fun _ _ h r => rlW hC h r) (fun _ _ _ h r => wpC_rely (termsK p M) h r) (i := 12) rfl (by kernel_rfl) (by kernel_rfl) (by kernel_rfl) (.inr ⟨by rfl, rfl⟩) hF ?r12; try walk_nrm
  co_applyP anyCH_take (termsK p M) (fun _ _ h r => rlW hC h r) (fun _ _ _ h r => wpC_rely (termsK p M) h r) (i := 13) rfl (by kernel_rfl) (by kernel_rfl) (by kernel_rfl) (.inr ⟨by rfl, rfl⟩) hF ?r13; try walk_nrm
  co_applyP anyCH_take (termsK p M) (fun _ _ h r => rlW hC h r) (fun _ _ _ h r => wpC_rely (termsK p M) h r) (i := 14) rfl (by kernel_rfl) (by kernel_rfl) (by kernel_rfl) (.inr ⟨by rfl, rfl⟩) hF ?r14; try walk_nrm
  co_applyP anyCH_take (termsK p M) (fun _ _ h r => rlW hC h r) (fun _ _ _ h r => wpC_rely (termsK p M) h r) (i := 15) rfl (by kernel_rfl) (by kernel_rfl) (by kernel_rfl) (.inr ⟨by rfl, rfl⟩) hF ?r15; try walk_nrm
  co_applyP anyCH_take (termsK p M) (fun _ _ h r => rlW hC h r) (fun _ _ _ h r => wpC_rely (termsK p M) h r) (i := 16) rfl (by kernel_rfl) (by kernel_rfl) (by kernel_rfl) (.inr ⟨by rfl, rfl⟩) hF ?r16; try walk_nrm
  co_applyP anyCH_take (termsK p M) (fun _ _ h r => rlW hC h r) (fun _ _ _ h r => wpC_rely (termsK p M) h r) (i := 17) rfl (by kernel_rfl) (by kernel_rfl) (by kernel_rfl) (.inr ⟨by rfl, rfl⟩) hF ?r17; try walk_nrm
  co_applyP anyCH_take (termsK p M) (fun _ _ h r => rlW hC h r) (fun _ _ _ h r => wpC_rely (termsK p M) h r) (i := 18) rfl (by kernel_rfl) (by kernel_rfl) (by kernel_rfl) (.inr ⟨by rfl, rfl⟩) hF ?r18; try walk_nrm
  co_applyP anyCH_take (termsK p M) (fun _ _ h r => rlW hC h r) (fun _ _ _ h r => wpC_rely (termsK p M) h r) (i := 19) rfl (by kernel_rfl) (by kernel_rfl) (by kernel_rfl) (.inr ⟨by rfl, rfl⟩) hF ?r19; try walk_nrm
  co_applyP anyCH_take (termsK p M) (fun _ _ h r => rlW hC h r) (fun _ _ _ h r => wpC_rely (termsK p M) h r) (i := 20) rfl (by kernel_rfl) (by kernel_rfl) (by kernel_rfl) (.inr ⟨by rfl, rfl⟩) hF ?r20; try walk_nrm
  co_applyP anyCH_take (termsK p M) (fun _ _ h r => rlW hC h r) (fun _ _ _ h r => wpC_rely (termsK p M) h r) (i := 21) rfl (by kernel_rfl) (by kernel_rfl) (by kernel_rfl) (.inr ⟨by rfl, rfl⟩) hF ?r21; try walk_nrm
  co_take 22 (termsK p M) (rlW hC) hF hw (skip) (co_quiet (termsK p M))
  co_take 23 (termsK p M) (rlW hC) hF hw (skip) (co_quiet (termsK p M))
  co_done
  co_ctl (termsK p M)
  exact ⟨rfl, _, resultsC_tmp (by rfl) _, by simp, hF⟩

set_option maxRecDepth 100000 in
set_option maxHeartbeats 4000000 in
theorem waitsYes (hC : M C) (hi : i ≠ own) (hin : i < n) (hon : own < n) (h0 : LowA p ⟨oB, 0, none⟩) (c0 : W.cell? ⟨oB, 0, none⟩ = some (.int .i64 own)) (h1 : LowA p ⟨tB, 0, none⟩) (c1 : W.cell? ⟨tB, 0, none⟩ = some (.pointer (some ⟨tb, 0, none⟩)))
    (h2 : LowA p ⟨tb, 0, none⟩) (c2 : W.cell? ⟨tb, 0, none⟩ = some (.slice (some ⟨g, 0, none⟩) n cap)) (h3 : LowA p ⟨g, i * 4 + 1, none⟩) (c3 : W.cell? ⟨g, i * 4 + 1, none⟩ = some (.int .u64 hb)) (h4 : LowA p ⟨g, own * 4 + 2, none⟩) (c4 : W.cell? ⟨g, own * 4 + 2, none⟩ = some (.int .u64 nb)) :
    ∃ nf, ∀ w, WKn p W C i w → CallsC Tryz.prog false (RK p M) (DK p M) 29 #[.int .i64 i, .pointer (some ⟨oB, 0, none⟩), .pointer (some ⟨tB, 0, none⟩)] nf w fun v w' => v = .bool (bits .and .u64 (hb : Int) (nb : Int) != 0) ∧ WKn p W C i w' := by
  have hneb : ((i : Int) != (own : Int)) = true := by rw [bne_iff_ne]; omega
  have hi0 : (0 : Int) ≤ (i : Int) := by omega
  have hi1 : (i : Int) < (n : Int) := by omega
  have ho0 : (0 : Int) ≤ (own : Int) := by omega
  have ho1 : (own : Int) < (n : Int) := by omega
  co_apply Exists.intro
  intro w hF
  co_apply callsC_of_wpC Tryz.func29 (by rfl) rfl
  simp only [Tryz.ntmps29, List.size_toArray, List.length_cons, List.length_nil, Nat.reduceAdd, Nat.reduceSub, Array.replicate_succ, Array.replicate_zero, List.push_toArray, List.append_toArray, List.nil_append, List.cons_append]
  co_stmt (termsK p M) (rlW hC) hF (co_quiet (termsK p M))
  co_apply wpC_seq (termsK p M)
  co_held (termsK p M) (drawK p M) ownDrawK (WKn p W C i) (rlW hC) hF
  co_take 0 (termsK p M) (rlW hC) hF hw (skip) (co_quiet (termsK p M))
  co_take 1 (termsK p M) (rlW hC) hF hw (have hc := (hw.cell h0).trans c0) (refine ⟨.refl _, ?_⟩; co_evs (exact evK_low (h0).lt (h0).sh))
  co_take 2 (termsK p M) (rlW hC) hF hw (skip) (co_quiet (termsK p M))
  co_take 3 (termsK p M) (rlW hC) hF hw (skip) (co_quiet (termsK p M))
  co_take 4 (termsK p M) (rlW hC) hF hw (have hc := (hw.cell h1).trans c1) (refine ⟨.refl _, ?_⟩; co_evs (exact evK_low (h1).lt (h1).sh))
  co_take 5 (termsK p M) (rlW hC) hF hw (skip) (co_quiet (termsK p M))
  co_take 6 (termsK p M) (rlW hC) hF hw (skip) (co_quiet (termsK p M))
  co_take 7 (termsK p M) (rlW hC) hF hw (have hc := (hw.cell h2).trans c2) (refine ⟨.refl _, ?_⟩; co_evs (exact evK_low (h2).lt (h2).sh))
  co_take 8 (termsK p M) (rlW hC) hF hw (skip) (co_quiet (termsK p M))
  co_take 9 (termsK p M) (rlW hC) hF hw (skip) (co_still (termsK p M))
  co_take 10 (termsK p M) (rlW hC) hF hw (skip) (co_quiet (termsK p M))
  co_take 11 (termsK p M) (rlW hC) hF hw (have hc := (hw.cell h3).trans c3) (refine ⟨.refl _, ?_⟩; co_evs (exact evK_low (h3).lt (h3).sh))
  co_take 12 (termsK p M) (rlW hC) hF hw (have hc := (hw.cell h1).trans c1) (refine ⟨.refl _, ?_⟩; co_evs (exact evK_low (h1).lt (h1).sh))
  co_take 13 (termsK p M) (rlW hC) hF hw (skip) (co_quiet (termsK p M))
  co_take 14 (termsK p M) (rlW hC) hF hw (skip) (co_quiet (termsK p M))
  co_take 15 (termsK p M) (rlW hC) hF hw (have hc := (hw.cell h2).trans c2) (refine ⟨.refl _, ?_⟩; co_evs (exact evK_low (h2).lt (h2).sh))
  co_take 16 (termsK p M) (rlW hC) hF hw (have hc := (hw.cell h0).trans c0) (refine ⟨.refl _, ?_⟩; co_evs (exact evK_low (h0).lt (h0).sh))
  co_take 17 (termsK p M) (rlW hC) hF hw (skip) (co_still (termsK p M))
  co_take 18 (termsK p M) (rlW hC) hF hw (skip) (co_quiet (termsK p M))
  co_take 19 (termsK p M) (rlW hC) hF hw (have hc := (hw.cell h4).trans c4) (refine ⟨.refl _, ?_⟩; co_evs (exact evK_low (h4).lt (h4).sh))
  co_take 20 (termsK p M) (rlW hC) hF hw (skip) (co_quiet (termsK p M))
  co_take 21 (termsK p M) (rlW hC) hF hw (skip) (co_quiet (termsK p M))
  co_take 22 (termsK p M) (rlW hC) hF hw (skip) (co_quiet (termsK p M))
  co_take 23 (termsK p M) (rlW hC) hF hw (skip) (co_quiet (termsK p M))
  co_done
  co_ctl (termsK p M)
  exact ⟨rfl, _, resultsC_tmp (by rfl) _, by simp, hF⟩
end
end Go.Proofs.YtnojjmkmkelbgaaGreat
