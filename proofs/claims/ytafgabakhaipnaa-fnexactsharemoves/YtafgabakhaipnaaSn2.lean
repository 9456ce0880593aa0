/- The share's goroutines, 2: a worker, from its birth, that asks a function which makes nothing. -/
import Derived.Conc.CompanyMem
import Derived.Test.YtafgabakhaipnaaSn1
namespace Go.Proofs.Ytafgabakhaipnaa
open Go.Conc Go.ConcN Go.RowKit Go.Conc.Lib Go.ConcR.Gen Go.ConcN.Gen
open Go.ConcR (KK wgBlock WgAt stA smA rd wr mk Payload DC0)

theorem termsK (p : Ph) (M : Nat → Prop) : Terms (RK p M) (DK p M) := ⟨RK.tr, fun w => dk_idle w⟩
theorem drawK (p : Ph) (M : Nat → Prop) : LetsDraw (DK p M) := fun w => ⟨⟨rfl, rfl, rfl, id, rfl, fun _ _ => rfl⟩, by simp⟩
theorem ownDrawK {p : Ph} {M : Nat → Prop} (w : World) : RK p M w { w with drawn := w.drawn + 1 } := ⟨fun _ _ _ _ => rfl, fun _ _ => rfl, Nat.le_refl _, id, id⟩

/-- Through a call of a function value. -/
theorem goes_callV {P : Program} {main : Bool} {R : World → World → Prop} {D : World → World → Array Event → Prop} (T : Terms R D) {b : Frame} {a : Act} {k : List Item} {cs : List Frame} {w : World} {ops : Array Oper} {i : Nat} {rest : List Nat} {o : Oper} {f : FuncId} {args : Array Value}
    {nf m : Nat} {Post : Value → World → Prop} {Stop : Goroutine → World → Prop}
    (ho : ops[i]? = some o) (hw : Region.wanted o (yielded ops a.tmps) = true) (hk : b.kind ≠ .early) (hrun : ∀ w, (execOp a.eval o).run P w = .ok (.enter f args) w) (hev : ∀ w, (execOp a.eval o).events P w #[] = #[])
    (hcall : CallsC P main R D f args nf w Post)
    (hnext : ∀ v w', Post v w' → Goes P main R D Stop m (G (b.at (a.put o.dst v) (.inRegion ops rest :: k)) cs) w') :
    Goes P main R D Stop (m + nf + 3) (G (b.at a (.inRegion ops (i :: rest) :: k)) cs) w := by
  obtain ⟨fn, c, hf, hname, hbody, hwp⟩ := hcall
  have hfin : ∀ v, (b.at a (.inRegion ops (i :: rest) :: k)).finish v = b.at (a.put o.dst v) (.inRegion ops rest :: k) := fun v => by rw [Frame.finish_at, ho]; rfl
  have hleave : ∀ (a' : Act) (w' : World) (todo : List Item), (a'.defers = [] ∧ ∃ v, ResultsC P fn a'.tmps v ∧ Post v w') →
      Goes P main R D Stop (m + 1) (G { (base f).at a' todo with mode := .returning } (b.at a (.inRegion ops (i :: rest) :: k) :: cs)) w' := by
    rintro a' w' todo ⟨hd, v, hr, hp⟩
    refine Goes.step rfl fun w₁ h₁ => ?_
    rw [stepG_leave (b := base f) rfl hd hf (hr w₁).1 (hr w₁).2, hfin]
    exact ⟨T.idle _, (hnext v w' hp).rely T.trans h₁⟩
  have hbodyG : Goes P main R D Stop (m + 2 + nf) (G ((base f).at { tmps := args ++ Array.replicate (fn.ntmps - args.size) undef, defers := [] } [.code c]) (b.at a (.inRegion ops (i :: rest) :: k) :: cs)) w := by
    refine hwp (base f) [] _ Stop (m + 2) rfl (by simp [base]) fun e a' w' q => ?_
    cases e with
    | normal => exact Goes.step rfl fun w₁ h₁ => by rw [stepG_end]; exact ⟨T.idle _, (hleave a' w' [] q).rely T.trans h₁⟩
    | ret => exact fun todo => (hleave a' w' todo q).more
    | exit id => exact q.elim
    | goto l => exact q.elim
    | panic ch => exact q.elim
    | outgrown => exact q.elim
  have e : m + nf + 3 = (m + 2 + nf) + 1 := by omega
  rw [e]
  refine Goes.step rfl fun w₁ h₁ => ?_
  rw [stepG_enter ho hw hk (hrun w₁), enter_at _ hf hbody]
  have : listed P b.fn a o w₁ = #[] := by unfold listed; rw [hev w₁]; exact seen_none P _
  rw [this]
  exact ⟨T.idle _, hbodyG.rely T.trans h₁⟩

/-- Into a function value's call. -/
theorem goes_enterV {P : Program} {main : Bool} {R : World → World → Prop} {D : World → World → Array Event → Prop} (T : Terms R D) {b : Frame} {a : Act} {k : List Item} {cs : List Frame} {w : World} {ops : Array Oper} {i : Nat} {rest : List Nat} {o : Oper} {f : FuncId} {args : Array Value}
    {m : Nat} {Stop : Goroutine → World → Prop} {fn : Func} {c : Code}
    (ho : ops[i]? = some o) (hw : Region.wanted o (yielded ops a.tmps) = true) (hk : b.kind ≠ .early) (hrun : ∀ w, (execOp a.eval o).run P w = .ok (.enter f args) w) (hev : ∀ w, (execOp a.eval o).events P w #[] = #[])
    (hf : P.funcs[f]? = some fn) (hbody : fn.body = some c)
    (hnext : Goes P main R D Stop m (G ((base f).at { tmps := args ++ Array.replicate (fn.ntmps - args.size) undef, defers := [] } [.code c]) (b.at a (.inRegion ops (i :: rest) :: k) :: cs)) w) :
    Goes P main R D Stop (m + 1) (G (b.at a (.inRegion ops (i :: rest) :: k)) cs) w := by
  refine Goes.step rfl fun w₁ h₁ => ?_
  rw [stepG_enter ho hw hk (hrun w₁), enter_at _ hf hbody]
  have : listed P b.fn a o w₁ = #[] := by unfold listed; rw [hev w₁]; exact seen_none P _
  rw [this]
  exact ⟨T.idle _, hnext.rely T.trans h₁⟩

/-- What a worker holds from its birth on: besides, what lies low is as it was. -/
structure WKn (p : Ph) (W : World) (C i : Nat) (w : World) : Prop where
  tk : TK p C i w
  low : ∀ b, b < p.Low → b ≠ p.Wg → b ≠ p.S → w.heap[b]? = W.heap[b]?
theorem rlW {p : Ph} {W : World} {M : Nat → Prop} {C i : Nat} (hC : M C) {w w₁ : World} (h : WKn p W C i w) (r : RK p M w w₁) : WKn p W C i w₁ := ⟨rlT hC h.tk r, fun b h1 h2 h3 => (r.low b h1 h2 h3).trans (h.low b h1 h2 h3)⟩
/-- A place that lies low. -/
structure LowA (p : Ph) (a : Addr) : Prop where
  lt : a.block < p.Low
  sh : ¬ p.Sh (.cell a)
theorem LowA.wg {p : Ph} {a : Addr} (h : LowA p a) : a.block ≠ p.Wg := fun e => h.sh (.inr (.inl ⟨a, rfl, e⟩))
theorem LowA.s {p : Ph} {a : Addr} (h : LowA p a) : a.block ≠ p.S := fun e => h.sh (.inr (.inr ⟨a, rfl, e⟩))
theorem WKn.cell {p : Ph} {W : World} {C i : Nat} {w : World} (h : WKn p W C i w) {a : Addr} (ha : LowA p a) : w.cell? a = W.cell? a := World.cell?_of_block (h.low _ ha.lt ha.wg ha.s)

theorem born_W (Wg hB C S : Nat) (w : World) : stepG Try.prog false (born Try.prog (callW Wg hB C S)) w =
    .go (G (bW.at ⟨#[.pointer (some ⟨Wg, 0, none⟩), .pointer (some ⟨hB, 0, none⟩), .pointer (some ⟨C, 0, none⟩), .pointer (some ⟨S, 0, none⟩), undef, undef, undef, undef, undef, undef], []⟩ [.code bodyW]) [bot]) w #[] := by
  simp [born, callW, stepG, unwind, callDeferred, invoke, callFunc, Try.func46, Try.f46, seen, GStep.after, G, Frame.enter, Frame.at, bW, baseD, bot, bodyW]

section
variable {p : Ph} {W : World} {M : Nat → Prop} {C hB i : Nat}
set_option maxRecDepth 100000 in
/-- To its answer. -/
theorem askW (_hp : p.P = Try.prog) (o : p.Ok) (hC : M C) (hCL : p.Low ≤ C) (hhB : LowA p ⟨hB, 0, none⟩) {f : FuncId} {bd cap : Array Value} (hfv : W.cell? ⟨hB, 0, none⟩ = some (.func (.func f) bd cap)) {fn : Func} (hf : Try.prog.funcs[f]? = some fn) (hn : (fn.name == "runtime.NumGoroutine") = false) (hb : fn.body.isNone = false)
    {nf m : Nat} {r : Bool} {Stop : Goroutine → World → Prop}
    (hcal : ∀ w, WKn p W C i w → CallsC Try.prog false (RK p M) (DK p M) f (bd ++ #[.int .i64 i] ++ cap) nf w fun v w' => v = .bool r ∧ WKn p W C i w')
    (hnext : ∀ w, WKn p W C i w → Goes Try.prog false (RK p M) (DK p M) Stop m (G (bW.at ⟨slotsW p hB C i (.func (.func f) bd cap) (.bool r), dsW p⟩ (.inRegion ops1W [] :: [.code condW])) [bot]) w)
    (w : World) (hF : WKn p W C i w) : Goes Try.prog false (RK p M) (DK p M) Stop (m + nf + 3 + 9) (born Try.prog (callW p.Wg hB C p.S)) w := by
  have hnS : ¬ p.Sh (.cell ⟨C, 0, none⟩) := fun h => by have := o.low h; simp at this; omega
  have hn' : ¬ fn.name = "runtime.NumGoroutine" := by simpa using hn
  have hb' : ¬ fn.body = none := by cases hx : fn.body <;> simp_all
  refine Goes.step rfl (fun _ h₁ => ?_); replace hF := rlW hC hF h₁; clear h₁
  rw [born_W]
  refine ⟨dk_idle _, ?_⟩
  simp only [slotsW, dsW, ops1W, condW, bodyW, Try.f46, Option.getD_some] at hnext ⊢
  refine Goes.step rfl (fun _ h₁ => ?_); replace hF := rlW hC hF h₁; clear h₁; rw [stepG_seq]; simp only [goes_go]; refine ⟨dk_idle _, ?_⟩
  refine Goes.step rfl (fun _ h₁ => ?_); replace hF := rlW hC hF h₁; clear h₁; rw [stepG_region]; simp only [goes_go, List.size_toArray, List.length_cons, List.length_nil, Nat.zero_add, List.range, List.range.loop]; refine ⟨dk_idle _, ?_⟩
  refine Goes.step rfl (fun _ h₁ => ?_); replace hF := rlW hC hF h₁; clear h₁
  rw [stepG_defer rfl rfl (by k_ne) rfl]
  simp only [goes_go]
  refine ⟨dk_idle _, ?_⟩
  walk_nrm
  refine Goes.step rfl (fun _ h₁ => ?_); replace hF := rlW hC hF h₁; clear h₁; rw [stepG_region_end]; simp only [goes_go]; refine ⟨dk_idle _, ?_⟩
  refine Goes.step rfl (fun _ h₁ => ?_); replace hF := rlW hC hF h₁; clear h₁; rw [stepG_seq]; simp only [goes_go]; refine ⟨dk_idle _, ?_⟩
  refine Goes.step rfl (fun _ h₁ => ?_); replace hF := rlW hC hF h₁; clear h₁; rw [stepG_region]; simp only [goes_go, List.size_toArray, List.length_cons, List.length_nil, Nat.reduceAdd, Nat.zero_add, List.range, List.range.loop]; refine ⟨dk_idle _, ?_⟩
  refine Goes.step rfl (fun _ h₁ => ?_); replace hF := rlW hC hF h₁; clear h₁
  refine goes_oper_k rfl rfl (by k_ne) (fun K hK => ?_)
  have hc := (hF.cell hhB).trans hfv
  go_simp
  refine hK _ _ ⟨⟨.refl _, fun e he => ?_⟩, ?_⟩
  · have hm := mem_listed he
    simp [go_sem, *] at hm
    subst hm
    exact evK_low hhB.lt hhB.sh
  clear hK K hc
  refine Goes.step rfl (fun _ h₁ => ?_); replace hF := rlW hC hF h₁; clear h₁
  refine goes_oper_k rfl rfl (by k_ne) (fun K hK => ?_)
  have hc := hF.tk.cell
  go_simp
  refine hK _ _ ⟨⟨.refl _, fun e he => ?_⟩, ?_⟩
  · have hm := mem_listed he
    simp [go_sem, *] at hm
    subst hm
    exact evK_own hC hnS
  clear hK K hc
  try walk_nrm
  refine goes_callV (termsK p M) rfl rfl (by k_ne) (fun w => ?_) (fun w => ?_) (hcal _ hF) fun v w' hv => ?_
  · unfold execOp
    simp [resolve, Deferred.ofValue, invoke, callFunc, Act.eval, hf, hn', hb']
  · unfold execOp
    simp [resolve, Deferred.ofValue, invoke, callFunc, Act.eval, hf, hn', hb']
  · obtain ⟨rfl, hw'⟩ := hv
    exact hnext _ hw'
end
end Go.Proofs.Ytafgabakhaipnaa
