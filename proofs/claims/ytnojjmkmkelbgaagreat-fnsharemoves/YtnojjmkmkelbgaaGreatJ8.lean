/- Runs carried over, 8: calls that are told by the text; functions that call no others than such; one step. -/
import Derived.Test.YtnojjmkmkelbgaaGreatLf7
import Derived.Conc.CrowdRun
namespace Go.Proofs.YtnojjmkmkelbgaaGreat
open Go.Conc

section
variable {P : Program} {X : Nat → Prop} {α β : Type}

theorem s_cap (a : Array TypeId) (t : TypeId) (v : Array Value) : Sound P X (Builtin.cap_ a t v) := by
  unfold Builtin.cap_
  repeat' first | (with_reducible first | exact Sound.pure' _ | exact s_stuck _ | exact s_und _ | exact s_getObj _ | refine Sound.bind ?_ (fun _ => ?_)) | (dsimp only) | split
def bFine : Builtin → Bool
  | .append | .len | .cap | .copy => true
  | _ => false
theorem builtin_op (ρ : Operand → Value) (o : Oper) {b : Builtin} {as : Array Operand} {ats : Array TypeId} (hop : o.op = .call { callee := .builtin b, args := as, argTypes := ats }) (hb : bFine b = true) :
    Sound P X (execOp ρ o) ∧ Ends P Plain (execOp ρ o) := by
  have e : execOp ρ o = builtin b ats o.type (as.map fun | .const _ => true | _ => false) (as.map ρ) := by
    unfold execOp
    rw [hop]
    rfl
  rw [e]
  cases b <;> first | (cases hb; done) | skip
  · exact sv (s_append _ _ _)
  · exact sv (s_cap _ _ _)
  · exact sv (s_copy _ _ _)
  · exact sv (s_len _ _ _)
theorem call_op (ρ : Operand → Value) (o : Oper) {f : FuncId} {as : Array Operand} {ats : Array TypeId} (hop : o.op = .call { callee := .value (.func f), args := as, argTypes := ats }) (hρ : ρ (.func f) = .func (.func f) #[] #[])
    {fn : Func} (hf : P.funcs[f]? = some fn) (hb : fn.body.isNone = false) (hn : (fn.name == "runtime.NumGoroutine") = false) :
    Sound P X (execOp ρ o) ∧ Ends P (fun n => ∃ args, n = .enter f args) (execOp ρ o) := by
  have e : ∃ args, execOp ρ o = callFunc f args := by
    refine ⟨(#[] ++ as.map ρ) ++ #[], ?_⟩
    unfold execOp
    rw [hop]
    show (do let d ← resolve ρ _ o.type; invoke d.target d.args) = _
    simp only [resolve, hρ]
    rfl
  obtain ⟨args, e⟩ := e
  rw [e]
  have e2 : ∀ w es, (callFunc f args).runT P w es = (.ok (.enter f args) w, es) := fun w es => by
    unfold callFunc
    show Sem.runT P (match P.funcs[f]? with | none => _ | some fn => _) w es = _
    rw [hf]
    simp only [hn, hb]
    rfl
  constructor
  · intro n w u es h
    rw [e2, e2]
    exact fun _ => ⟨fun _ he => .inl he, w, rfl, On.refl h⟩
  · intro w es n w' es' h
    rw [e2] at h
    cases h
    exact ⟨args, rfl⟩

def isInt (P : Program) (t : TypeId) : Bool := match P.underlying t with | some (.int _) => true | _ => false
theorem isInt_of {t : TypeId} (h : isInt P t = true) : ∃ k, P.underlying t = some (.int k) := by
  unfold isInt at h
  split at h
  · rename_i k hk; exact ⟨k, hk⟩
  · cases h
theorem s_bytesToString (x : Value) : Sound P X (Conv.bytesToString x) := by
  unfold Conv.bytesToString
  repeat' first | (with_reducible first | exact Sound.pure' _ | exact s_stuck _ | exact s_loads _ _ | refine s_forArr (fun _ _ => ?_) _ _ | refine Sound.bind ?_ (fun _ => ?_)) | (dsimp only) | split
theorem s_convertBytes {src dst e : TypeId} {x : Value} (h1 : P.underlying src = some (.slice e)) (h2 : P.underlying dst = some .string) (h3 : P.underlying e = some (.int .u8)) : Sound P X (convert src dst x) := by
  unfold convert
  refine s_undK h1 (s_undK h2 ?_)
  cases x <;> first | exact Sound.pure' _ | exact s_undK h3 (s_bytesToString _)
/-- What is turned: an int into an int, bytes into a string. -/
def convOk (P : Program) (a b : TypeId) : Bool := (isInt P a && isInt P b) || (match P.underlying a, P.underlying b with
  | some (.slice e), some .string => (match P.underlying e with | some (.int .u8) => true | _ => false)
  | _, _ => false)
theorem convert_op (ρ : Operand → Value) (o : Oper) {a b : TypeId} {x : Operand} (hop : o.op = .convert a b x) (h : convOk P a b = true) : Sound P X (execOp ρ o) ∧ Ends P Plain (execOp ρ o) := by
  have e : execOp ρ o = (do pure (.value (← convert a b (ρ x)))) := by unfold execOp; rw [hop]
  rw [e]
  unfold convOk at h
  rw [Bool.or_eq_true, Bool.and_eq_true] at h
  rcases h with ⟨h1, h2⟩ | h
  · obtain ⟨j, hj⟩ := isInt_of h1
    obtain ⟨k, hk⟩ := isInt_of h2
    exact sv (s_convertInt hj hk)
  · split at h
    · rename_i e h1 h2
      split at h
      · rename_i h3
        exact sv (s_convertBytes h1 h2 h3)
      · cases h
    · cases h

/-- An operation that is let by: it calls nothing, or a function of the set s that its text names. -/
def opOk (P : Program) (s : Nat → Bool) : Op → Bool
  | .call { callee := .value (.func f), .. } => s f
  | .call { callee := .builtin b, .. } => bFine b
  | .convert a b _ => convOk P a b
  | o => opPlain o
def codeOk (P : Program) (s : Nat → Bool) : Code → Bool
  | .skip | .exit _ | .label _ | .ret => true
  | .region _ ops _ => ops.all fun o => opOk P s o.op
  | .seq a b => codeOk P s a && codeOk P s b
  | .cond _ a b => codeOk P s a && codeOk P s b
  | .block _ b => codeOk P s b
  | .loop b => codeOk P s b
  | .scope b => codeOk P s b
  | _ => false
def itemOk (P : Program) (s : Nat → Bool) : Item → Prop
  | .code c => codeOk P s c = true
  | .inBlock _ => True
  | .inLoop c => codeOk P s c = true
  | .inScope c => codeOk P s c = true
  | .inRegion ops l => ∀ i ∈ l, ∀ o, ops[i]? = some o → opOk P s o.op = true
  | _ => False
structure FrOk (P : Program) (s : Nat → Bool) (fr : Frame) : Prop where
  todo : ∀ i ∈ fr.todo, itemOk P s i
  defers : fr.defers = []
  kind : fr.kind = .normal
  round : fr.roundOf = none
  fn : ∃ fn, P.funcs[fr.fn]? = some fn
structure SetOk (P : Program) (s : Nat → Bool) : Prop where
  out : ∀ f, s f = true → ∃ fn body, P.funcs[f]? = some fn ∧ fn.body = some body ∧ codeOk P s body = true ∧ (fn.name == "runtime.NumGoroutine") = false
  step : ∀ g, gN ≤ g → P.stepOf g = none

variable {s : Nat → Bool}
theorem opOk_cases {o : Op} (h : opOk P s o = true) : (∃ f as ats, o = .call { callee := .value (.func f), args := as, argTypes := ats } ∧ s f = true) ∨ (∃ b as ats, o = .call { callee := .builtin b, args := as, argTypes := ats } ∧ bFine b = true) ∨
    (∃ a b x, o = .convert a b x ∧ convOk P a b = true) ∨ opPlain o = true := by
  unfold opOk at h
  split at h
  · exact .inl ⟨_, _, _, rfl, h⟩
  · exact .inr (.inl ⟨_, _, _, rfl, h⟩)
  · exact .inr (.inr (.inl ⟨_, _, _, rfl, h⟩))
  · exact .inr (.inr (.inr h))
theorem ok_op (S : SetOk P s) (fr : Frame) (o : Oper) (h : opOk P s o.op = true) : Sound P X (execOp fr.eval o) ∧ Ends P (fun n => Plain n ∨ ∃ f args, s f = true ∧ n = .enter f args) (execOp fr.eval o) := by
  have pl : Sound P X (execOp fr.eval o) ∧ Ends P Plain (execOp fr.eval o) → Sound P X (execOp fr.eval o) ∧ Ends P (fun n => Plain n ∨ ∃ f args, s f = true ∧ n = .enter f args) (execOp fr.eval o) :=
    fun ⟨a, b⟩ => ⟨a, fun w es n w' es' h => .inl (b w es n w' es' h)⟩
  rcases opOk_cases h with ⟨f, as, ats, hop, hf⟩ | ⟨b, as, ats, hop, hb⟩ | ⟨a, b, x, hop, h1⟩ | hp
  · obtain ⟨fn, body, h1, h2, _, h4⟩ := S.out f hf
    obtain ⟨a, b⟩ := call_op (P := P) (X := X) fr.eval o hop rfl h1 (by rw [h2]; rfl) h4
    exact ⟨a, fun w es n w' es' hh => by obtain ⟨as, e⟩ := b w es n w' es' hh; exact .inr ⟨f, as, hf, e⟩⟩
  · exact pl (builtin_op _ o hop hb)
  · exact pl (convert_op _ o hop h1)
  · exact pl (plain_op _ o hp)
theorem enter_ok (S : SetOk P s) {f : FuncId} (h : s f = true) (args : Array Value) : FrOk P s (Frame.enter P f args .normal) := by
  obtain ⟨fn, body, h1, h2, h3, _⟩ := S.out f h
  refine ⟨fun i hi => ?_, rfl, rfl, rfl, fn, h1⟩
  simp only [Frame.enter, h1, Option.bind_some, h2, Option.getD_some, List.mem_singleton] at hi
  subst hi
  exact h3
theorem finish_ok {fr : Frame} (h : FrOk P s fr) (v : Value) : FrOk P s (fr.finish v) := by
  unfold Frame.finish
  split
  · rename_i ops i rest k ht
    refine ⟨fun x hx => ?_, h.defers, h.kind, h.round, h.fn⟩
    have hk := h.todo
    rw [ht] at hk
    rcases List.mem_cons.1 hx with rfl | hx
    · exact fun j hj => hk (.inRegion ops (i :: rest)) (by simp) j (by simp [hj])
    · exact hk x (by simp [hx])
  all_goals first | exact h | (rename_i ht; exfalso; have hk := h.todo; rw [ht] at hk; exact hk _ (List.mem_cons_self ..))
theorem raise_ok {fr : Frame} (h : FrOk P s fr) (c : List PanicEntry) : FrOk P s (fr.raise c) := by
  unfold Frame.raise
  split <;> exact ⟨h.todo, h.defers, h.kind, h.round, h.fn⟩
theorem mode_ok {fr : Frame} (h : FrOk P s fr) (m : FrameMode) : FrOk P s { fr with mode := m } := ⟨h.todo, h.defers, h.kind, h.round, h.fn⟩
theorem todo_ok {fr : Frame} (h : FrOk P s fr) {l : List Item} (hl : ∀ i ∈ l, itemOk P s i) : FrOk P s { fr with todo := l } := ⟨hl, h.defers, h.kind, h.round, h.fn⟩

/-- The two worlds agree in every answer to come. -/
def Full (X : Nat → Prop) (w u : World) : Prop := ∀ n, Sim X n w u
theorem Full.on {n : Nat} {w u w' u' : World} (h : Full X w u) (ho : On X n w u w' u') : Full X w' u' := fun m => by
  obtain ⟨k, _, dw, du, hs⟩ := ho.drew
  exact ⟨hs.size, hs.old, hs.same, hs.cov, hs.pend, hs.os, hs.output, fun i q _ => by
    rw [ho.tw, ho.tu, dw, du, Nat.add_assoc, Nat.add_assoc]
    exact (h (k + i + 1)).tape (k + i) q (by omega)⟩
theorem Full.self {n : Nat} {w u : World} (h : Sim X n w u) : Full (fun _ => False) w w := fun _ => ⟨rfl, fun _ h => h.elim, fun _ _ => rfl, fun _ h => h.elim, h.pend, rfl, rfl, fun _ _ _ => rfl⟩
/-- A run by itself comes to no end that never comes. -/
theorem Sound.sane {q : Sem α} (hq : Sound P (fun _ => False) q) {n : Nat} {w u : World} (h : Sim X n w u) {k : Halt} {w1 : World} {es : Array Event} (e : q.runT P w #[] = (.halt k w1, es)) : early? k = false := by
  have ha := hq (rdr (q.runT P w #[]).1) w w #[] (Full.self h _) (.inl (Nat.le_add_left _ _))
  rw [e] at ha
  exact ha.1

/-- One step of the lone run's is the end of all, or it goes on, and so it does in the other world. -/
def Carries (P : Program) (X : Nat → Prop) (s : Nat → Bool) (n : Nat) (cu cw : List Frame) (w u : World) (su sw : GStep) : Prop :=
  (Full X w u → (∃ o x es, su = .ended o x es) ∨ ∃ fr' new u' w' es, su = .go (G fr' (new ++ cu)) u' es ∧ sw = .go (G fr' (new ++ cw)) w' es ∧ FrOk P s fr' ∧ (∀ c ∈ new, FrOk P s c) ∧ (∃ m, On X m w u w' u') ∧ ∀ e ∈ es, Fine X e) ∧
  (∀ g1 w1 e1, sw = .go g1 w1 e1 → w1.drawn ≤ w.drawn + n → (∃ o x es, su = .ended o x es) ∨ ∃ fr' new u' w' es, su = .go (G fr' (new ++ cu)) u' es ∧ sw = .go (G fr' (new ++ cw)) w' es ∧ FrOk P s fr' ∧ (∀ c ∈ new, FrOk P s c) ∧ On X n w u w' u' ∧ ∀ e ∈ es, Fine X e)

/-- A variable that waits and is none of the package's: the run ends, or it waits no longer. -/
theorem early_cases (S : SetOk P s) {fr : Frame} {g : Nat} (hg : gN ≤ g) (cs : List Frame) (u : World) :
    (∃ o x es, early P fr cs none g u = .ended o x es) ∨ ∃ c e, u.heap[g]? = some (.pending c e) ∧ P.follows .staticDataAhead = false ∧ early P fr cs none g u = .go (G fr cs) { u with heap := u.heap.setIfInBounds g (.cells c e) } #[] := by
  unfold early
  cases hf : P.follows .staticDataAhead with
  | true =>
    simp only [Bool.not_true, Bool.false_eq_true, if_false, S.step g hg]
    exact .inl ⟨_, _, _, rfl⟩
  | false =>
    simp only [Bool.not_false, if_true]
    cases ho : u.heap[g]? with
    | none => exact .inl ⟨_, _, _, rfl⟩
    | some o =>
      cases o with
      | pending c e => exact .inr ⟨c, e, rfl, trivial, rfl⟩
      | _ => exact .inl ⟨_, _, _, rfl⟩

theorem apply_alike (S : SetOk P s) {fr : Frame} (h : FrOk P s fr) {ops : Array Oper} {l : List Nat} {k : List Item} (ht : fr.todo = .inRegion ops l :: k) {q : Sem Next} (he : Ends P (fun n => Plain n ∨ ∃ f args, s f = true ∧ n = .enter f args) q)
    {cu cw : List Frame} {w u : World} {n : Nat} (ha : AlikeR X n w u #[] (q.runT P w #[]) (q.runT P u #[])) :
    (∃ o x es, stepG.apply P true fr cu none q u = .ended o x es) ∨ ∃ fr' new u' w' es, stepG.apply P true fr cu none q u = .go (G fr' (new ++ cu)) u' es ∧ stepG.apply P true fr cw none q w = .go (G fr' (new ++ cw)) w' es ∧ FrOk P s fr' ∧ (∀ c ∈ new, FrOk P s c) ∧ On X n w u w' u' ∧ ∀ e ∈ es, Fine X e := by
  have hk : (fr.kind == CallKind.early) = false := by rw [h.kind]; rfl
  generalize hu : q.runT P u #[] = ru at ha
  unfold stepG.apply
  simp only [hu, hk, ht, if_true, Bool.false_eq_true, if_false]
  match ru, hu, ha with
  | (.ok n u1, eu), hu, ⟨hev, w1, hw, hon⟩ =>
    have hfine : ∀ e ∈ seen P fr.fn eu ++ #[], Fine X e := fun e hx => by
      rw [Array.append_empty] at hx
      exact (hev e (mem_seen hx)).elim (fun hx => by simp at hx) id
    rcases he _ _ _ _ _ hu with (⟨v, rfl⟩ | rfl) | ⟨f, args, hf, rfl⟩
    · refine .inr ⟨fr.finish v, [], u1, w1, _, rfl, ?_, finish_ok h v, by simp, hon, hfine⟩
      simp only [hw, GStep.after]; rfl
    · refine .inr ⟨fr.finish undef, [], u1, w1, _, rfl, ?_, finish_ok h undef, by simp, hon, hfine⟩
      simp only [hw, GStep.after]; rfl
    · refine .inr ⟨Frame.enter P f args .normal, [fr], u1, w1, _, rfl, ?_, enter_ok S hf args, by simpa using h, hon, hfine⟩
      simp only [hw, GStep.after]; rfl
  | (.halt k u1, eu), hu, ⟨h0, hh⟩ =>
    cases k with
    | panic v =>
      obtain ⟨hev, w1, hw, hon⟩ := hh rfl
      have hfine : ∀ e ∈ seen P fr.fn eu ++ #[], Fine X e := fun e hx => by
        rw [Array.append_empty] at hx
        exact (hev e (mem_seen hx)).elim (fun hx => by simp at hx) id
      refine .inr ⟨fr.raise [{ v, recovered := false }], [], u1, w1, _, rfl, ?_, raise_ok h _, by simp, hon, hfine⟩
      simp only [hw, GStep.after]; rfl
    | stuck x => exact .inl ⟨_, _, _, rfl⟩
    | unsupported x =>
      cases x with
      | initOrder g =>
        obtain ⟨hev, w1, hw, hon⟩ := hh rfl
        have hg : gN ≤ g := by simpa [early?] using h0
        rcases early_cases (fr := fr) S hg cu u1 with ⟨o, x, es, e⟩ | ⟨c, t, hp, hfo, e⟩
        · exact .inl ⟨o, x, seen P fr.fn #[] ++ es, by simp only [e, GStep.after]⟩
        · obtain ⟨k, hk', dw, du, hs⟩ := hon.drew
          have hx : ¬ X g := fun hx => by obtain ⟨c', e', -, hu'⟩ := hs.cov _ hx; rw [hu'] at hp; cases hp
          have hp' : w1.heap[g]? = some (.pending c t) := by rw [← hs.same g hx]; exact hp
          have ew : early P fr cw none g w1 = .go (G fr cw) { w1 with heap := w1.heap.setIfInBounds g (.cells c t) } #[] := by
            unfold early
            simp only [hfo, Bool.not_false, if_true, hp']
            rfl
          have hon2 := hs.setCells g c t (0, 0) hx
          refine .inr ⟨fr, [], { u1 with heap := u1.heap.setIfInBounds g (.cells c t) }, { w1 with heap := w1.heap.setIfInBounds g (.cells c t) }, seen P fr.fn #[] ++ #[], by simp only [e, GStep.after]; rfl, by simp only [hw, ew, GStep.after]; rfl, h, by simp, ⟨hon.tw, hon.tu, k, hk', dw, du, hon2.sim⟩, fun e he => ?_⟩
          rw [seen_none] at he
          simp at he
      | _ => first | (cases h0; done) | exact .inl ⟨_, _, _, rfl⟩
    | _ => cases h0
theorem apply_draws (S : SetOk P s) {fr : Frame} (h : FrOk P s fr) {ops : Array Oper} {l : List Nat} {k : List Item} (ht : fr.todo = .inRegion ops l :: k) {q : Sem Next} (hq : Sound P (fun _ => False) q) (he : Ends P (fun n => Plain n ∨ ∃ f args, s f = true ∧ n = .enter f args) q)
    {cw : List Frame} {w u : World} {n : Nat} (hs : Sim X n w u) {g1 : Goroutine} {w1 : World} {e1 : Array Event} (hst : stepG.apply P true fr cw none q w = .go g1 w1 e1) : rdr (q.runT P w #[]).1 = w1.drawn := by
  have hk : (fr.kind == CallKind.early) = false := by rw [h.kind]; rfl
  have sane := fun k w1 es => Sound.sane hq hs (k := k) (w1 := w1) (es := es)
  unfold stepG.apply at hst
  generalize hu : q.runT P w #[] = ru at hst
  simp only [hk, ht, if_true, Bool.false_eq_true, if_false] at hst
  match ru, hu, hst with
  | (.ok n u1, eu), hu, hst =>
    rcases he _ _ _ _ _ hu with (⟨v, rfl⟩ | rfl) | ⟨f, args, hf, rfl⟩ <;> (simp only [GStep.after] at hst; cases hst; rfl)
  | (.halt k u1, eu), hu, hst =>
    have h0 := sane k u1 eu hu
    cases k with
    | panic v => simp only [GStep.after] at hst; cases hst; rfl
    | stuck x => simp only [GStep.after] at hst; cases hst
    | unsupported x =>
      cases x with
      | initOrder g =>
        have hg : gN ≤ g := by simpa [early?] using h0
        rcases early_cases (fr := fr) S hg cw u1 with ⟨o, x, es, e⟩ | ⟨c, t, hp, hfo, e⟩
        · simp only [e, GStep.after] at hst; cases hst
        · simp only [e, GStep.after] at hst; cases hst; rfl
      | _ => first | (cases h0; done) | (simp only [GStep.after] at hst; cases hst)
    | _ => cases h0
theorem apply_carried (S : SetOk P s) {fr : Frame} (h : FrOk P s fr) {ops : Array Oper} {l : List Nat} {k : List Item} (ht : fr.todo = .inRegion ops l :: k) {q : Sem Next} (hq : Sound P X q) (hq0 : Sound P (fun _ => False) q) (he : Ends P (fun n => Plain n ∨ ∃ f args, s f = true ∧ n = .enter f args) q)
    {cu cw : List Frame} {w u : World} {n : Nat} (hs : Sim X n w u) : Carries P X s n cu cw w u (stepG.apply P true fr cu none q u) (stepG.apply P true fr cw none q w) := by
  constructor
  · intro hf
    rcases apply_alike S h ht he (cu := cu) (cw := cw) (hq (rdr (q.runT P u #[]).1) w u #[] (hf _) (.inr (Nat.le_add_left _ _))) with h1 | ⟨fr', new, u', w', es, a1, a2, a3, a4, a5, a6⟩
    · exact .inl h1
    · exact .inr ⟨fr', new, u', w', es, a1, a2, a3, a4, ⟨_, a5⟩, a6⟩
  · intro g1 w1 e1 hst hd
    exact apply_alike S h ht he (hq n w u #[] hs (.inl (by rw [apply_draws S h ht hq0 he hs hst]; exact hd)))
end
end Go.Proofs.YtnojjmkmkelbgaaGreat

/- Runs carried over, 9: one step of a goroutine whose frames are of functions that call no others than their texts name. -/
namespace Go.Proofs.YtnojjmkmkelbgaaGreat
open Go.Conc

section
variable {P : Program} {X : Nat → Prop} {s : Nat → Bool}

theorem exitTo_ok {id : Nat} : ∀ {k l : List Item}, (∀ i ∈ k, itemOk P s i) → exitTo id k = some l → ∀ i ∈ l, itemOk P s i
  | [], l, _, h => by cases h
  | x :: k, l, hk, h => by
    have ih := fun hh => exitTo_ok (id := id) (k := k) (l := l) (fun i hi => hk i (by simp [hi])) hh
    cases x <;> simp only [exitTo] at h <;> first | exact ih h | skip
    split at h
    · cases h; exact fun i hi => hk i (by simp [hi])
    · exact ih h

theorem all_ops0 {ops : Array Oper} (h : (ops.all fun o => opOk P s o.op) = true) : ∀ o ∈ ops, opOk P s o.op = true := by
  intro o ho
  obtain ⟨i, hi, rfl⟩ := Array.mem_iff_getElem.1 ho
  exact Array.all_eq_true.1 h i hi
theorem all_ops {ops : Array Oper} (h : (ops.all fun o => opOk P s o.op) = true) {l : List Nat} : itemOk P s (.inRegion ops l) := fun _ _ o ho => all_ops0 h o (Array.mem_of_getElem? ho)
theorem ok1 {a : Item} {k : List Item} (ha : itemOk P s a) (hk : ∀ i ∈ k, itemOk P s i) : ∀ i ∈ a :: k, itemOk P s i := fun i hx => (List.mem_cons.1 hx).elim (fun e => e ▸ ha) (hk i)
theorem ok2 {a b : Item} {k : List Item} (ha : itemOk P s a) (hb : itemOk P s b) (hk : ∀ i ∈ k, itemOk P s i) : ∀ i ∈ a :: b :: k, itemOk P s i := ok1 ha (ok1 hb hk)

theorem run_carried (S : SetOk P s) {fr : Frame} (h : FrOk P s fr) (hm : fr.mode = .run) {cu cw : List Frame} {w u : World} {n : Nat} (hs : Sim X n w u) :
    Carries P X s n cu cw w u (stepG P true (G fr cu) u) (stepG P true (G fr cw) w) := by
  have hr := h.round
  have still : ∀ {fr' : Frame}, FrOk P s fr' → (∀ cs x, stepG P true (G fr cs) x = .go (G fr' cs) x #[]) → Carries P X s n cu cw w u (stepG P true (G fr cu) u) (stepG P true (G fr cw) w) := fun {fr'} hf e => by
    rw [e, e]
    exact ⟨fun _ => .inr ⟨fr', [], u, w, #[], rfl, rfl, hf, by simp, ⟨n, On.refl hs⟩, by simp⟩, fun _ _ _ _ _ => .inr ⟨fr', [], u, w, #[], rfl, rfl, hf, by simp, On.refl hs, by simp⟩⟩
  have over : (∃ o x es, stepG P true (G fr cu) u = .ended o x es) → Carries P X s n cu cw w u (stepG P true (G fr cu) u) (stepG P true (G fr cw) w) := fun h => ⟨fun _ => .inl h, fun _ _ _ _ _ => .inl h⟩
  have ht := h.todo
  cases hto : fr.todo with
  | nil => exact still (mode_ok h .returning) (fun cs x => by simp [stepG, stepG.exec, G, hm, hto, hr])
  | cons it k =>
    rw [hto] at ht
    have hk : ∀ i ∈ k, itemOk P s i := fun i hi => ht i (by simp [hi])
    have hi : itemOk P s it := ht it (by simp)
    have go1 : ∀ (l : List Item), (∀ i ∈ l, itemOk P s i) → (∀ cs x, stepG P true (G fr cs) x = .go (G { fr with todo := l } cs) x #[]) → Carries P X s n cu cw w u (stepG P true (G fr cu) u) (stepG P true (G fr cw) w) := fun l hl e => still (todo_ok h hl) e
    cases it with
    | inBlock id => exact go1 k hk (fun cs x => by simp [stepG, stepG.exec, G, hm, hto])
    | inScope b => exact go1 k hk (fun cs x => by simp [stepG, stepG.exec, G, hm, hto])
    | inLoop b => exact go1 (.code b :: .inLoop b :: k) (ok2 hi hi hk) (fun cs x => by simp [stepG, stepG.exec, G, hm, hto])
    | inRegion ops l =>
      cases l with
      | nil => exact go1 k hk (fun cs x => by simp [stepG, stepG.exec, G, hm, hto])
      | cons i rest =>
        have fin : (∀ cs x, stepG P true (G fr cs) x = .go (G (fr.finish undef) cs) x #[]) → Carries P X s n cu cw w u (stepG P true (G fr cu) u) (stepG P true (G fr cw) w) := fun e => still (finish_ok h _) e
        cases ho : ops[i]? with
        | none => exact fin (fun cs x => by simp [stepG, stepG.exec, G, hm, hto, ho])
        | some o =>
          cases hw : Region.wanted o (yielded ops fr.tmps) with
          | false => exact fin (fun cs x => by simp [stepG, stepG.exec, G, hm, hto, ho, hw])
          | true =>
            have hoo : opOk P s o.op = true := hi i (by simp) o ho
            obtain ⟨q1, q2⟩ := ok_op (X := X) S fr o hoo
            have q0 := (ok_op (X := fun _ => False) S fr o hoo).1
            have e : ∀ cs x, stepG P true (G fr cs) x = stepG.apply P true fr cs none (execOp fr.eval o) x := fun cs x => by
              simp [stepG, stepG.exec, G, hm, hto, ho, hw, stepG.oper, Frame.oper?, hr]
            rw [e, e]
            exact apply_carried S h hto q1 q0 q2 hs
    | code c =>
      have hc : codeOk P s c = true := hi
      cases c with
      | skip => exact go1 k hk (fun cs x => by simp [stepG, stepG.exec, G, hm, hto])
      | label l => exact go1 k hk (fun cs x => by simp [stepG, stepG.exec, G, hm, hto])
      | seq a b =>
        simp only [codeOk, Bool.and_eq_true] at hc
        exact go1 (.code a :: .code b :: k) (ok2 hc.1 hc.2 hk) (fun cs x => by simp [stepG, stepG.exec, G, hm, hto])
      | block id b => exact go1 (.code b :: .inBlock id :: k) (ok2 hc trivial hk) (fun cs x => by simp [stepG, stepG.exec, G, hm, hto])
      | loop b => exact go1 (.code b :: .inLoop b :: k) (ok2 hc hc hk) (fun cs x => by simp [stepG, stepG.exec, G, hm, hto])
      | scope b => exact go1 (.code b :: .inScope b :: k) (ok2 hc hc hk) (fun cs x => by simp [stepG, stepG.exec, G, hm, hto])
      | cond c a b =>
        simp only [codeOk, Bool.and_eq_true] at hc
        cases hv : fr.eval c with
        | bool t =>
          exact go1 (.code (if t then a else b) :: k) (ok1 (by cases t <;> simp [itemOk, hc.1, hc.2]) hk) (fun cs x => by simp only [stepG, stepG.exec, G, hm, hto, hv])
        | _ => exact over ⟨_, _, _, by simp only [stepG, stepG.exec, G, hm, hto, hv]; rfl⟩
      | ret => exact still (mode_ok h .returning) (fun cs x => by simp [stepG, stepG.exec, G, hm, hto, hr])
      | exit id =>
        cases hx : exitTo id k with
        | some l => exact go1 l (exitTo_ok hk hx) (fun cs x => by simp [stepG, stepG.exec, G, hm, hto, hx])
        | none => exact over ⟨.stuck "exit, goto: no such block or label" (Frame.pos P fr), u, #[], by simp [stepG, stepG.exec, G, hm, hto, hx, hr]⟩
      | region id ops d =>
        cases d with
        | false => exact go1 (.inRegion ops (List.range ops.size) :: k) (ok1 (all_ops hc) hk) (fun cs x => by simp [stepG, stepG.exec, G, hm, hto])
        | true =>
          have e : ∀ cs x, stepG P true (G fr cs) x = .go (G { fr with todo := .inRegion ops (Region.schedule (P.follows .mixedOrders) ops (x.tape x.drawn (.order fr.fn id))) :: k } cs) { x with drawn := x.drawn + 1 } #[] := fun cs x => by
            simp [stepG, stepG.exec, G, hm, hto, choose, Sem.run, Question.forced, Question.cut]
          have hl : ∀ x : World, FrOk P s { fr with todo := .inRegion ops (Region.schedule (P.follows .mixedOrders) ops (x.tape x.drawn (.order fr.fn id))) :: k } := fun x => todo_ok h (ok1 (all_ops hc) hk)
          have main : ∀ m, Sim X (m + 1) w u → (∃ o x es, stepG P true (G fr cu) u = .ended o x es) ∨ ∃ fr' new u' w' es, stepG P true (G fr cu) u = .go (G fr' (new ++ cu)) u' es ∧ stepG P true (G fr cw) w = .go (G fr' (new ++ cw)) w' es ∧ FrOk P s fr' ∧ (∀ c ∈ new, FrOk P s c) ∧ On X (m + 1) w u w' u' ∧ ∀ e ∈ es, Fine X e := fun m hs => by
            have e0 : u.tape u.drawn (.order fr.fn id) = w.tape w.drawn (.order fr.fn id) := hs.tape 0 _ (by omega)
            have hlw := hl w
            rw [e, e, e0]
            exact .inr ⟨_, [], _, _, #[], rfl, rfl, hlw, by simp, ⟨rfl, rfl, 1, by omega, rfl, rfl, hs.draw⟩, by simp⟩
          constructor
          · intro hf
            rcases main 0 (hf 1) with h1 | ⟨fr', new, u', w', es, a1, a2, a3, a4, a5, a6⟩
            · exact .inl h1
            · exact .inr ⟨fr', new, u', w', es, a1, a2, a3, a4, ⟨_, a5⟩, a6⟩
          · intro g1 w1 e1 hst hd
            have e1 := hst
            rw [e] at e1
            cases e1
            cases n with
            | zero => simp only at hd; omega
            | succ m => exact main m hs
      | rangeFunc => cases hc
      | goto => cases hc
      | refuse => cases hc
    | _ => exact hi.elim

theorem s_results (fn : Func) (tmps : Array Value) : Sound P X (results fn tmps) := by
  unfold results
  refine Sound.bind (s_mapM (fun r => ?_) _) (fun _ => Sound.pure' _)
  split
  · exact Sound.pure' _
  · exact Sound.bind (s_addr _) (fun _ => s_loadVar _ _)

theorem ret_carried (_S : SetOk P s) {fr c : Frame} (h : FrOk P s fr) (hc : FrOk P s c) (hm : fr.mode = .returning) {cu cw : List Frame} {w u : World} {n : Nat} (hs : Sim X n w u) :
    Carries P X s n cu cw w u (stepG P true (G fr (c :: cu)) u) (stepG P true (G fr (c :: cw)) w) := by
  obtain ⟨fn, hf⟩ := h.fn
  have main : ∀ m, AlikeR X m w u #[] ((results fn fr.tmps).runT P w #[]) ((results fn fr.tmps).runT P u #[]) → (∃ o x es, stepG P true (G fr (c :: cu)) u = .ended o x es) ∨ ∃ fr' new u' w' es, stepG P true (G fr (c :: cu)) u = .go (G fr' (new ++ cu)) u' es ∧ stepG P true (G fr (c :: cw)) w = .go (G fr' (new ++ cw)) w' es ∧ FrOk P s fr' ∧ (∀ c ∈ new, FrOk P s c) ∧ On X m w u w' u' ∧ ∀ e ∈ es, Fine X e := fun m ha => by
    generalize hu : (results fn fr.tmps).runT P u #[] = ru at ha
    simp only [stepG, G, hm, unwind, h.defers, hf, hu, doReturn, h.kind]
    match ru, hu, ha with
    | (.ok v u1, eu), hu, ⟨hev, w1, hw, hon⟩ =>
      refine .inr ⟨c.finish v, [], u1, w1, _, rfl, by simp only [hw, GStep.after]; rfl, finish_ok hc v, by simp, hon, fun e hx => ?_⟩
      rw [Array.append_empty] at hx
      exact (hev e (mem_seen hx)).elim (fun hx => by simp at hx) id
    | (.halt k u1, eu), hu, _ => cases k <;> exact .inl ⟨_, _, _, rfl⟩
  constructor
  · intro hfu
    rcases main _ (s_results (P := P) (X := X) fn fr.tmps (rdr ((results fn fr.tmps).runT P u #[]).1) w u #[] (hfu _) (.inr (Nat.le_add_left _ _))) with h1 | ⟨fr', new, u', w', es, a1, a2, a3, a4, a5, a6⟩
    · exact .inl h1
    · exact .inr ⟨fr', new, u', w', es, a1, a2, a3, a4, ⟨_, a5⟩, a6⟩
  · intro g1 w1 e1 hst hd
    refine main n (s_results (P := P) (X := X) fn fr.tmps n w u #[] hs (.inl ?_))
    generalize hu : (results fn fr.tmps).runT P w #[] = ru at hst ⊢
    simp only [stepG, G, hm, unwind, h.defers, hf, hu, doReturn, h.kind] at hst
    match ru, hst with
    | (.ok v u1, eu), hst => simp only [GStep.after] at hst; cases hst; exact hd
    | (.halt k u1, eu), hst => cases k <;> (simp only [GStep.after] at hst; cases hst)

theorem pan_carried (_S : SetOk P s) {fr c : Frame} {ch : List PanicEntry} (h : FrOk P s fr) (hc : FrOk P s c) (hm : fr.mode = .panicking ch) {cu cw : List Frame} {w u : World} {n : Nat} (hs : Sim X n w u) :
    Carries P X s n cu cw w u (stepG P true (G fr (c :: cu)) u) (stepG P true (G fr (c :: cw)) w) := by
  obtain ⟨fn, hf⟩ := h.fn
  have hcat : fr.catches P = false := by unfold Frame.catches; rw [hf]
  simp only [stepG, G, hm, unwind, h.defers, hcat, Bool.false_eq_true, if_false]
  exact ⟨fun _ => .inr ⟨c.raise ch, [], u, w, _, rfl, rfl, raise_ok hc ch, by simp, ⟨n, On.refl hs⟩, by simp⟩, fun _ _ _ _ _ => .inr ⟨c.raise ch, [], u, w, _, rfl, rfl, raise_ok hc ch, by simp, On.refl hs, by simp⟩⟩
end
end Go.Proofs.YtnojjmkmkelbgaaGreat

/- Runs carried over, 10: frames above a base; the emptied world. -/
namespace Go.Proofs.YtnojjmkmkelbgaaGreat
open Go.Conc

section
variable {P : Program} {X : Nat → Prop} {s : Nat → Bool}

def SegGoes (P : Program) (X : Nat → Prop) (s : Nat → Bool) (bu bw : List Frame) (su sw : GStep) (Q : World → World → Prop) : Prop :=
  (∃ o x es, su = .ended o x es) ∨ ∃ fr' seg' u' w' es, su = .go (G fr' (seg' ++ bu)) u' es ∧ sw = .go (G fr' (seg' ++ bw)) w' es ∧ FrOk P s fr' ∧ (∀ c ∈ seg', FrOk P s c) ∧ Q w' u' ∧ ∀ e ∈ es, Fine X e
def Going (fr : Frame) (seg : List Frame) : Prop := fr.mode = .run ∨ seg ≠ []

theorem seg_carries (S : SetOk P s) {fr : Frame} {seg bu bw : List Frame} (h : FrOk P s fr) (hr : ∀ c ∈ seg, FrOk P s c) (hg : Going fr seg) {w u : World} {n : Nat} (hs : Sim X n w u) :
    (Full X w u → SegGoes P X s bu bw (stepG P true (G fr (seg ++ bu)) u) (stepG P true (G fr (seg ++ bw)) w) (fun w' u' => ∃ m, On X m w u w' u')) ∧
    (∀ g1 w1 e1, stepG P true (G fr (seg ++ bw)) w = .go g1 w1 e1 → w1.drawn ≤ w.drawn + n → SegGoes P X s bu bw (stepG P true (G fr (seg ++ bu)) u) (stepG P true (G fr (seg ++ bw)) w) (fun w' u' => On X n w u w' u')) := by
  have lift : ∀ {t : List Frame} {su sw : GStep}, (∀ c ∈ t, FrOk P s c) → Carries P X s n (t ++ bu) (t ++ bw) w u su sw →
      (Full X w u → SegGoes P X s bu bw su sw (fun w' u' => ∃ m, On X m w u w' u')) ∧ (∀ g1 w1 e1, sw = .go g1 w1 e1 → w1.drawn ≤ w.drawn + n → SegGoes P X s bu bw su sw (fun w' u' => On X n w u w' u')) := fun {t su sw} ht hc => by
    have both : ∀ {new : List Frame}, (∀ c ∈ new, FrOk P s c) → ∀ c ∈ new ++ t, FrOk P s c := fun hn c hx => (List.mem_append.1 hx).elim (hn c) (ht c)
    constructor
    · intro hf
      rcases hc.1 hf with h1 | ⟨fr', new, u', w', es, a1, a2, a3, a4, a5, a6⟩
      · exact .inl h1
      · exact .inr ⟨fr', new ++ t, u', w', es, by rw [a1, List.append_assoc], by rw [a2, List.append_assoc], a3, both a4, a5, a6⟩
    · intro g1 w1 e1 hst hd
      rcases hc.2 g1 w1 e1 hst hd with h1 | ⟨fr', new, u', w', es, a1, a2, a3, a4, a5, a6⟩
      · exact .inl h1
      · exact .inr ⟨fr', new ++ t, u', w', es, by rw [a1, List.append_assoc], by rw [a2, List.append_assoc], a3, both a4, a5, a6⟩
  cases hm : fr.mode with
  | run => exact lift hr (run_carried S h hm hs)
  | returning =>
    cases seg with
    | nil => rcases hg with hg | hg; · rw [hm] at hg; cases hg
             · exact absurd rfl hg
    | cons c t => exact lift (fun x hx => hr x (by simp [hx])) (ret_carried S h (hr c (by simp)) hm (cu := t ++ bu) (cw := t ++ bw) hs)
  | panicking ch =>
    cases seg with
    | nil => rcases hg with hg | hg; · rw [hm] at hg; cases hg
             · exact absurd rfl hg
    | cons c t => exact lift (fun x hx => hr x (by simp [hx])) (pan_carried S h (hr c (by simp)) hm (cu := t ++ bu) (cw := t ++ bw) hs)

open Classical in
noncomputable def pzObj (X : Nat → Prop) (i : Nat) (o : Obj) : Obj := if X i then (match o with | .cells _ e f => .cells #[] e f | o => o) else o
/-- The world with the blocks X emptied. -/
noncomputable def pz (X : Nat → Prop) (w : World) : World := { w with heap := w.heap.mapIdx (pzObj X) }
/-- .. with another tape, read from another count on. -/
noncomputable def pzT (X : Nat → Prop) (w : World) (τ : Nat → Question → Nat) (d : Nat) : World := { pz X w with tape := τ, drawn := d }
structure Base (X : Nat → Prop) (w : World) : Prop where
  old : ∀ b, X b → b < w.heap.size
  cov : ∀ b, X b → ∃ c e, w.heap[b]? = some (Obj.cells c e (0, 0))
  pend : ∀ (b : Nat) (c : Array Value) (t : TypeId), w.heap[b]? = some (Obj.pending c t) → gN ≤ b
theorem pz_get (w : World) (b : Nat) : (pz X w).heap[b]? = (w.heap[b]?).map (pzObj X b) := by simp [pz]
theorem sim_pz {w : World} (h : Base X w) {τ : Nat → Question → Nat} {d n : Nat} (ht : ∀ i q, i < n → τ (d + i) q = w.tape (w.drawn + i) q) : Sim X n w (pzT X w τ d) := by
  refine ⟨by simp [pzT, pz], h.old, fun b hb => ?_, fun b hb => ?_, h.pend, rfl, rfl, ht⟩
  · show (pz X w).heap[b]? = _
    rw [pz_get]
    cases w.heap[b]? with
    | none => rfl
    | some o => simp [pzObj, hb]
  · obtain ⟨c, e, hw⟩ := h.cov b hb
    refine ⟨c, e, hw, ?_⟩
    show (pz X w).heap[b]? = _
    rw [pz_get, hw]
    simp [pzObj, hb]
theorem Sim.base {n : Nat} {w u : World} (h : Sim X n w u) : Base X w := ⟨h.old, fun b hb => by obtain ⟨c, e, hw, _⟩ := h.cov b hb; exact ⟨c, e, hw⟩, h.pend⟩
theorem Sim.eq_pz {n : Nat} {w u : World} (h : Sim X n w u) : u = pzT X w u.tape u.drawn := by
  have hh : u.heap = (pz X w).heap := by
    apply Array.ext_getElem?
    intro b
    rw [pz_get]
    by_cases hb : X b
    · obtain ⟨c, e, hw, hu⟩ := h.cov b hb
      rw [hu, hw]; simp [pzObj, hb]
    · rw [h.same b hb]
      cases w.heap[b]? with
      | none => rfl
      | some o => simp [pzObj, hb]
  cases u
  simp only [pzT, pz] at hh ⊢
  have h1 := h.os
  have h2 := h.output
  simp only at h1 h2
  subst hh h1 h2
  rfl
theorem On.base {n : Nat} {w u w' u' : World} (h : On X n w u w' u') : Base X w' := by
  obtain ⟨_, _, _, _, hs⟩ := h.drew
  exact hs.base
end
end Go.Proofs.YtnojjmkmkelbgaaGreat

/- Runs carried over, 11: the lone run over a base that lets nothing by; a run whose tape is shifted. -/
namespace Go.Proofs.YtnojjmkmkelbgaaGreat
open Go.Conc

section
variable {P : Program} {X : Nat → Prop} {s : Nat → Bool}

theorem lone_next {fr fr' : Frame} {cs cs' : List Frame} {u u' : World} {es : Array Event} (h : stepG P true (G fr cs) u = .go (G fr' cs') u' es) : step P (lone fr cs u) = .next (lone fr' cs' u') :=
  step_lone_go (by
    have e : stepG P true { frame := fr, callers := cs, status := .running, dying := none } u = .go (G fr' cs') u' es := h
    rw [e]; rfl)
theorem lone_ended {fr : Frame} {cs : List Frame} {u u' : World} {o : Outcome} {es : Array Event} (h : stepG P true (G fr cs) u = .ended o u' es) : step P (lone fr cs u) = .ended o u' :=
  step_lone_ended (by
    have e : stepG P true { frame := fr, callers := cs, status := .running, dying := none } u = .ended o u' es := h
    rw [e]; rfl)
theorem lone_inj {fr fr' : Frame} {cs cs' : List Frame} {u u' : World} (h : lone fr cs u = lone fr' cs' u') : fr = fr' ∧ cs = cs' ∧ u = u' := by
  simp only [lone, Machine.mk.injEq, Array.mk.injEq, List.cons.injEq, Goroutine.mk.injEq] at h
  exact ⟨h.2.1.1.1, h.2.1.1.2.1, h.1⟩

/-- A frame below which a lone run does not come back: a return into it ends the machine, a panic does. -/
def c0 (P : Program) : Frame := { fn := P.funcs.size, tmps := #[], todo := [.code (.refuse "")], defers := [{ target := .nil, args := #[] }], mode := .run, kind := .normal }

/-- The lone run's end, if it is left by a return: reached when the first frame of the segment leaves. -/
theorem root_last (_S : SetOk P s) {fr fe : Frame} (h : FrOk P s fr) (hm : ¬ Going fr []) {u ue : World} : ∀ {N : Nat}, runN P N (lone fr [c0 P] u) = .next (lone fe [c0 P] ue) → N = 0
  | 0, _ => rfl
  | N + 1, hr => by
    exfalso
    obtain ⟨fn, hf⟩ := h.fn
    have hcat : fr.catches P = false := by unfold Frame.catches; rw [hf]
    have dead : ∀ (c : Frame) (x : World), (c = (c0 P) ∨ ∃ ch, c = (c0 P).raise ch) → ∀ M, runN P M (lone c [] x) ≠ .next (lone fe [c0 P] ue) := fun c x hc M hM => by
      have hend : ∃ o y es, stepG P true (G c []) x = .ended o y es := by
        rcases hc with rfl | ⟨ch, rfl⟩
        · exact ⟨_, _, _, by simp only [stepG, stepG.exec, G, c0]; rfl⟩
        · exact ⟨_, _, _, by simp only [stepG, G, c0, Frame.raise, unwind, callDeferred]; rfl⟩
      obtain ⟨o, y, es, he⟩ := hend
      cases M with
      | zero => simp only [runN, Stepped.next.injEq] at hM; have := (lone_inj hM).2.1; cases this
      | succ M => simp only [runN, lone_ended he] at hM; cases hM
    simp only [runN] at hr
    cases hmo : fr.mode with
    | run => exact hm (.inl hmo)
    | panicking ch =>
      have e : stepG P true (G fr [c0 P]) u = .go (G ((c0 P).raise ch) []) u #[] := by
        simp [stepG, G, hmo, unwind, h.defers, hcat]
      rw [lone_next e] at hr
      exact dead _ _ (.inr ⟨ch, rfl⟩) N hr
    | returning =>
      generalize hu : (results fn fr.tmps).runT P u #[] = ru
      match ru, hu with
      | (.ok v u1, eu), hu =>
        have e : stepG P true (G fr [c0 P]) u = .go (G (c0 P) []) u1 (seen P fr.fn eu ++ #[]) := by
          simp only [stepG, G, hmo, unwind, h.defers, hf, hu, doReturn, h.kind, GStep.after]
          rfl
        rw [lone_next e] at hr
        exact dead _ _ (.inl rfl) N hr
      | (.halt k u1, eu), hu =>
        have e : ∃ o y es, stepG P true (G fr [c0 P]) u = .ended o y es := by
          simp only [stepG, G, hmo, unwind, h.defers, hf, hu]
          cases k <;> exact ⟨_, _, _, rfl⟩
        obtain ⟨o, y, es, e⟩ := e
        rw [lone_ended e] at hr
        cases hr

theorem Full.symm {u v : World} (h : Full (fun _ => False) u v) : Full (fun _ => False) v u := fun n =>
  ⟨(h n).size.symm, fun _ h => h.elim, fun b hb => ((h n).same b hb).symm, fun _ h => h.elim, (h n).pendU, (h n).os.symm, (h n).output.symm, fun i q hi => ((h n).tape i q hi).symm⟩
theorem Full.trans {u v x : World} (h : Full (fun _ => False) u v) (k : Full (fun _ => False) v x) : Full (fun _ => False) u x := fun n =>
  ⟨(k n).size.trans (h n).size, fun _ h => h.elim, fun b hb => ((k n).same b hb).trans ((h n).same b hb), fun _ h => h.elim, (h n).pend, (k n).os.trans (h n).os, (k n).output.trans (h n).output, fun i q hi => ((k n).tape i q hi).trans ((h n).tape i q hi)⟩
/-- The same run on a tape that is shifted. -/
theorem shift (S : SetOk P s) : ∀ (N : Nat) {fr fe : Frame} {seg : List Frame} {u v ue : World}, FrOk P s fr → (∀ c ∈ seg, FrOk P s c) → Full (fun _ => False) u v → runN P N (lone fr (seg ++ [c0 P]) u) = .next (lone fe [c0 P] ue) →
    ∃ ve, runN P N (lone fr (seg ++ [c0 P]) v) = .next (lone fe [c0 P] ve) ∧ Full (fun _ => False) ue ve
  | 0, fr, fe, seg, u, v, ue, h, hr, hf, hrun => by
    simp only [runN, Stepped.next.injEq] at hrun
    obtain ⟨e1, e2, e3⟩ := lone_inj hrun
    subst e1 e3
    exact ⟨v, by simp only [runN, e2], hf⟩
  | N + 1, fr, fe, seg, u, v, ue, h, hr, hf, hrun => by
    by_cases hg : Going fr seg
    · have hf' := hf.symm
      rcases (seg_carries S (bu := [c0 P]) (bw := [c0 P]) h hr hg (hf' 0)).1 hf' with ⟨o, x, es, e⟩ | ⟨fr', seg', u', v', es, e1, e2, a3, a4, ⟨m, a5⟩, _⟩
      · simp only [runN, lone_ended e] at hrun; cases hrun
      · simp only [runN, lone_next e1] at hrun
        obtain ⟨ve, q1, q2⟩ := shift S N a3 a4 (hf'.on a5).symm hrun
        exact ⟨ve, by simp only [runN, lone_next e2]; exact q1, q2⟩
    · have hseg : seg = [] := by
        cases seg with
        | nil => rfl
        | cons c t => exact absurd (.inr (by simp)) hg
      subst hseg
      have := root_last S h hg hrun
      omega
end
end Go.Proofs.YtnojjmkmkelbgaaGreat

/- Runs carried over, 12: a state whose lone run comes to its end on every tape keeps that, whatever the others draw between its steps. -/
namespace Go.Proofs.YtnojjmkmkelbgaaGreat
open Go.Conc

section
variable {P : Program} {X : Nat → Prop} {s : Nat → Bool} {E : Frame → Prop} {F : Frame → World → Prop}

/-- The lone run comes to an end of the kind E, on every tape. -/
def K (P : Program) (X : Nat → Prop) (E : Frame → Prop) (F : Frame → World → Prop) (fr : Frame) (seg : List Frame) (w : World) : Prop :=
  ∀ τ d, ∃ N fe ue, runN P N (lone fr (seg ++ [c0 P]) (pzT X w τ d)) = .next (lone fe [c0 P] ue) ∧ E fe ∧ F fe ue
abbrev Rtn (fr : Frame) : Prop := fr.mode = .returning
structure St (P : Program) (X : Nat → Prop) (s : Nat → Bool) (E : Frame → Prop) (F : Frame → World → Prop) (fr : Frame) (seg : List Frame) (w : World) : Prop where
  top : FrOk P s fr
  rest : ∀ c ∈ seg, FrOk P s c
  base : Base X w
  ends : K P X E F fr seg w

theorem Base.at {w : World} (h : Base X w) (d : Nat) : Base X (w.at d) := ⟨h.old, h.cov, h.pend⟩
theorem pzT_at (w : World) (d : Nat) (τ : Nat → Question → Nat) (d' : Nat) : pzT X (w.at d) τ d' = pzT X w τ d' := rfl

theorem K.next {fr : Frame} {seg : List Frame} {w : World} (h : K P X E F fr seg w) (hg : seg = [] → ¬ E fr) (τ : Nat → Question → Nat) (d : Nat) :
    ∃ m, step P (lone fr (seg ++ [c0 P]) (pzT X w τ d)) = .next m ∧ ∃ N fe ue, runN P N m = .next (lone fe [c0 P] ue) ∧ E fe ∧ F fe ue := by
  obtain ⟨N, fe, ue, hr, hm, hF⟩ := h τ d
  cases N with
  | zero =>
    exfalso
    simp only [runN, Stepped.next.injEq] at hr
    obtain ⟨e1, e2, _⟩ := lone_inj hr
    have hseg : seg = [] := by
      cases seg with
      | nil => rfl
      | cons c t => have := congrArg List.length e2; simp at this
    exact hg hseg (e1 ▸ hm)
  | succ N =>
    simp only [runN] at hr
    cases hs : step P (lone fr (seg ++ [c0 P]) (pzT X w τ d)) with
    | next m => rw [hs] at hr; exact ⟨m, rfl, N, fe, ue, hr, hm, hF⟩
    | ended o x => rw [hs] at hr; cases hr

theorem step_st (S : SetOk P s) (hF : ∀ fe u v, Full (fun _ => False) u v → F fe u → F fe v) {fr : Frame} {seg : List Frame} {w : World} (h : St P X s E F fr seg w) (hg : Going fr seg) (hE : seg = [] → ¬ E fr) (bw : List Frame) (d : Nat) :
    ∃ fr' seg' w' es k, stepG P true (G fr (seg ++ bw)) (w.at d) = .go (G fr' (seg' ++ bw)) w' es ∧ (∀ e ∈ es, Fine X e) ∧ St P X s E F fr' seg' w' ∧ w'.tape = w.tape ∧ w'.drawn = d + k ∧
      ∀ τ d0, (∀ i q, i < k → τ (d0 + i) q = w.tape (d + i) q) → step P (lone fr (seg ++ [c0 P]) (pzT X w τ d0)) = .next (lone fr' (seg' ++ [c0 P]) (pzT X w' τ (d0 + k))) := by
  have hb := h.base.at d
  have hfull : Full X (w.at d) (pzT X w w.tape d) := fun n => sim_pz hb (fun i q _ => rfl)
  have noend : ∀ τ d0, ¬ ∃ o x es, stepG P true (G fr (seg ++ [c0 P])) (pzT X w τ d0) = .ended o x es := fun τ d0 ⟨o, x, es, e⟩ => by
    obtain ⟨m, hm, _⟩ := h.ends.next hE τ d0
    rw [lone_ended e] at hm; cases hm
  rcases (seg_carries S (bu := [c0 P]) (bw := bw) h.top h.rest hg (hfull 0)).1 hfull with e | ⟨fr', seg', u', w', es, a1, a2, a3, a4, ⟨m, a5⟩, a6⟩
  · exact absurd e (noend _ _)
  obtain ⟨k, _, dw, _, hsim⟩ := a5.drew
  have clause : ∀ τ d0, (∀ i q, i < k → τ (d0 + i) q = w.tape (d + i) q) → step P (lone fr (seg ++ [c0 P]) (pzT X w τ d0)) = .next (lone fr' (seg' ++ [c0 P]) (pzT X w' τ (d0 + k))) := fun τ d0 ht => by
    have hs : Sim X k (w.at d) (pzT X w τ d0) := sim_pz hb ht
    rcases (seg_carries S (bu := [c0 P]) (bw := bw) h.top h.rest hg hs).2 _ _ _ a2 (by rw [dw]; exact Nat.le_refl _) with e | ⟨fr2, seg2, u2, w2, es2, b1, b2, _, _, b5, _⟩
    · exact absurd e (noend _ _)
    rw [a2] at b2
    rw [GStep.go.injEq] at b2
    obtain ⟨hG, hw2, -⟩ := b2
    subst hw2
    have h1 : fr' = fr2 := congrArg (·.frame) hG
    have h2 : seg' ++ bw = seg2 ++ bw := congrArg (·.callers) hG
    have h2 := List.append_cancel_right h2
    subst h1 h2
    obtain ⟨k2, _, dw2, du2, hs2⟩ := b5.drew
    have hk : k2 = k := by omega
    subst hk
    rw [lone_next b1]
    have e := hs2.eq_pz
    rw [b5.tu, du2] at e
    rw [e]
    rfl
  refine ⟨fr', seg', w', es, k, a2, a6, ⟨a3, a4, a5.base, fun τ' d' => ?_⟩, a5.tw, dw, clause⟩
  have hst := clause (fun p q => if p < k then w.tape (d + p) q else τ' (d' + (p - k)) q) 0 (fun i q hi => by simp only [Nat.zero_add, if_pos hi])
  obtain ⟨m1, e1, N, fe, ue, hr, hm, hFe⟩ := h.ends.next hE (fun p q => if p < k then w.tape (d + p) q else τ' (d' + (p - k)) q) 0
  rw [hst] at e1
  cases e1
  have hb' := a5.base
  have hs' : ∀ (τ : Nat → Question → Nat) (d : Nat), Sim X 0 w' (pzT X w' τ d) := fun τ d => sim_pz hb' (fun i q hi => by omega)
  have hfu : Full (fun _ => False) (pzT X w' (fun p q => if p < k then w.tape (d + p) q else τ' (d' + (p - k)) q) (0 + k)) (pzT X w' τ' d') := fun n =>
    ⟨rfl, fun _ h => h.elim, fun _ _ => rfl, fun _ h => h.elim, (hs' _ _).pendU, rfl, rfl, fun i q _ => by
      show τ' (d' + i) q = (if 0 + k + i < k then w.tape (d + (0 + k + i)) q else τ' (d' + (0 + k + i - k)) q)
      rw [if_neg (by omega)]
      congr 1
      omega⟩
  obtain ⟨ve, q1, q2⟩ := shift S N a3 a4 hfu hr
  exact ⟨N, fe, ve, q1, hm, hF _ _ _ q2 hFe⟩
end
end Go.Proofs.YtnojjmkmkelbgaaGreat

/- Runs carried over, 13: what comes to its end on every tape comes to it whatever the others draw between its steps. -/
namespace Go.Proofs.YtnojjmkmkelbgaaGreat
open Go.Conc

/-- Goroutine 0 comes to a stop, whatever the count of draws is ahead of each of its steps; what it lists is well. -/
inductive Run (P : Program) (X : Nat → Prop) (Stop : Goroutine → World → Prop) : Goroutine → World → Prop
  | stop {g : Goroutine} {w : World} (h : ∀ d, Stop g (w.at d)) : Run P X Stop g w
  | step {g : Goroutine} {w : World} (hr : g.status = .running) (g' : Nat → Goroutine) (w' : Nat → World) (es : Nat → Array Event) (hs : ∀ d, stepG P true g (w.at d) = .go (g' d) (w' d) (es d)) (hf : ∀ d, ∀ e ∈ es d, Fine X e) (h : ∀ d, Run P X Stop (g' d) (w' d)) : Run P X Stop g w

section
variable {P : Program} {X : Nat → Prop} {s : Nat → Bool} {E : Frame → Prop} {F : Frame → World → Prop}

/-- The place at which the segment's first frame returns. -/
def Left (P : Program) (X : Nat → Prop) (s : Nat → Bool) (F : Frame → World → Prop) (bw : List Frame) (g : Goroutine) (w : World) : Prop :=
  ∃ fe, g = G fe bw ∧ fe.mode = .returning ∧ FrOk P s fe ∧ Base X w ∧ ∀ τ d, F fe (pzT X w τ d)

theorem left_of (S : SetOk P s) {fr : Frame} {seg : List Frame} {w : World} (h : St P X s Rtn F fr seg w) (hg : ¬ Going fr seg) (bw : List Frame) (d : Nat) : Left P X s F bw (G fr (seg ++ bw)) (w.at d) := by
  have hseg : seg = [] := by
    cases seg with
    | nil => rfl
    | cons c t => exact absurd (.inr (by simp)) hg
  subst hseg
  have key : ∀ τ d, fr.mode = .returning ∧ F fr (pzT X w τ d) := fun τ d => by
    obtain ⟨N, fe, ue, hr, hm, hF⟩ := h.ends τ d
    have hN := root_last S h.top hg hr
    subst hN
    simp only [runN, List.nil_append, Stepped.next.injEq] at hr
    obtain ⟨e1, _, e3⟩ := lone_inj hr
    subst e1 e3
    exact ⟨hm, hF⟩
  exact ⟨fr, rfl, (key (fun _ _ => 0) 0).1, h.top, h.base.at d, fun τ d => (key τ d).2⟩

def Bad (P : Program) (X : Nat → Prop) (s : Nat → Bool) (F : Frame → World → Prop) (bw : List Frame) (x : Frame × List Frame × World) : Prop :=
  St P X s Rtn F x.1 x.2.1 x.2.2 ∧ ¬ Run P X (Left P X s F bw) (G x.1 (x.2.1 ++ bw)) x.2.2

theorem bad_next (S : SetOk P s) (hF : ∀ fe u v, Full (fun _ => False) u v → F fe u → F fe v) {bw : List Frame} {x : Frame × List Frame × World} (h : Bad P X s F bw x) :
    (x.2.1 = [] → ¬ Rtn x.1) ∧ ∃ (d k : Nat) (y : Frame × List Frame × World), Bad P X s F bw y ∧ y.2.2.tape = x.2.2.tape ∧
      ∀ τ d0, (∀ i q, i < k → τ (d0 + i) q = x.2.2.tape (d + i) q) → step P (lone x.1 (x.2.1 ++ [c0 P]) (pzT X x.2.2 τ d0)) = .next (lone y.1 (y.2.1 ++ [c0 P]) (pzT X y.2.2 τ (d0 + k))) := by
  obtain ⟨hst, hn⟩ := h
  have hg : Going x.1 x.2.1 := Classical.byContradiction fun hg => hn (.stop fun d => left_of S hst hg bw d)
  refine ⟨fun e h => hg.elim (fun hm => by rw [h] at hm; cases hm) (fun hh => hh e), Classical.byContradiction fun hno => hn ?_⟩
  have hs := fun d => step_st S hF hst hg (fun e h => hg.elim (fun hm => by rw [h] at hm; cases hm) (fun hh => hh e)) bw d
  let fr' := fun d => Classical.choose (hs d)
  let seg' := fun d => Classical.choose (Classical.choose_spec (hs d))
  let w' := fun d => Classical.choose (Classical.choose_spec (Classical.choose_spec (hs d)))
  let es := fun d => Classical.choose (Classical.choose_spec (Classical.choose_spec (Classical.choose_spec (hs d))))
  have sp : ∀ d, ∃ k, stepG P true (G x.1 (x.2.1 ++ bw)) (x.2.2.at d) = .go (G (fr' d) (seg' d ++ bw)) (w' d) (es d) ∧ (∀ e ∈ es d, Fine X e) ∧ St P X s Rtn F (fr' d) (seg' d) (w' d) ∧ (w' d).tape = x.2.2.tape ∧ (w' d).drawn = d + k ∧
      ∀ τ d0, (∀ i q, i < k → τ (d0 + i) q = x.2.2.tape (d + i) q) → step P (lone x.1 (x.2.1 ++ [c0 P]) (pzT X x.2.2 τ d0)) = .next (lone (fr' d) (seg' d ++ [c0 P]) (pzT X (w' d) τ (d0 + k))) :=
    fun d => Classical.choose_spec (Classical.choose_spec (Classical.choose_spec (Classical.choose_spec (hs d))))
  refine .step rfl (fun d => G (fr' d) (seg' d ++ bw)) w' es (fun d => (sp d).choose_spec.1) (fun d => (sp d).choose_spec.2.1) (fun d => ?_)
  refine Classical.byContradiction fun hr => hno ?_
  obtain ⟨k, _, _, a3, a4, _, a6⟩ := sp d
  exact ⟨d, k, (fr' d, seg' d, w' d), ⟨a3, hr⟩, a4, a6⟩

/-- No endless chain of states each of which is one step on from the one ahead of it: its draws, laid together, are a tape. -/
theorem no_chain {B0 : Frame × List Frame × World → Prop} (nxt : ∀ x, B0 x → (x.2.1 = [] → ¬ E x.1) ∧ ∃ (d k : Nat) (y : Frame × List Frame × World), B0 y ∧ y.2.2.tape = x.2.2.tape ∧
      ∀ τ d0, (∀ i q, i < k → τ (d0 + i) q = x.2.2.tape (d + i) q) → step P (lone x.1 (x.2.1 ++ [c0 P]) (pzT X x.2.2 τ d0)) = .next (lone y.1 (y.2.1 ++ [c0 P]) (pzT X y.2.2 τ (d0 + k))))
    {fr : Frame} {seg : List Frame} {w : World} (hb : B0 (fr, seg, w)) (hk : K P X E F fr seg w) : False := by
  -- an endless chain
  let B := { x : Frame × List Frame × World // B0 x }
  have nx : ∀ b : B, ∃ (d k : Nat) (y : B), y.1.2.2.tape = b.1.2.2.tape ∧ ∀ τ d0, (∀ i q, i < k → τ (d0 + i) q = b.1.2.2.tape (d + i) q) → step P (lone b.1.1 (b.1.2.1 ++ [c0 P]) (pzT X b.1.2.2 τ d0)) = .next (lone y.1.1 (y.1.2.1 ++ [c0 P]) (pzT X y.1.2.2 τ (d0 + k))) := fun b => by
    obtain ⟨_, d, k, y, h1, h2, h3⟩ := nxt b.1 b.2
    exact ⟨d, k, ⟨y, h1⟩, h2, h3⟩
  let dd := fun b : B => Classical.choose (nx b)
  let kk := fun b : B => Classical.choose (Classical.choose_spec (nx b))
  let yy := fun b : B => Classical.choose (Classical.choose_spec (Classical.choose_spec (nx b)))
  have sp : ∀ b : B, (yy b).1.2.2.tape = b.1.2.2.tape ∧ ∀ τ d0, (∀ i q, i < kk b → τ (d0 + i) q = b.1.2.2.tape (dd b + i) q) → step P (lone b.1.1 (b.1.2.1 ++ [c0 P]) (pzT X b.1.2.2 τ d0)) = .next (lone (yy b).1.1 ((yy b).1.2.1 ++ [c0 P]) (pzT X (yy b).1.2.2 τ (d0 + kk b))) :=
    fun b => Classical.choose_spec (Classical.choose_spec (Classical.choose_spec (nx b)))
  let f : Nat → B := fun i => Nat.rec (⟨(fr, seg, w), hb⟩ : B) (fun _ b => yy b) i
  have f0 : f 0 = ⟨(fr, seg, w), hb⟩ := rfl
  have fs : ∀ i, f (i + 1) = yy (f i) := fun i => rfl
  let c : Nat → Nat := fun i => Nat.rec (0 : Nat) (fun i a => a + kk (f i)) i
  have cs : ∀ i, c (i + 1) = c i + kk (f i) := fun i => rfl
  have tp : ∀ i, (f i).1.2.2.tape = w.tape := fun i => by
    induction i with
    | zero => rfl
    | succ i ih => rw [fs, (sp (f i)).1, ih]
  have cm : ∀ i j, i ≤ j → c i ≤ c j := fun i j hij => by
    induction hij with
    | refl => exact Nat.le_refl _
    | step _ ih => rw [cs]; exact Nat.le_trans ih (Nat.le_add_right _ _)
  -- its draws, laid together
  let τ : Nat → Question → Nat := fun p q => open Classical in if hx : ∃ ij : Nat × Nat, ij.2 < kk (f ij.1) ∧ p = c ij.1 + ij.2 then w.tape (dd (f hx.choose.1) + hx.choose.2) q else 0
  have hτ : ∀ i j q, j < kk (f i) → τ (c i + j) q = w.tape (dd (f i) + j) q := fun i j q hj => by
    have hx : ∃ ij : Nat × Nat, ij.2 < kk (f ij.1) ∧ c i + j = c ij.1 + ij.2 := ⟨(i, j), hj, rfl⟩
    have e : τ (c i + j) q = w.tape (dd (f hx.choose.1) + hx.choose.2) q := dif_pos hx
    rw [e]
    obtain ⟨h1, h2⟩ := hx.choose_spec
    have hi : hx.choose.1 = i := by
      rcases Nat.lt_trichotomy hx.choose.1 i with hl | hl | hl
      · have := cm _ _ hl
        rw [Nat.succ_eq_add_one, cs] at this
        omega
      · exact hl
      · have := cm _ _ hl
        rw [Nat.succ_eq_add_one, cs] at this
        omega
    have hj' : hx.choose.2 = j := by rw [hi] at h2; omega
    rw [hi, hj']
  have runs : ∀ i, runN P i (lone fr (seg ++ [c0 P]) (pzT X w τ 0)) = .next (lone (f i).1.1 ((f i).1.2.1 ++ [c0 P]) (pzT X (f i).1.2.2 τ (c i))) := fun i => by
    induction i with
    | zero => rfl
    | succ i ih =>
      rw [runN_add, ih]
      simp only [runN]
      rw [(sp (f i)).2 τ (c i) (fun j q hj => by rw [tp]; exact hτ i j q hj)]
  obtain ⟨N, fe, ue, hr, hm, _⟩ := hk τ 0
  rw [runs N, Stepped.next.injEq] at hr
  obtain ⟨e1, e2, _⟩ := lone_inj hr
  have hg := (nxt (f N).1 (f N).2).1
  have hseg : (f N).1.2.1 = [] := by
    cases hs : (f N).1.2.1 with
    | nil => rfl
    | cons a t => rw [hs] at e2; have := congrArg List.length e2; simp at this
  exact hg hseg (e1 ▸ hm)
theorem run_of_st (S : SetOk P s) (hF : ∀ fe u v, Full (fun _ => False) u v → F fe u → F fe v) (bw : List Frame) {fr : Frame} {seg : List Frame} {w : World} (h : St P X s Rtn F fr seg w) : Run P X (Left P X s F bw) (G fr (seg ++ bw)) w :=
  Classical.byContradiction fun hn => no_chain (B0 := Bad P X s F bw) (fun _ hx => bad_next S hF hx) ⟨h, hn⟩ h.ends
end
end Go.Proofs.YtnojjmkmkelbgaaGreat

/- Runs carried over, 14: the machine: goroutine 0 beside others who only leave. -/
namespace Go.Proofs.YtnojjmkmkelbgaaGreat
open Go.Conc
open Go.ConcN (sumTo upd sumTo_upd upd_ne upd_same)

section
variable {P : Program} {X : Nat → Prop} {Shun : Loc → Prop} {B : Nat}

theorem fine_low {e : Event} (h : Fine X e) : ∃ B, (MemAct.ofEvent e).low B := by
  obtain ⟨l, wr, sy⟩ := e
  cases l with
  | cell a => exact ⟨a.block + 1, Nat.lt_succ_self _⟩
  | obj r => exact ⟨r + 1, by cases wr <;> cases sy <;> exact Nat.lt_succ_self _⟩
  | mark m => cases m <;> first | exact ⟨0, trivial⟩ | exact (h : False).elim
  | _ => exact (h : False).elim
theorem fine_evL (hX : ∀ l, Shun l → ∃ a, l = .cell a ∧ X a.block) {e : Event} (h : Fine X e) (hl : (MemAct.ofEvent e).low B) : EvL Shun B e := by
  obtain ⟨l, wr, sy⟩ := e
  cases l with
  | cell a =>
    refine ⟨fun x hx hs => ?_, by simp, by simp, hl⟩
    obtain ⟨a', e, ha⟩ := hX _ hs
    simp only [MemAct.ofEvent, MemAct.touch?, Option.some.injEq] at hx
    subst hx
    cases e
    exact absurd ha h
  | obj r =>
    refine ⟨fun x hx hs => ?_, by simp, by simp, hl⟩
    obtain ⟨a', e, ha⟩ := hX _ hs
    cases wr <;> cases sy <;> simp [MemAct.ofEvent, MemAct.touch?] at hx <;> (subst hx; cases e)
  | mark m => cases m <;> first | exact (h : False).elim | exact ⟨fun x hx => by simp [MemAct.ofEvent, MemAct.touch?] at hx, by simp, by simp, hl⟩
  | _ => exact (h : False).elim
theorem fine_allS (hX : ∀ l, Shun l → ∃ a, l = .cell a ∧ X a.block) (es : Array Event) (h : ∀ e ∈ es, Fine X e) (B : Nat) : ∃ B', B ≤ B' ∧ ∀ e ∈ es, EvL Shun B' e := by
  have key : ∀ l : List Event, (∀ e ∈ l, Fine X e) → ∃ B', B ≤ B' ∧ ∀ e ∈ l, (MemAct.ofEvent e).low B' := fun l => by
    induction l with
    | nil => exact fun _ => ⟨B, Nat.le_refl _, by simp⟩
    | cons x l ih =>
      intro hl
      obtain ⟨b1, h1, h2⟩ := ih (fun e he => hl e (by simp [he]))
      obtain ⟨b2, h3⟩ := fine_low (hl x (by simp))
      refine ⟨max b1 b2, Nat.le_trans h1 (Nat.le_max_left _ _), fun e he => ?_⟩
      rcases List.mem_cons.1 he with rfl | he
      · exact MemAct.low_mono (Nat.le_max_right _ _) h3
      · exact MemAct.low_mono (Nat.le_max_left _ _) (h2 e he)
  obtain ⟨B', h1, h2⟩ := key es.toList (fun e he => h e (by simpa using he))
  exact ⟨B', h1, fun e he => fine_evL hX (h e he) (h2 e (by simpa using he))⟩

/-- Between two phases: goroutine 0 knows whatever was touched, but atomic touches of shunned places. -/
structure Fr (Shun : Loc → Prop) (B : Nat) (t : Trace) : Prop where
  past : Past Shun B t
  known : ∀ i a, touchAt t i = some a → Knows t 0 i ∨ (Shun a.loc ∧ a.kind = .atomic)
theorem Fr.mono {B' : Nat} {t : Trace} (h : Fr Shun B t) (hB : B ≤ B') : Fr Shun B' t := ⟨h.past.mono hB, h.known⟩
theorem Fr.app {B' : Nat} {t u : Trace} (h : Fr Shun B t) (hp : Past Shun B' (t ++ u)) (hu : ∀ op ∈ u, op.g = 0 ∨ op.act.touch? = none) : Fr Shun B' (t ++ u) := by
  refine ⟨hp, fun i a ha => ?_⟩
  obtain ⟨z, hz, hza⟩ := touch_of ha
  rcases getElem?_append_cases hz with ⟨_, hz'⟩ | ⟨_, hzu⟩
  · exact (h.known i a (by rw [touchAt_of hz']; exact hza)).imp (·.app u) id
  · rcases hu z hzu with h0 | h0
    · have := knows_own hz
      rw [h0] at this
      exact .inl this
    · rw [h0] at hza; cases hza
theorem Fr.own {t : Trace} (h : Fr Shun B t) {fn : FuncId} {pos : String} {es : Array Event} (hes : ∀ e ∈ es, EvL Shun B e) : Fr Shun B (t ++ MemOp.ofEvents 0 fn pos es) :=
  h.app (h.past.own hes) fun op hop => by obtain ⟨e, _, rfl⟩ := Go.Conc.mem_ofEvents hop; exact .inl rfl
theorem Fr.mute {t : Trace} (h : Fr Shun B t) {g : Nat} (hg : g ≠ 0) {fn : FuncId} {pos : String} {es : Array Event} (hm : ∀ e ∈ es, e.mute = true) : Fr Shun B (t ++ MemOp.ofEvents g fn pos es) :=
  h.app (h.past.mute hg hm) fun op hop => by obtain ⟨e, he, rfl⟩ := Go.Conc.mem_ofEvents hop; exact .inr (touch_mute (hm e he))
theorem fr_nil : Fr (fun _ => False) 0 #[] := ⟨past_nil, fun i a ha => by simp [touchAt, Trace.act?] at ha⟩

theorem at_self (w : World) : w.at w.drawn = w := rfl
theorem Run.at {Stop : Goroutine → World → Prop} {g : Goroutine} {w : World} (h : Run P X Stop g w) (d : Nat) : Run P X Stop g (w.at d) := by
  cases h with
  | stop h => exact .stop h
  | step hr g' w' es hs hf h => exact .step hr g' w' es hs hf h

theorem own_g {g : Nat} {fn : FuncId} {pos : String} {es : Array Event} : ∀ op ∈ MemOp.ofEvents g fn pos es, op.g = g := fun op hop => by obtain ⟨e, _, rfl⟩ := Go.Conc.mem_ofEvents hop; rfl

/-- One step of the machine's: goroutine 0's own, or one of a leaver's. -/
theorem beside_one {gs : Array Goroutine} {a : Goroutine} {t : Trace} {q : Nat → Nat} (h0 : gs[0]? = some a) (hr : a.status = .running) (hL : Leavers P t gs q) (hP : Fr Shun B t) (w : World) (sl : Option (Nat × Nat)) :
    ∃ d sl', (∀ g' w' es B', stepG P true a (w.at d) = .go g' w' es → (∀ e ∈ es, EvL Shun B' e) → B ≤ B' → ∃ gs' t', runNT P 1 (crowd gs w sl) t = (.next (crowd gs' w' sl'), t') ∧ gs'.size = gs.size ∧ gs'[0]? = some g' ∧ Leavers P t' gs' q ∧ Fr Shun B' t') ∨
      ∃ gs' t' q', runNT P 1 (crowd gs w sl) t = (.next (crowd gs' (w.at d) sl'), t') ∧ gs'.size = gs.size ∧ gs'[0]? = some a ∧ Leavers P t' gs' q' ∧ Fr Shun B t' ∧ sumTo gs.size q' < sumTo gs.size q := by
  have h0lt : 0 < gs.size := (Array.getElem?_eq_some_iff.1 h0).1
  have haw : ∀ g ∈ gs, awake g := fun g hg => by
    obtain ⟨i, hi⟩ := Array.mem_iff_getElem?.1 hg
    cases i with
    | zero => rw [h0] at hi; cases hi; exact awake_of (.inl hr)
    | succ i => exact awake_of ((hL.old (i + 1) g (by omega) hi).status.elim .inl fun x => .inr (.inr x))
  obtain ⟨i, g, d, sl', hi, hg, hst⟩ := crowd_pick (P := P) (w := w) (sl := sl) haw ⟨0, a, h0, hr⟩
  have ilt : i < gs.size := (Array.getElem?_eq_some_iff.1 hi).1
  -- what stands of the others, once goroutine i has gone on to g'
  have others : ∀ (g' : Goroutine) (w' : World) (es : Array Event) (j : Nat) (x : Goroutine), j ≠ i → ((gs.map (woken P g g' w')).setIfInBounds i g')[j]? = some x → ∃ y, gs[j]? = some y ∧ x = woken P g g' w' y := fun g' w' es j x hj hx => by
    rw [Array.getElem?_setIfInBounds_ne (Ne.symm hj), Array.getElem?_map] at hx
    obtain ⟨y, hy, e⟩ := Option.map_eq_some_iff.1 hx
    exact ⟨y, hy, e.symm⟩
  refine ⟨d, sl', ?_⟩
  cases i with
  | zero =>
    rw [h0] at hi
    cases hi
    refine .inl fun g' w' es B' hs hev hB => ?_
    refine ⟨_, _, by simp only [runNT, hst, runT_crowd_go (P := P) (sl := sl') (i := 0) h0 (show stepG P (0 == 0) a (w.at d) = _ from hs)]; rfl, by simp, by simp [h0lt], ⟨fun j x hj hx => ?_, fun j hj => ?_⟩, (hP.mono hB).own hev⟩
    · obtain ⟨y, hy, rfl⟩ := others g' w' es j x (by omega) hx
      have hq := hL.old j y hj hy
      rw [woken_quitsD hq, Deaf_other t (g' := 0) (by omega) _ own_g]
      exact hq
    · rw [Deaf_other t (g' := 0) (by simp at hj; omega) _ own_g]
      exact hL.above j (by simpa using hj)
  | succ i =>
    refine .inr ?_
    have hq := hL.old (i + 1) g (by omega) hi
    cases hqi : q (i + 1) with
    | zero => rw [hqi] at hq; rw [hq.1] at hg; cases hg
    | succ k =>
      rw [hqi] at hq
      rcases hq with ⟨hf, _⟩ | ⟨_, g', es, hm, hstp, hq'⟩
      · rw [hf] at hg; cases hg
      have hsum : sumTo gs.size (upd q (i + 1) k) + (k + 1) = sumTo gs.size q + k := by
        have := sumTo_upd q k id ilt
        simpa [hqi] using this
      refine ⟨_, _, upd q (i + 1) k, by simp only [runNT, hst, runT_crowd_go (P := P) (sl := sl') (i := i + 1) hi (show stepG P (i + 1 == 0) g (w.at d) = _ from hstp (w.at d))]; rfl, by simp, ?_, ⟨fun j x hj hx => ?_, fun j hj => ?_⟩, hP.mute (by omega) hm, by omega⟩
      · rw [Array.getElem?_setIfInBounds_ne (by omega), Array.getElem?_map, h0]
        simp [woken_run hr]
      · by_cases hji : j = i + 1
        · subst hji
          rw [Array.getElem?_setIfInBounds_self_of_lt (by simpa using ilt)] at hx
          cases hx
          rw [upd_same, Deaf_own]
          exact hq'
        · obtain ⟨y, hy, rfl⟩ := others g' (w.at d) es j x hji hx
          have hqj := hL.old j y hj hy
          rw [woken_quitsD hqj, upd_ne q k hji, Deaf_other t (g' := i + 1) (by omega) _ own_g]
          exact hqj
      · rw [Deaf_other t (g' := i + 1) (by simp at hj; omega) _ own_g]
        exact hL.above j (by simpa using hj)

/-- Goroutine 0 comes to its stop beside leavers, on whatever tape. -/
theorem run_beside {Stop : Goroutine → World → Prop} (hX : ∀ l, Shun l → ∃ a, l = .cell a ∧ X a.block) {a : Goroutine} {w : World} (h : Run P X Stop a w) :
    ∀ (M : Nat) (gs : Array Goroutine) (d : Nat) (sl : Option (Nat × Nat)) (t : Trace) (q : Nat → Nat) (B : Nat), sumTo gs.size q ≤ M → gs[0]? = some a → Leavers P t gs q → Fr Shun B t →
      ∃ N gs' a' w' sl' t' q' B', runNT P N (crowd gs (w.at d) sl) t = (.next (crowd gs' w' sl'), t') ∧ gs'.size = gs.size ∧ gs'[0]? = some a' ∧ Stop a' w' ∧ Leavers P t' gs' q' ∧ Fr Shun B' t' ∧ B ≤ B' := by
  induction h with
  | stop h => exact fun M gs d sl t q B _ h0 hL hP => ⟨0, gs, _, _, sl, t, q, B, rfl, rfl, h0, h d, hL, hP, Nat.le_refl _⟩
  | @step g w hr g' w' es hs hf _ ih =>
    intro M
    induction M with
    | zero =>
      intro gs d sl t q B hM h0 hL hP
      obtain ⟨d', sl', h1 | ⟨gs1, t1, q1, _, _, _, _, _, hlt⟩⟩ := beside_one h0 hr hL hP (w.at d) sl
      · obtain ⟨B', hB, hev⟩ := fine_allS hX (es d') (hf d') B
        obtain ⟨gs1, t1, r1, z1, a1, L1, P1⟩ := h1 _ _ _ B' (hs d') hev hB
        obtain ⟨N, gs2, a2, w2, sl2, t2, q2, B2, r2, z2, b2, st2, L2, P2, hB2⟩ := ih d' (sumTo gs1.size q) gs1 (w' d').drawn sl' t1 q B' (Nat.le_refl _) a1 L1 P1
        exact ⟨1 + N, gs2, a2, w2, sl2, t2, q2, B2, by rw [runNT_add, r1]; exact r2, z2.trans z1, b2, st2, L2, P2, Nat.le_trans hB hB2⟩
      · omega
    | succ M ihM =>
      intro gs d sl t q B hM h0 hL hP
      obtain ⟨d', sl', h1 | ⟨gs1, t1, q1, r1, z1, a1, L1, P1, hlt⟩⟩ := beside_one h0 hr hL hP (w.at d) sl
      · obtain ⟨B', hB, hev⟩ := fine_allS hX (es d') (hf d') B
        obtain ⟨gs1, t1, r1, z1, a1, L1, P1⟩ := h1 _ _ _ B' (hs d') hev hB
        obtain ⟨N, gs2, a2, w2, sl2, t2, q2, B2, r2, z2, b2, st2, L2, P2, hB2⟩ := ih d' (sumTo gs1.size q) gs1 (w' d').drawn sl' t1 q B' (Nat.le_refl _) a1 L1 P1
        exact ⟨1 + N, gs2, a2, w2, sl2, t2, q2, B2, by rw [runNT_add, r1]; exact r2, z2.trans z1, b2, st2, L2, P2, Nat.le_trans hB hB2⟩
      · obtain ⟨N, gs2, a2, w2, sl2, t2, q2, B2, r2, z2, b2, st2, L2, P2, hB2⟩ := ihM gs1 d' sl' t1 q1 B (by rw [z1]; omega) a1 L1 P1
        exact ⟨1 + N, gs2, a2, w2, sl2, t2, q2, B2, by rw [runNT_add, r1]; exact r2, z2.trans z1, b2, st2, L2, P2, hB2⟩
end
end Go.Proofs.YtnojjmkmkelbgaaGreat

/- Workers who read, add to one sum and leave, 0: the trace. -/
namespace Go.Proofs.YtnojjmkmkelbgaaGreat
open Go.Conc Go.ConcN
open Go.ConcR (KK wgBlock WgAt stA smA rd wr mk Payload DC0 g_of_ofEvents ofEvent_mk)

instance payZ : Payload := ⟨3⟩

/-- One phase: the group's block, the sum's, what lies below 'Low' is there when it begins; m0 goroutines stand; n workers are to be started, number i adds 'bit i'. -/
structure Ph where
  P : Program
  ty : TypeId
  tS : TypeId
  Wg : Nat
  S : Nat
  Low : Nat
  m0 : Nat
  n : Nat
  bit : Nat → Nat
  Shun : Loc → Prop
  t0 : Trace

def Ph.Sh (p : Ph) (l : Loc) : Prop := p.Shun l ∨ ShN p.Wg l ∨ ShN p.S l

structure Ph.Ok (p : Ph) : Prop where
  wg : p.Wg < p.Low
  s : p.S < p.Low
  ne : p.Wg ≠ p.S
  m0 : 1 ≤ p.m0
  shun : ∀ l, p.Shun l → ∃ a, l = .cell a ∧ a.block < p.Low ∧ a.block ≠ p.Wg ∧ a.block ≠ p.S
  n : p.n < 2147483648
  bits : sumTo p.n p.bit < 4294967296

theorem Ph.Ok.low {p : Ph} (o : p.Ok) {a : Addr} (h : p.Sh (.cell a)) : a.block < p.Low := by
  rcases h with h | ⟨b, e, hb⟩ | ⟨b, e, hb⟩
  · obtain ⟨b, e, hb, _⟩ := o.shun _ h
    cases e; exact hb
  · cases e; rw [hb]; exact o.wg
  · cases e; rw [hb]; exact o.s

/-- What goroutine g may touch. -/
def OkT (p : Ph) (ow : Nat → Nat) (h g : Nat) (x : Touch) : Prop :=
  ((ShN p.Wg x.loc ∨ ShN p.S x.loc) ∧ x.kind ≠ .plain ∧ (x.kind = .said → g = 0)) ∨
  (x.kind = .plain ∧ ∃ a, x.loc = .cell a ∧ ¬ p.Sh x.loc ∧ ((a.block < p.Low ∧ x.write = false) ∨ (p.Low ≤ a.block ∧ a.block < h ∧ ow a.block = g)))

/-- What is held of a touch in this phase. -/
def TIn (p : Ph) (t : Trace) (ow : Nat → Nat) (h N i : Nat) (op : MemOp) (x : Touch) : Prop :=
  (op.g = 0 ∨ (p.m0 ≤ op.g ∧ op.g < N)) ∧ (((ShN p.Wg x.loc ∨ ShN p.S x.loc) ∧ x.kind ≠ .plain ∧ (x.kind = .said → op.g = 0)) ∨ (x.kind = .plain ∧ ∃ a, x.loc = .cell a ∧ ¬ p.Sh x.loc ∧ ((a.block < p.Low ∧ x.write = false) ∨ (p.Low ≤ a.block ∧ a.block < h ∧ Knows t (ow a.block) i))))

structure TI (p : Ph) (t : Trace) (ow : Nat → Nat) (h N : Nat) : Prop where
  pre : ∃ u, t = p.t0 ++ u
  nr : ∀ said, ¬ Race said t
  k0 : ∀ k, (k = 0 ∨ (p.m0 ≤ k ∧ k < N)) → ∀ i a, i < p.t0.size → touchAt t i = some a → ¬ p.Shun a.loc → Knows t k i
  inn : ∀ i op x, p.t0.size ≤ i → t[i]? = some op → op.act.touch? = some x → TIn p t ow h N i op x

theorem TIn.app {p : Ph} {t : Trace} {ow : Nat → Nat} {h N i : Nat} {op : MemOp} {x : Touch} (u : Trace) (k : TIn p t ow h N i op x) : TIn p (t ++ u) ow h N i op x :=
  ⟨k.1, k.2.imp id fun ⟨h1, a, h2, h3, h4⟩ => ⟨h1, a, h2, h3, h4.imp id fun ⟨h5, h6, h7⟩ => ⟨h5, h6, h7.app u⟩⟩⟩

theorem TI.app {p : Ph} {t u : Trace} {ow : Nat → Nat} {h N g : Nat} (o : p.Ok) (k : TI p t ow h N) (hg : ∀ op ∈ u, op.g = g)
    (hu : ∀ op ∈ u, ∀ x, op.act.touch? = some x → (g = 0 ∨ (p.m0 ≤ g ∧ g < N)) ∧ OkT p ow h g x) : TI p (t ++ u) ow h N := by
  obtain ⟨u0, e0⟩ := k.pre
  have hT0 : p.t0.size ≤ t.size := by rw [e0]; simp
  have old : ∀ {i : Nat} {a : Touch}, i < p.t0.size → touchAt (t ++ u) i = some a → touchAt t i = some a := fun {i a} hi ha => by
    obtain ⟨z, hz, hza⟩ := touch_of ha
    rcases getElem?_append_cases hz with ⟨_, hz'⟩ | ⟨hi', _⟩
    · rw [touchAt_of hz']; exact hza
    · omega
  refine ⟨⟨u0 ++ u, by rw [e0, Array.append_assoc]⟩, fun said => ?_, fun k' hk i a hi ha hs => (k.k0 k' hk i a hi (old hi ha) hs).app u, fun i op x hi ho hx => ?_⟩
  · refine noRace_append (k.nr said) hg (fun i a ha op hop b hb hc => ?_)
    obtain ⟨hgg, h1 | ⟨hpl, ad, hl, hns, hcase⟩⟩ := hu op hop b hb
    · have hns : ¬ p.Shun a.loc := fun hs => by
        obtain ⟨ad, e, _, h2, h3⟩ := o.shun _ hs
        rw [hc.1] at e
        rcases h1.1 with ⟨b', e', hb'⟩ | ⟨b', e', hb'⟩ <;> (rw [e] at e'; cases e'; omega)
      rcases Nat.lt_or_ge i p.t0.size with hi | hi
      · exact k.k0 g hgg i a hi ha hns
      · obtain ⟨z, hz, hza⟩ := touch_of ha
        rcases (k.inn i z a hi hz hza).2 with ⟨_, h2, h3⟩ | ⟨_, ad, hl, hns', _⟩
        · obtain ⟨_, _, _, hcase⟩ := hc
          rcases hcase with x | x | ⟨_, x, y⟩
          · exact absurd x h2
          · exact absurd x h1.2.1
          · have := knows_own hz
            rw [h3 x] at this
            rw [h1.2.2 y]
            exact this
        · exact absurd (.inr (by rw [hc.1]; exact h1.1)) hns'
    · have hal : a.loc = .cell ad := hc.1.trans hl
      have hna : ¬ p.Sh a.loc := by rw [hc.1]; exact hns
      rcases Nat.lt_or_ge i p.t0.size with hi | hi
      · exact k.k0 g hgg i a hi ha fun hs => hna (.inl hs)
      · obtain ⟨z, hz, hza⟩ := touch_of ha
        rcases (k.inn i z a hi hz hza).2 with hs | ⟨_, ad', hl', _, hcase'⟩
        · exact absurd (.inr hs.1) hna
        · rw [hal] at hl'
          cases hl'
          rcases hcase with ⟨hlo, hrd⟩ | ⟨hlo, _, how⟩
          · rcases hcase' with ⟨_, hrd'⟩ | ⟨hlo', _⟩
            · exact absurd hc.2.2.1 (by simp [hrd, hrd'])
            · omega
          · rcases hcase' with ⟨hlo', _⟩ | ⟨_, _, hk⟩
            · omega
            · rw [how] at hk; exact hk
  · rcases getElem?_append_cases ho with ⟨_, ho'⟩ | ⟨_, hou⟩
    · exact (k.inn i op x hi ho' hx).app u
    · obtain ⟨hgg, hok⟩ := hu op hou x hx
      have hop := hg op hou
      refine ⟨by rw [hop]; exact hgg, ?_⟩
      rcases hok with h1 | ⟨hpl, ad, hl, hns, hcase⟩
      · exact .inl ⟨h1.1, h1.2.1, fun e => hop.trans (h1.2.2 e)⟩
      · refine .inr ⟨hpl, ad, hl, hns, hcase.imp id fun ⟨h1, h2, h3⟩ => ⟨h1, h2, ?_⟩⟩
        have := knows_own ho
        rw [hop] at this
        rw [h3]; exact this

/-- A new block: whoever is to have it. -/
theorem TI.fresh {p : Ph} {t : Trace} {ow : Nat → Nat} {h N : Nat} (g : Nat) (k : TI p t ow h N) : TI p t (upd ow h g) (h + 1) N :=
  ⟨k.pre, k.nr, k.k0, fun i op x hi ho hx => by
    obtain ⟨h1, h2⟩ := k.inn i op x hi ho hx
    refine ⟨h1, h2.imp id fun ⟨h3, a, h4, h5, h6⟩ => ⟨h3, a, h4, h5, h6.imp id fun ⟨h7, h8, h9⟩ => ⟨h7, by omega, ?_⟩⟩⟩
    rw [upd_ne ow g (by omega)]; exact h9⟩

/-- A go statement: what the child is to have passes to it. -/
theorem TI.fork {p : Ph} {t : Trace} {ow ow' : Nat → Nat} {h N : Nat} (k : TI p t ow h N) (hm : p.m0 ≤ N) (hN : 1 ≤ N) {x y : MemOp} (hx : x.g = 0 ∧ x.act = .go N) (hy : y.g = N ∧ y.act = .start) (h0 : Deaf t 0 = 0) (hk : Deaf t N = 0)
    (how : ∀ b, ow' b = ow b ∨ (ow b = 0 ∧ ow' b = N)) : TI p (t ++ #[x, y]) ow' h (N + 1) := by
  obtain ⟨u0, e0⟩ := k.pre
  have hT0 : p.t0.size ≤ t.size := by rw [e0]; simp
  have hnt : ∀ op ∈ #[x, y], ∀ b, op.act.touch? = some b → False := by
    intro op hop b hb
    simp only [List.mem_toArray, List.mem_cons, List.not_mem_nil, or_false] at hop
    rcases hop with rfl | rfl
    · rw [hx.2] at hb; cases hb
    · rw [hy.2] at hb; cases hb
  have old : ∀ {i : Nat} {z : MemOp} {a : Touch}, (t ++ #[x, y])[i]? = some z → z.act.touch? = some a → t[i]? = some z := fun {i z a} hz hza => by
    rcases getElem?_append_cases hz with ⟨_, hz'⟩ | ⟨_, hzu⟩
    · exact hz'
    · exact (hnt z hzu a hza).elim
  refine ⟨⟨u0 ++ #[x, y], by rw [e0, Array.append_assoc]⟩, fun said => ?_, fun k' hk' i a hi ha hs => ?_, fun i op z hi ho hz => ?_⟩
  · have e : t ++ #[x, y] = (t ++ #[x]) ++ #[y] := by apply Array.ext'; simp
    rw [e]
    refine noRace_append (g := N) (noRace_append (g := 0) (k.nr said) (fun op hop => by simp at hop; rw [hop]; exact hx.1) (fun i a _ op hop b hb _ => (hnt op (by simp at hop ⊢; exact .inl hop) b hb).elim))
      (fun op hop => by simp at hop; rw [hop]; exact hy.1) (fun i a _ op hop b hb _ => (hnt op (by simp at hop ⊢; exact .inr hop) b hb).elim)
  · obtain ⟨z, hz, hza⟩ := touch_of ha
    have ha' : touchAt t i = some a := by rw [touchAt_of (old hz hza)]; exact hza
    by_cases e : k' = N
    · subst e
      exact fork_knows hx hy h0 hk (k.k0 0 (.inl rfl) i a hi ha' hs)
    · exact (k.k0 k' (by omega) i a hi ha' hs).app _
  · obtain ⟨h1, h2⟩ := k.inn i op z hi (old ho hz) hz
    refine ⟨h1.imp id fun h => ⟨h.1, by omega⟩, h2.imp id fun ⟨h3, a, h4, h5, h6⟩ => ⟨h3, a, h4, h5, h6.imp id fun ⟨h7, h8, h9⟩ => ⟨h7, h8, ?_⟩⟩⟩
    rcases how a.block with e | ⟨e1, e2⟩
    · rw [e]; exact h9.app _
    · rw [e1] at h9; rw [e2]; exact fork_knows hx hy h0 hk h9

/-- The phase begins. -/
theorem TI.start {p : Ph} {B h N : Nat} (hf : Fr p.Shun B p.t0) (hN : N ≤ p.m0) : TI p p.t0 (fun _ => 0) h N := by
  refine ⟨⟨#[], by simp⟩, hf.past.clean, fun k hk i a hi ha hs => ?_, fun i op x hi ho _ => ?_⟩
  · have e : k = 0 := by omega
    subst e
    exact (hf.known i a ha).elim id fun h => absurd h.1 hs
  · have := lt_size_of_getElem? ho; omega
/-- Nobody says a bare 'release' of the group in this phase. -/
def NoRel (p : Ph) (t : Trace) : Prop := ∀ i, p.t0.size ≤ i → t.act? i ≠ some (.mark (.release (stA p.Wg)))
theorem NoRel.app {p : Ph} {t u : Trace} (h : NoRel p t) (hu : ∀ op ∈ u, op.act ≠ .mark (.release (stA p.Wg))) : NoRel p (t ++ u) := by
  intro i hi e
  obtain ⟨op, ho, hoa⟩ := Option.map_eq_some_iff.1 e
  rcases getElem?_append_cases ho with ⟨_, ho'⟩ | ⟨_, hou⟩
  · exact h i hi (by rw [act?_of ho', hoa])
  · exact hu op hou hoa

theorem low_some (x : MemAct) : ∃ B, x.low B := by
  cases x with
  | access e =>
    obtain ⟨l, wr, sy⟩ := e
    cases l with
    | cell a => exact ⟨a.block + 1, Nat.lt_succ_self _⟩
    | obj r => exact ⟨r + 1, Nat.lt_succ_self _⟩
    | _ => exact ⟨0, trivial⟩
  | mark m => cases m <;> first | exact ⟨0, trivial⟩ | exact ⟨_, Nat.lt_succ_self _⟩
  | go _ | start => exact ⟨0, trivial⟩
  | send _ _ | sendDone _ _ | recv _ _ _ | recvDone _ _ | close _ | recvClosed _ => exact ⟨_, Nat.lt_succ_self _⟩
theorem low_all (B : Nat) (t : Trace) : ∃ B', B ≤ B' ∧ ∀ op ∈ t, op.act.low B' := by
  have key : ∀ l : List MemOp, ∃ B', B ≤ B' ∧ ∀ op ∈ l, op.act.low B' := fun l => by
    induction l with
    | nil => exact ⟨B, Nat.le_refl _, by simp⟩
    | cons x l ih =>
      obtain ⟨b1, h1, h2⟩ := ih
      obtain ⟨b2, h3⟩ := low_some x.act
      refine ⟨max b1 b2, Nat.le_trans h1 (Nat.le_max_left _ _), fun e he => ?_⟩
      rcases List.mem_cons.1 he with rfl | he
      · exact MemAct.low_mono (Nat.le_max_right _ _) h3
      · exact MemAct.low_mono (Nat.le_max_left _ _) (h2 e he)
  obtain ⟨B', h1, h2⟩ := key t.toList
  exact ⟨B', h1, fun op hop => h2 op (by simpa using hop)⟩

/-- The phase ends: goroutine 0 says 'acquire', hearing, behind every worker's release. -/
theorem TI.close {p : Ph} {t : Trace} {ow : Nat → Nat} {h N B : Nat} (o : p.Ok) (k : TI p t ow h N) (hf : Fr p.Shun B p.t0) (hn : NoRel p t) (hd : Deaf t 0 = 0)
    (rel : ∀ g, p.m0 ≤ g → g < N → ∃ r, RelBy (stA p.Wg) t g r ∧ p.t0.size ≤ r) {y : MemOp} (hy0 : y.g = 0) (hya : y.act = .mark (.acquire (stA p.Wg))) : ∃ B', B ≤ B' ∧ Fr p.Sh B' (t ++ #[y]) := by
  obtain ⟨u0, e0⟩ := k.pre
  have hT0 : p.t0.size ≤ t.size := by rw [e0]; simp
  have hlast : (t ++ #[y])[t.size]? = some y := by rw [Array.getElem?_append_right (Nat.le_refl _)]; simp
  have hq : (t ++ #[y]).act? t.size = some (.mark (.acquire (stA p.Wg))) := by rw [act?_of hlast, hya]
  have hqg : (t ++ #[y]).g? t.size = some 0 := by simp [Trace.g?, hy0]
  have hqh : (t ++ #[y]).heard t.size := ⟨0, hqg, by rw [deaf_old (Nat.le_refl _)]; exact hd⟩
  have hn' : NoRel p (t ++ #[y]) := hn.app fun op hop => by simp at hop; subst hop; rw [hya]; simp
  have hnt : ∀ b, y.act.touch? = some b → False := fun b hb => by rw [hya] at hb; cases hb
  have old : ∀ {i : Nat} {z : MemOp} {a : Touch}, (t ++ #[y])[i]? = some z → z.act.touch? = some a → t[i]? = some z := fun {i z a} hz hza => by
    rcases getElem?_append_cases hz with ⟨_, hz'⟩ | ⟨_, hzu⟩
    · exact hz'
    · simp at hzu; subst hzu; exact (hnt a hza).elim
  -- what a worker did ahead of its release is known; what it did behind it is atomic
  have wk : ∀ {i g : Nat} {x : Touch}, (t ++ #[y]).g? i = some g → touchAt (t ++ #[y]) i = some x → p.m0 ≤ g → g < N → (∃ r, HappensBefore (t ++ #[y]) i t.size ∧ i ≤ r) ∨ ¬ (t ++ #[y]).counts i := fun {i g x} hgi hx h1 h2 => by
    obtain ⟨r, hr, hrT⟩ := rel g h1 h2
    obtain ⟨z, hz, hza⟩ := touch_of hx
    have hz' := old hz hza
    have hi := lt_size_of_getElem? hz'
    have hrs : r < t.size := lt_of_act? hr.act
    have edge : HappensBefore (t ++ #[y]) r t.size := .single (.inr ⟨.marked hrs (.inr (by rw [act?_old hrs]; exact hr.act)) hq (fun k hk _ => hn' k (by omega)), (heard_old hrs).2 hr.heard, hqh⟩)
    rcases Nat.lt_trichotomy i r with hlt | rfl | hgt
    · exact .inl ⟨r, .trans (.single (.inl ⟨hlt, g, hgi, by rw [g?_old hrs]; exact hr.g⟩)) edge, by omega⟩
    · exact .inl ⟨i, edge, Nat.le_refl _⟩
    · refine .inr ?_
      rw [counts_old hi]
      exact hr.after i hgt (by rw [← g?_old (u := #[y]) hi]; exact hgi)
  have known : ∀ i a, touchAt (t ++ #[y]) i = some a → Knows (t ++ #[y]) 0 i ∨ (p.Sh a.loc ∧ a.kind = .atomic) := fun i a ha => by
    obtain ⟨z, hz, hza⟩ := touch_of ha
    have hz' := old hz hza
    rcases Nat.lt_or_ge i p.t0.size with hi | hi
    · have hz0 : p.t0[i]? = some z := by rw [e0, getElem?_append_old hi] at hz'; exact hz'
      rcases hf.known i a (by rw [touchAt_of hz0]; exact hza) with h1 | h1
      · refine .inl ?_
        rw [e0, Array.append_assoc]
        exact h1.app _
      · exact .inr ⟨.inl h1.1, h1.2⟩
    · obtain ⟨hg, hin⟩ := k.inn i z a hi hz' hza
      rcases hg with hg | ⟨hg1, hg2⟩
      · have := knows_own hz
        rw [hg] at this
        exact .inl this
      · rcases wk (g := z.g) (by unfold Trace.g?; rw [hz]; rfl) ha hg1 hg2 with ⟨_, hb, _⟩ | hc
        · exact .inl ⟨t.size, y, hlast, hy0, .inr hb⟩
        · have hat : p.Sh a.loc → a.kind = .atomic := fun hs => by
            by_cases e : a.kind = .atomic
            · exact e
            · refine absurd ⟨a, by simpa [touchAt] using ha, ?_, .inl e⟩ hc
              rcases hs with hs | ⟨_, e1, _⟩ | ⟨_, e1, _⟩
              · obtain ⟨_, e1, _⟩ := o.shun _ hs
                rw [e1]; rfl
              · rw [e1]; rfl
              · rw [e1]; rfl
          rcases hin with hs | ⟨hp, ad, hl, _⟩
          · exact .inr ⟨.inr hs.1, hat (.inr hs.1)⟩
          · exact absurd ⟨a, by simpa [touchAt] using ha, by rw [hl]; rfl, .inl (by rw [hp]; simp)⟩ hc
  obtain ⟨B', hB, hlow⟩ := low_all B (t ++ #[y])
  refine ⟨B', hB, ⟨fun said => noRace_append (g := 0) (k.nr said) (fun op hop => by simp at hop; subst hop; exact hy0) (fun i a _ op hop b hb _ => by simp at hop; subst hop; exact (hnt b hb).elim), fun i a ha _ => known i a ha, fun i g hgi hne hc => ?_, ?_, hlow⟩, known⟩
  · obtain ⟨x, hx, hmem, hk⟩ := hc
    have hx' : touchAt (t ++ #[y]) i = some x := by simpa [touchAt] using hx
    obtain ⟨z, hz, hza⟩ := touch_of hx'
    have hz' := old hz hza
    have hzg : z.g = g := by unfold Trace.g? at hgi; rw [hz] at hgi; exact Option.some.inj hgi
    rcases Nat.lt_or_ge i p.t0.size with hi | hi
    · have e1 : t ++ #[y] = p.t0 ++ (u0 ++ #[y]) := by rw [e0, Array.append_assoc]
      rw [e1] at hgi hx hk ⊢
      obtain ⟨j, hj, hb⟩ := hf.past.over i g (by rw [← g?_old (u := u0 ++ #[y]) hi]; exact hgi) hne ((counts_old hi).1 ⟨x, hx, hmem, hk⟩)
      have hjl : j < p.t0.size := by
        unfold Trace.g? at hj
        obtain ⟨z, hz, _⟩ := Option.map_eq_some_iff.1 hj
        exact lt_size_of_getElem? hz
      exact ⟨j, by rw [g?_old hjl]; exact hj, hb_app _ hb⟩
    · obtain ⟨hg, _⟩ := k.inn i z x hi hz' hza
      rcases wk hgi hx' (by omega) (by omega) with ⟨_, hb, _⟩ | hc
      · exact ⟨t.size, hqg, hb⟩
      · exact absurd ⟨x, hx, hmem, hk⟩ hc
  · have e := Deaf_still t 0 #[y] (fun op hop => by simp at hop; subst hop; rw [hya]; exact ⟨by simp, by simp⟩)
    exact e.trans hd
end Go.Proofs.YtnojjmkmkelbgaaGreat
