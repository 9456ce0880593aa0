/- Runs carried over, 8: calls that are told by the text; functions that call no others than such; one step. -/
import Derived.Test.YtafgabakhaipnaaLf7
namespace Go.Proofs.Ytafgabakhaipnaa
open Go.Conc

section
variable {P : Program} {X : Nat → Prop} {α β : Type}

theorem s_cap (a : Array TypeId) (t : TypeId) (v : Array Value) : Sound P X (Builtin.cap_ a t v) := by
  unfold Builtin.cap_
  repeat' first | (with_reducible first | exact Sound.pure' _ | exact s_stuck _ | exact s_und _ | exact s_getObj _ | refine Sound.bind ?_ (fun _ => ?_)) | (dsimp only) | split
def bFine : Builtin → Bool
  | .append | .len | .cap | .copy => true
  | _ => false
theorem builtin_op (ρ : Operand → Value) (o : Oper) {b : Builtin} {as : Array Operand} {ats : Array TypeId} (hop : o.op = .call { callee := .builtin b, args := as, argTypes := ats }) (hb : bFine b = true) :
    Sound P X (execOp ρ o) ∧ Ends P Plain (execOp ρ o) := by
  have e : execOp ρ o = builtin b ats o.type (as.map fun | .const _ => true | _ => false) (as.map ρ) := by
    unfold execOp
    rw [hop]
    rfl
  rw [e]
  cases b <;> first | (cases hb; done) | skip
  · exact sv (s_append _ _ _)
  · exact sv (s_cap _ _ _)
  · exact sv (s_copy _ _ _)
  · exact sv (s_len _ _ _)
theorem call_op (ρ : Operand → Value) (o : Oper) {f : FuncId} {as : Array Operand} {ats : Array TypeId} (hop : o.op = .call { callee := .value (.func f), args := as, argTypes := ats }) (hρ : ρ (.func f) = .func (.func f) #[] #[])
    {fn : Func} (hf : P.funcs[f]? = some fn) (hb : fn.body.isNone = false) (hn : (fn.name == "runtime.NumGoroutine") = false) :
    Sound P X (execOp ρ o) ∧ Ends P (fun n => ∃ args, n = .enter f args) (execOp ρ o) := by
  have e : ∃ args, execOp ρ o = callFunc f args := by
    refine ⟨(#[] ++ as.map ρ) ++ #[], ?_⟩
    unfold execOp
    rw [hop]
    show (do let d ← resolve ρ _ o.type; invoke d.target d.args) = _
    simp only [resolve, hρ]
    rfl
  obtain ⟨args, e⟩ := e
  rw [e]
  have e2 : ∀ w es, (callFunc f args).runT P w es = (.ok (.enter f args) w, es) := fun w es => by
    unfold callFunc
    show Sem.runT P (match P.funcs[f]? with | none => _ | some fn => _) w es = _
    rw [hf]
    simp only [hn, hb]
    rfl
  constructor
  · intro n w u es h
    rw [e2, e2]
    exact fun _ => ⟨fun _ he => .inl he, w, rfl, On.refl h⟩
  · intro w es n w' es' h
    rw [e2] at h
    cases h
    exact ⟨args, rfl⟩

def isInt (P : Program) (t : TypeId) : Bool := match P.underlying t with | some (.int _) => true | _ => false
theorem isInt_of {t : TypeId} (h : isInt P t = true) : ∃ k, P.underlying t = some (.int k) := by
  unfold isInt at h
  split at h
  · rename_i k hk; exact ⟨k, hk⟩
  · cases h
theorem s_bytesToString (x : Value) : Sound P X (Conv.bytesToString x) := by
  unfold Conv.bytesToString
  repeat' first | (with_reducible first | exact Sound.pure' _ | exact s_stuck _ | exact s_loads _ _ | refine s_forArr (fun _ _ => ?_) _ _ | refine Sound.bind ?_ (fun _ => ?_)) | (dsimp only) | split
theorem s_convertBytes {src dst e : TypeId} {x : Value} (h1 : P.underlying src = some (.slice e)) (h2 : P.underlying dst = some .string) (h3 : P.underlying e = some (.int .u8)) : Sound P X (convert src dst x) := by
  unfold convert
  refine s_undK h1 (s_undK h2 ?_)
  cases x <;> first | exact Sound.pure' _ | exact s_undK h3 (s_bytesToString _)
/-- What is turned: an int into an int, bytes into a string. -/
def convOk (P : Program) (a b : TypeId) : Bool := (isInt P a && isInt P b) || (match P.underlying a, P.underlying b with
  | some (.slice e), some .string => (match P.underlying e with | some (.int .u8) => true | _ => false)
  | _, _ => false)
theorem convert_op (ρ : Operand → Value) (o : Oper) {a b : TypeId} {x : Operand} (hop : o.op = .convert a b x) (h : convOk P a b = true) : Sound P X (execOp ρ o) ∧ Ends P Plain (execOp ρ o) := by
  have e : execOp ρ o = (do pure (.value (← convert a b (ρ x)))) := by unfold execOp; rw [hop]
  rw [e]
  unfold convOk at h
  rw [Bool.or_eq_true, Bool.and_eq_true] at h
  rcases h with ⟨h1, h2⟩ | h
  · obtain ⟨j, hj⟩ := isInt_of h1
    obtain ⟨k, hk⟩ := isInt_of h2
    exact sv (s_convertInt hj hk)
  · split at h
    · rename_i e h1 h2
      split at h
      · rename_i h3
        exact sv (s_convertBytes h1 h2 h3)
      · cases h
    · cases h

/-- An operation that is let by: it calls nothing, or a function of the set s that its text names. -/
def opOk (P : Program) (s : Nat → Bool) : Op → Bool
  | .call { callee := .value (.func f), .. } => s f
  | .call { callee := .builtin b, .. } => bFine b
  | .convert a b _ => convOk P a b
  | o => opPlain o
def codeOk (P : Program) (s : Nat → Bool) : Code → Bool
  | .skip | .exit _ | .label _ | .ret => true
  | .region _ ops _ => ops.all fun o => opOk P s o.op
  | .seq a b => codeOk P s a && codeOk P s b
  | .cond _ a b => codeOk P s a && codeOk P s b
  | .block _ b => codeOk P s b
  | .loop b => codeOk P s b
  | .scope b => codeOk P s b
  | _ => false
def itemOk (P : Program) (s : Nat → Bool) : Item → Prop
  | .code c => codeOk P s c = true
  | .inBlock _ => True
  | .inLoop c => codeOk P s c = true
  | .inScope c => codeOk P s c = true
  | .inRegion ops l => ∀ i ∈ l, ∀ o, ops[i]? = some o → opOk P s o.op = true
  | _ => False
structure FrOk (P : Program) (s : Nat → Bool) (fr : Frame) : Prop where
  todo : ∀ i ∈ fr.todo, itemOk P s i
  defers : fr.defers = []
  kind : fr.kind = .normal
  round : fr.roundOf = none
  fn : ∃ fn, P.funcs[fr.fn]? = some fn
structure SetOk (P : Program) (s : Nat → Bool) : Prop where
  out : ∀ f, s f = true → ∃ fn body, P.funcs[f]? = some fn ∧ fn.body = some body ∧ codeOk P s body = true ∧ (fn.name == "runtime.NumGoroutine") = false
  step : ∀ g, gN ≤ g → P.stepOf g = none

variable {s : Nat → Bool}
theorem opOk_cases {o : Op} (h : opOk P s o = true) : (∃ f as ats, o = .call { callee := .value (.func f), args := as, argTypes := ats } ∧ s f = true) ∨ (∃ b as ats, o = .call { callee := .builtin b, args := as, argTypes := ats } ∧ bFine b = true) ∨
    (∃ a b x, o = .convert a b x ∧ convOk P a b = true) ∨ opPlain o = true := by
  unfold opOk at h
  split at h
  · exact .inl ⟨_, _, _, rfl, h⟩
  · exact .inr (.inl ⟨_, _, _, rfl, h⟩)
  · exact .inr (.inr (.inl ⟨_, _, _, rfl, h⟩))
  · exact .inr (.inr (.inr h))
theorem ok_op (S : SetOk P s) (fr : Frame) (o : Oper) (h : opOk P s o.op = true) : Sound P X (execOp fr.eval o) ∧ Ends P (fun n => Plain n ∨ ∃ f args, s f = true ∧ n = .enter f args) (execOp fr.eval o) := by
  have pl : Sound P X (execOp fr.eval o) ∧ Ends P Plain (execOp fr.eval o) → Sound P X (execOp fr.eval o) ∧ Ends P (fun n => Plain n ∨ ∃ f args, s f = true ∧ n = .enter f args) (execOp fr.eval o) :=
    fun ⟨a, b⟩ => ⟨a, fun w es n w' es' h => .inl (b w es n w' es' h)⟩
  rcases opOk_cases h with ⟨f, as, ats, hop, hf⟩ | ⟨b, as, ats, hop, hb⟩ | ⟨a, b, x, hop, h1⟩ | hp
  · obtain ⟨fn, body, h1, h2, _, h4⟩ := S.out f hf
    obtain ⟨a, b⟩ := call_op (P := P) (X := X) fr.eval o hop rfl h1 (by rw [h2]; rfl) h4
    exact ⟨a, fun w es n w' es' hh => by obtain ⟨as, e⟩ := b w es n w' es' hh; exact .inr ⟨f, as, hf, e⟩⟩
  · exact pl (builtin_op _ o hop hb)
  · exact pl (convert_op _ o hop h1)
  · exact pl (plain_op _ o hp)
theorem enter_ok (S : SetOk P s) {f : FuncId} (h : s f = true) (args : Array Value) : FrOk P s (Frame.enter P f args .normal) := by
  obtain ⟨fn, body, h1, h2, h3, _⟩ := S.out f h
  refine ⟨fun i hi => ?_, rfl, rfl, rfl, fn, h1⟩
  simp only [Frame.enter, h1, Option.bind_some, h2, Option.getD_some, List.mem_singleton] at hi
  subst hi
  exact h3
theorem finish_ok {fr : Frame} (h : FrOk P s fr) (v : Value) : FrOk P s (fr.finish v) := by
  unfold Frame.finish
  split
  · rename_i ops i rest k ht
    refine ⟨fun x hx => ?_, h.defers, h.kind, h.round, h.fn⟩
    have hk := h.todo
    rw [ht] at hk
    rcases List.mem_cons.1 hx with rfl | hx
    · exact fun j hj => hk (.inRegion ops (i :: rest)) (by simp) j (by simp [hj])
    · exact hk x (by simp [hx])
  all_goals first | exact h | (rename_i ht; exfalso; have hk := h.todo; rw [ht] at hk; exact hk _ (List.mem_cons_self ..))
theorem raise_ok {fr : Frame} (h : FrOk P s fr) (c : List PanicEntry) : FrOk P s (fr.raise c) := by
  unfold Frame.raise
  split <;> exact ⟨h.todo, h.defers, h.kind, h.round, h.fn⟩
theorem mode_ok {fr : Frame} (h : FrOk P s fr) (m : FrameMode) : FrOk P s { fr with mode := m } := ⟨h.todo, h.defers, h.kind, h.round, h.fn⟩
theorem todo_ok {fr : Frame} (h : FrOk P s fr) {l : List Item} (hl : ∀ i ∈ l, itemOk P s i) : FrOk P s { fr with todo := l } := ⟨hl, h.defers, h.kind, h.round, h.fn⟩

/-- The two worlds agree in every answer to come. -/
def Full (X : Nat → Prop) (w u : World) : Prop := ∀ n, Sim X n w u
theorem Full.on {n : Nat} {w u w' u' : World} (h : Full X w u) (ho : On X n w u w' u') : Full X w' u' := fun m => by
  obtain ⟨k, _, dw, du, hs⟩ := ho.drew
  exact ⟨hs.size, hs.old, hs.same, hs.cov, hs.pend, hs.os, hs.output, fun i q _ => by
    rw [ho.tw, ho.tu, dw, du, Nat.add_assoc, Nat.add_assoc]
    exact (h (k + i + 1)).tape (k + i) q (by omega)⟩
theorem Full.self {n : Nat} {w u : World} (h : Sim X n w u) : Full (fun _ => False) w w := fun _ => ⟨rfl, fun _ h => h.elim, fun _ _ => rfl, fun _ h => h.elim, h.pend, rfl, rfl, fun _ _ _ => rfl⟩
/-- A run by itself comes to no end that never comes. -/
theorem Sound.sane {q : Sem α} (hq : Sound P (fun _ => False) q) {n : Nat} {w u : World} (h : Sim X n w u) {k : Halt} {w1 : World} {es : Array Event} (e : q.runT P w #[] = (.halt k w1, es)) : early? k = false := by
  have ha := hq (rdr (q.runT P w #[]).1) w w #[] (Full.self h _) (.inl (Nat.le_add_left _ _))
  rw [e] at ha
  exact ha.1

/-- One step of the lone run's is the end of all, or it goes on, and so it does in the other world. -/
def Carries (P : Program) (X : Nat → Prop) (s : Nat → Bool) (n : Nat) (cu cw : List Frame) (w u : World) (su sw : GStep) : Prop :=
  (Full X w u → (∃ o x es, su = .ended o x es) ∨ ∃ fr' new u' w' es, su = .go (G fr' (new ++ cu)) u' es ∧ sw = .go (G fr' (new ++ cw)) w' es ∧ FrOk P s fr' ∧ (∀ c ∈ new, FrOk P s c) ∧ (∃ m, On X m w u w' u') ∧ ∀ e ∈ es, Fine X e) ∧
  (∀ g1 w1 e1, sw = .go g1 w1 e1 → w1.drawn ≤ w.drawn + n → (∃ o x es, su = .ended o x es) ∨ ∃ fr' new u' w' es, su = .go (G fr' (new ++ cu)) u' es ∧ sw = .go (G fr' (new ++ cw)) w' es ∧ FrOk P s fr' ∧ (∀ c ∈ new, FrOk P s c) ∧ On X n w u w' u' ∧ ∀ e ∈ es, Fine X e)

/-- A variable that waits and is none of the package's: the run ends, or it waits no longer. -/
theorem early_cases (S : SetOk P s) {fr : Frame} {g : Nat} (hg : gN ≤ g) (cs : List Frame) (u : World) :
    (∃ o x es, early P fr cs none g u = .ended o x es) ∨ ∃ c e, u.heap[g]? = some (.pending c e) ∧ P.follows .staticDataAhead = false ∧ early P fr cs none g u = .go (G fr cs) { u with heap := u.heap.setIfInBounds g (.cells c e) } #[] := by
  unfold early
  cases hf : P.follows .staticDataAhead with
  | true =>
    simp only [Bool.not_true, Bool.false_eq_true, if_false, S.step g hg]
    exact .inl ⟨_, _, _, rfl⟩
  | false =>
    simp only [Bool.not_false, if_true]
    cases ho : u.heap[g]? with
    | none => exact .inl ⟨_, _, _, rfl⟩
    | some o =>
      cases o with
      | pending c e => exact .inr ⟨c, e, rfl, trivial, rfl⟩
      | _ => exact .inl ⟨_, _, _, rfl⟩

theorem apply_alike (S : SetOk P s) {fr : Frame} (h : FrOk P s fr) {ops : Array Oper} {l : List Nat} {k : List Item} (ht : fr.todo = .inRegion ops l :: k) {q : Sem Next} (he : Ends P (fun n => Plain n ∨ ∃ f args, s f = true ∧ n = .enter f args) q)
    {cu cw : List Frame} {w u : World} {n : Nat} (ha : AlikeR X n w u #[] (q.runT P w #[]) (q.runT P u #[])) :
    (∃ o x es, stepG.apply P true fr cu none q u = .ended o x es) ∨ ∃ fr' new u' w' es, stepG.apply P true fr cu none q u = .go (G fr' (new ++ cu)) u' es ∧ stepG.apply P true fr cw none q w = .go (G fr' (new ++ cw)) w' es ∧ FrOk P s fr' ∧ (∀ c ∈ new, FrOk P s c) ∧ On X n w u w' u' ∧ ∀ e ∈ es, Fine X e := by
  have hk : (fr.kind == CallKind.early) = false := by rw [h.kind]; rfl
  generalize hu : q.runT P u #[] = ru at ha
  unfold stepG.apply
  simp only [hu, hk, ht, if_true, Bool.false_eq_true, if_false]
  match ru, hu, ha with
  | (.ok n u1, eu), hu, ⟨hev, w1, hw, hon⟩ =>
    have hfine : ∀ e ∈ seen P fr.fn eu ++ #[], Fine X e := fun e hx => by
      rw [Array.append_empty] at hx
      exact (hev e (mem_seen hx)).elim (fun hx => by simp at hx) id
    rcases he _ _ _ _ _ hu with (⟨v, rfl⟩ | rfl) | ⟨f, args, hf, rfl⟩
    · refine .inr ⟨fr.finish v, [], u1, w1, _, rfl, ?_, finish_ok h v, by simp, hon, hfine⟩
      simp only [hw, GStep.after]; rfl
    · refine .inr ⟨fr.finish undef, [], u1, w1, _, rfl, ?_, finish_ok h undef, by simp, hon, hfine⟩
      simp only [hw, GStep.after]; rfl
    · refine .inr ⟨Frame.enter P f args .normal, [fr], u1, w1, _, rfl, ?_, enter_ok S hf args, by simpa using h, hon, hfine⟩
      simp only [hw, GStep.after]; rfl
  | (.halt k u1, eu), hu, ⟨h0, hh⟩ =>
    cases k with
    | panic v =>
      obtain ⟨hev, w1, hw, hon⟩ := hh rfl
      have hfine : ∀ e ∈ seen P fr.fn eu ++ #[], Fine X e := fun e hx => by
        rw [Array.append_empty] at hx
        exact (hev e (mem_seen hx)).elim (fun hx => by simp at hx) id
      refine .inr ⟨fr.raise [{ v, recovered := false }], [], u1, w1, _, rfl, ?_, raise_ok h _, by simp, hon, hfine⟩
      simp only [hw, GStep.after]; rfl
    | stuck x => exact .inl ⟨_, _, _, rfl⟩
    | unsupported x =>
      cases x with
      | initOrder g =>
        obtain ⟨hev, w1, hw, hon⟩ := hh rfl
        have hg : gN ≤ g := by simpa [early?] using h0
        rcases early_cases (fr := fr) S hg cu u1 with ⟨o, x, es, e⟩ | ⟨c, t, hp, hfo, e⟩
        · exact .inl ⟨o, x, seen P fr.fn #[] ++ es, by simp only [e, GStep.after]⟩
        · obtain ⟨k, hk', dw, du, hs⟩ := hon.drew
          have hx : ¬ X g := fun hx => by obtain ⟨c', e', -, hu'⟩ := hs.cov _ hx; rw [hu'] at hp; cases hp
          have hp' : w1.heap[g]? = some (.pending c t) := by rw [← hs.same g hx]; exact hp
          have ew : early P fr cw none g w1 = .go (G fr cw) { w1 with heap := w1.heap.setIfInBounds g (.cells c t) } #[] := by
            unfold early
            simp only [hfo, Bool.not_false, if_true, hp']
            rfl
          have hon2 := hs.setCells g c t (0, 0) hx
          refine .inr ⟨fr, [], { u1 with heap := u1.heap.setIfInBounds g (.cells c t) }, { w1 with heap := w1.heap.setIfInBounds g (.cells c t) }, seen P fr.fn #[] ++ #[], by simp only [e, GStep.after]; rfl, by simp only [hw, ew, GStep.after]; rfl, h, by simp, ⟨hon.tw, hon.tu, k, hk', dw, du, hon2.sim⟩, fun e he => ?_⟩
          rw [seen_none] at he
          simp at he
      | _ => first | (cases h0; done) | exact .inl ⟨_, _, _, rfl⟩
    | _ => cases h0
theorem apply_draws (S : SetOk P s) {fr : Frame} (h : FrOk P s fr) {ops : Array Oper} {l : List Nat} {k : List Item} (ht : fr.todo = .inRegion ops l :: k) {q : Sem Next} (hq : Sound P (fun _ => False) q) (he : Ends P (fun n => Plain n ∨ ∃ f args, s f = true ∧ n = .enter f args) q)
    {cw : List Frame} {w u : World} {n : Nat} (hs : Sim X n w u) {g1 : Goroutine} {w1 : World} {e1 : Array Event} (hst : stepG.apply P true fr cw none q w = .go g1 w1 e1) : rdr (q.runT P w #[]).1 = w1.drawn := by
  have hk : (fr.kind == CallKind.early) = false := by rw [h.kind]; rfl
  have sane := fun k w1 es => Sound.sane hq hs (k := k) (w1 := w1) (es := es)
  unfold stepG.apply at hst
  generalize hu : q.runT P w #[] = ru at hst
  simp only [hk, ht, if_true, Bool.false_eq_true, if_false] at hst
  match ru, hu, hst with
  | (.ok n u1, eu), hu, hst =>
    rcases he _ _ _ _ _ hu with (⟨v, rfl⟩ | rfl) | ⟨f, args, hf, rfl⟩ <;> (simp only [GStep.after] at hst; cases hst; rfl)
  | (.halt k u1, eu), hu, hst =>
    have h0 := sane k u1 eu hu
    cases k with
    | panic v => simp only [GStep.after] at hst; cases hst; rfl
    | stuck x => simp only [GStep.after] at hst; cases hst
    | unsupported x =>
      cases x with
      | initOrder g =>
        have hg : gN ≤ g := by simpa [early?] using h0
        rcases early_cases (fr := fr) S hg cw u1 with ⟨o, x, es, e⟩ | ⟨c, t, hp, hfo, e⟩
        · simp only [e, GStep.after] at hst; cases hst
        · simp only [e, GStep.after] at hst; cases hst; rfl
      | _ => first | (cases h0; done) | (simp only [GStep.after] at hst; cases hst)
    | _ => cases h0
theorem apply_carried (S : SetOk P s) {fr : Frame} (h : FrOk P s fr) {ops : Array Oper} {l : List Nat} {k : List Item} (ht : fr.todo = .inRegion ops l :: k) {q : Sem Next} (hq : Sound P X q) (hq0 : Sound P (fun _ => False) q) (he : Ends P (fun n => Plain n ∨ ∃ f args, s f = true ∧ n = .enter f args) q)
    {cu cw : List Frame} {w u : World} {n : Nat} (hs : Sim X n w u) : Carries P X s n cu cw w u (stepG.apply P true fr cu none q u) (stepG.apply P true fr cw none q w) := by
  constructor
  · intro hf
    rcases apply_alike S h ht he (cu := cu) (cw := cw) (hq (rdr (q.runT P u #[]).1) w u #[] (hf _) (.inr (Nat.le_add_left _ _))) with h1 | ⟨fr', new, u', w', es, a1, a2, a3, a4, a5, a6⟩
    · exact .inl h1
    · exact .inr ⟨fr', new, u', w', es, a1, a2, a3, a4, ⟨_, a5⟩, a6⟩
  · intro g1 w1 e1 hst hd
    exact apply_alike S h ht he (hq n w u #[] hs (.inl (by rw [apply_draws S h ht hq0 he hs hst]; exact hd)))
end
end Go.Proofs.Ytafgabakhaipnaa

/- Runs carried over, 9: one step of a goroutine whose frames are of functions that call no others than their texts name. -/
namespace Go.Proofs.Ytafgabakhaipnaa
open Go.Conc

section
variable {P : Program} {X : Nat → Prop} {s : Nat → Bool}

theorem exitTo_ok {id : Nat} : ∀ {k l : List Item}, (∀ i ∈ k, itemOk P s i) → exitTo id k = some l → ∀ i ∈ l, itemOk P s i
  | [], l, _, h => by cases h
  | x :: k, l, hk, h => by
    have ih := fun hh => exitTo_ok (id := id) (k := k) (l := l) (fun i hi => hk i (by simp [hi])) hh
    cases x <;> simp only [exitTo] at h <;> first | exact ih h | skip
    split at h
    · cases h; exact fun i hi => hk i (by simp [hi])
    · exact ih h

theorem all_ops0 {ops : Array Oper} (h : (ops.all fun o => opOk P s o.op) = true) : ∀ o ∈ ops, opOk P s o.op = true := by
  intro o ho
  obtain ⟨i, hi, rfl⟩ := Array.mem_iff_getElem.1 ho
  exact Array.all_eq_true.1 h i hi
theorem all_ops {ops : Array Oper} (h : (ops.all fun o => opOk P s o.op) = true) {l : List Nat} : itemOk P s (.inRegion ops l) := fun _ _ o ho => all_ops0 h o (Array.mem_of_getElem? ho)
theorem ok1 {a : Item} {k : List Item} (ha : itemOk P s a) (hk : ∀ i ∈ k, itemOk P s i) : ∀ i ∈ a :: k, itemOk P s i := fun i hx => (List.mem_cons.1 hx).elim (fun e => e ▸ ha) (hk i)
theorem ok2 {a b : Item} {k : List Item} (ha : itemOk P s a) (hb : itemOk P s b) (hk : ∀ i ∈ k, itemOk P s i) : ∀ i ∈ a :: b :: k, itemOk P s i := ok1 ha (ok1 hb hk)

theorem run_carried (S : SetOk P s) {fr : Frame} (h : FrOk P s fr) (hm : fr.mode = .run) {cu cw : List Frame} {w u : World} {n : Nat} (hs : Sim X n w u) :
    Carries P X s n cu cw w u (stepG P true (G fr cu) u) (stepG P true (G fr cw) w) := by
  have hr := h.round
  have still : ∀ {fr' : Frame}, FrOk P s fr' → (∀ cs x, stepG P true (G fr cs) x = .go (G fr' cs) x #[]) → Carries P X s n cu cw w u (stepG P true (G fr cu) u) (stepG P true (G fr cw) w) := fun {fr'} hf e => by
    rw [e, e]
    exact ⟨fun _ => .inr ⟨fr', [], u, w, #[], rfl, rfl, hf, by simp, ⟨n, On.refl hs⟩, by simp⟩, fun _ _ _ _ _ => .inr ⟨fr', [], u, w, #[], rfl, rfl, hf, by simp, On.refl hs, by simp⟩⟩
  have over : (∃ o x es, stepG P true (G fr cu) u = .ended o x es) → Carries P X s n cu cw w u (stepG P true (G fr cu) u) (stepG P true (G fr cw) w) := fun h => ⟨fun _ => .inl h, fun _ _ _ _ _ => .inl h⟩
  have ht := h.todo
  cases hto : fr.todo with
  | nil => exact still (mode_ok h .returning) (fun cs x => by simp [stepG, stepG.exec, G, hm, hto, hr])
  | cons it k =>
    rw [hto] at ht
    have hk : ∀ i ∈ k, itemOk P s i := fun i hi => ht i (by simp [hi])
    have hi : itemOk P s it := ht it (by simp)
    have go1 : ∀ (l : List Item), (∀ i ∈ l, itemOk P s i) → (∀ cs x, stepG P true (G fr cs) x = .go (G { fr with todo := l } cs) x #[]) → Carries P X s n cu cw w u (stepG P true (G fr cu) u) (stepG P true (G fr cw) w) := fun l hl e => still (todo_ok h hl) e
    cases it with
    | inBlock id => exact go1 k hk (fun cs x => by simp [stepG, stepG.exec, G, hm, hto])
    | inScope b => exact go1 k hk (fun cs x => by simp [stepG, stepG.exec, G, hm, hto])
    | inLoop b => exact go1 (.code b :: .inLoop b :: k) (ok2 hi hi hk) (fun cs x => by simp [stepG, stepG.exec, G, hm, hto])
    | inRegion ops l =>
      cases l with
      | nil => exact go1 k hk (fun cs x => by simp [stepG, stepG.exec, G, hm, hto])
      | cons i rest =>
        have fin : (∀ cs x, stepG P true (G fr cs) x = .go (G (fr.finish undef) cs) x #[]) → Carries P X s n cu cw w u (stepG P true (G fr cu) u) (stepG P true (G fr cw) w) := fun e => still (finish_ok h _) e
        cases ho : ops[i]? with
        | none => exact fin (fun cs x => by simp [stepG, stepG.exec, G, hm, hto, ho])
        | some o =>
          cases hw : Region.wanted o (yielded ops fr.tmps) with
          | false => exact fin (fun cs x => by simp [stepG, stepG.exec, G, hm, hto, ho, hw])
          | true =>
            have hoo : opOk P s o.op = true := hi i (by simp) o ho
            obtain ⟨q1, q2⟩ := ok_op (X := X) S fr o hoo
            have q0 := (ok_op (X := fun _ => False) S fr o hoo).1
            have e : ∀ cs x, stepG P true (G fr cs) x = stepG.apply P true fr cs none (execOp fr.eval o) x := fun cs x => by
              simp [stepG, stepG.exec, G, hm, hto, ho, hw, stepG.oper, Frame.oper?, hr]
            rw [e, e]
            exact apply_carried S h hto q1 q0 q2 hs
    | code c =>
      have hc : codeOk P s c = true := hi
      cases c with
      | skip => exact go1 k hk (fun cs x => by simp [stepG, stepG.exec, G, hm, hto])
      | label l => exact go1 k hk (fun cs x => by simp [stepG, stepG.exec, G, hm, hto])
      | seq a b =>
        simp only [codeOk, Bool.and_eq_true] at hc
        exact go1 (.code a :: .code b :: k) (ok2 hc.1 hc.2 hk) (fun cs x => by simp [stepG, stepG.exec, G, hm, hto])
      | block id b => exact go1 (.code b :: .inBlock id :: k) (ok2 hc trivial hk) (fun cs x => by simp [stepG, stepG.exec, G, hm, hto])
      | loop b => exact go1 (.code b :: .inLoop b :: k) (ok2 hc hc hk) (fun cs x => by simp [stepG, stepG.exec, G, hm, hto])
      | scope b => exact go1 (.code b :: .inScope b :: k) (ok2 hc hc hk) (fun cs x => by simp [stepG, stepG.exec, G, hm, hto])
      | cond c a b =>
        simp only [codeOk, Bool.and_eq_true] at hc
        cases hv : fr.eval c with
        | bool t =>
          exact go1 (.code (if t then a else b) :: k) (ok1 (by cases t <;> simp [itemOk, hc.1, hc.2]) hk) (fun cs x => by simp only [stepG, stepG.exec, G, hm, hto, hv])
        | _ => exact over ⟨_, _, _, by simp only [stepG, stepG.exec, G, hm, hto, hv]; rfl⟩
      | ret => exact still (mode_ok h .returning) (fun cs x => by simp [stepG, stepG.exec, G, hm, hto, hr])
      | exit id =>
        cases hx : exitTo id k with
        | some l => exact go1 l (exitTo_ok hk hx) (fun cs x => by simp [stepG, stepG.exec, G, hm, hto, hx])
        | none => exact over ⟨.stuck "exit, goto: no such block or label" (Frame.pos P fr), u, #[], by simp [stepG, stepG.exec, G, hm, hto, hx, hr]⟩
      | region id ops d =>
        cases d with
        | false => exact go1 (.inRegion ops (List.range ops.size) :: k) (ok1 (all_ops hc) hk) (fun cs x => by simp [stepG, stepG.exec, G, hm, hto])
        | true =>
          have e : ∀ cs x, stepG P true (G fr cs) x = .go (G { fr with todo := .inRegion ops (Region.schedule (P.follows .mixedOrders) ops (x.tape x.drawn (.order fr.fn id))) :: k } cs) { x with drawn := x.drawn + 1 } #[] := fun cs x => by
            simp [stepG, stepG.exec, G, hm, hto, choose, Sem.run, Question.forced, Question.cut]
          have hl : ∀ x : World, FrOk P s { fr with todo := .inRegion ops (Region.schedule (P.follows .mixedOrders) ops (x.tape x.drawn (.order fr.fn id))) :: k } := fun x => todo_ok h (ok1 (all_ops hc) hk)
          have main : ∀ m, Sim X (m + 1) w u → (∃ o x es, stepG P true (G fr cu) u = .ended o x es) ∨ ∃ fr' new u' w' es, stepG P true (G fr cu) u = .go (G fr' (new ++ cu)) u' es ∧ stepG P true (G fr cw) w = .go (G fr' (new ++ cw)) w' es ∧ FrOk P s fr' ∧ (∀ c ∈ new, FrOk P s c) ∧ On X (m + 1) w u w' u' ∧ ∀ e ∈ es, Fine X e := fun m hs => by
            have e0 : u.tape u.drawn (.order fr.fn id) = w.tape w.drawn (.order fr.fn id) := hs.tape 0 _ (by omega)
            have hlw := hl w
            rw [e, e, e0]
            exact .inr ⟨_, [], _, _, #[], rfl, rfl, hlw, by simp, ⟨rfl, rfl, 1, by omega, rfl, rfl, hs.draw⟩, by simp⟩
          constructor
          · intro hf
            rcases main 0 (hf 1) with h1 | ⟨fr', new, u', w', es, a1, a2, a3, a4, a5, a6⟩
            · exact .inl h1
            · exact .inr ⟨fr', new, u', w', es, a1, a2, a3, a4, ⟨_, a5⟩, a6⟩
          · intro g1 w1 e1 hst hd
            have e1 := hst
            rw [e] at e1
            cases e1
            cases n with
            | zero => simp only at hd; omega
            | succ m => exact main m hs
      | rangeFunc => cases hc
      | goto => cases hc
      | refuse => cases hc
    | _ => exact hi.elim

theorem s_results (fn : Func) (tmps : Array Value) : Sound P X (results fn tmps) := by
  unfold results
  refine Sound.bind (s_mapM (fun r => ?_) _) (fun _ => Sound.pure' _)
  split
  · exact Sound.pure' _
  · exact Sound.bind (s_addr _) (fun _ => s_loadVar _ _)

theorem ret_carried (_S : SetOk P s) {fr c : Frame} (h : FrOk P s fr) (hc : FrOk P s c) (hm : fr.mode = .returning) {cu cw : List Frame} {w u : World} {n : Nat} (hs : Sim X n w u) :
    Carries P X s n cu cw w u (stepG P true (G fr (c :: cu)) u) (stepG P true (G fr (c :: cw)) w) := by
  obtain ⟨fn, hf⟩ := h.fn
  have main : ∀ m, AlikeR X m w u #[] ((results fn fr.tmps).runT P w #[]) ((results fn fr.tmps).runT P u #[]) → (∃ o x es, stepG P true (G fr (c :: cu)) u = .ended o x es) ∨ ∃ fr' new u' w' es, stepG P true (G fr (c :: cu)) u = .go (G fr' (new ++ cu)) u' es ∧ stepG P true (G fr (c :: cw)) w = .go (G fr' (new ++ cw)) w' es ∧ FrOk P s fr' ∧ (∀ c ∈ new, FrOk P s c) ∧ On X m w u w' u' ∧ ∀ e ∈ es, Fine X e := fun m ha => by
    generalize hu : (results fn fr.tmps).runT P u #[] = ru at ha
    simp only [stepG, G, hm, unwind, h.defers, hf, hu, doReturn, h.kind]
    match ru, hu, ha with
    | (.ok v u1, eu), hu, ⟨hev, w1, hw, hon⟩ =>
      refine .inr ⟨c.finish v, [], u1, w1, _, rfl, by simp only [hw, GStep.after]; rfl, finish_ok hc v, by simp, hon, fun e hx => ?_⟩
      rw [Array.append_empty] at hx
      exact (hev e (mem_seen hx)).elim (fun hx => by simp at hx) id
    | (.halt k u1, eu), hu, _ => cases k <;> exact .inl ⟨_, _, _, rfl⟩
  constructor
  · intro hfu
    rcases main _ (s_results (P := P) (X := X) fn fr.tmps (rdr ((results fn fr.tmps).runT P u #[]).1) w u #[] (hfu _) (.inr (Nat.le_add_left _ _))) with h1 | ⟨fr', new, u', w', es, a1, a2, a3, a4, a5, a6⟩
    · exact .inl h1
    · exact .inr ⟨fr', new, u', w', es, a1, a2, a3, a4, ⟨_, a5⟩, a6⟩
  · intro g1 w1 e1 hst hd
    refine main n (s_results (P := P) (X := X) fn fr.tmps n w u #[] hs (.inl ?_))
    generalize hu : (results fn fr.tmps).runT P w #[] = ru at hst ⊢
    simp only [stepG, G, hm, unwind, h.defers, hf, hu, doReturn, h.kind] at hst
    match ru, hst with
    | (.ok v u1, eu), hst => simp only [GStep.after] at hst; cases hst; exact hd
    | (.halt k u1, eu), hst => cases k <;> (simp only [GStep.after] at hst; cases hst)

theorem pan_carried (_S : SetOk P s) {fr c : Frame} {ch : List PanicEntry} (h : FrOk P s fr) (hc : FrOk P s c) (hm : fr.mode = .panicking ch) {cu cw : List Frame} {w u : World} {n : Nat} (hs : Sim X n w u) :
    Carries P X s n cu cw w u (stepG P true (G fr (c :: cu)) u) (stepG P true (G fr (c :: cw)) w) := by
  obtain ⟨fn, hf⟩ := h.fn
  have hcat : fr.catches P = false := by unfold Frame.catches; rw [hf]
  simp only [stepG, G, hm, unwind, h.defers, hcat, Bool.false_eq_true, if_false]
  exact ⟨fun _ => .inr ⟨c.raise ch, [], u, w, _, rfl, rfl, raise_ok hc ch, by simp, ⟨n, On.refl hs⟩, by simp⟩, fun _ _ _ _ _ => .inr ⟨c.raise ch, [], u, w, _, rfl, rfl, raise_ok hc ch, by simp, On.refl hs, by simp⟩⟩
end
end Go.Proofs.Ytafgabakhaipnaa

/- Runs carried over, 10: frames above a base; the emptied world. -/
namespace Go.Proofs.Ytafgabakhaipnaa
open Go.Conc

section
variable {P : Program} {X : Nat → Prop} {s : Nat → Bool}

def SegGoes (P : Program) (X : Nat → Prop) (s : Nat → Bool) (bu bw : List Frame) (su sw : GStep) (Q : World → World → Prop) : Prop :=
  (∃ o x es, su = .ended o x es) ∨ ∃ fr' seg' u' w' es, su = .go (G fr' (seg' ++ bu)) u' es ∧ sw = .go (G fr' (seg' ++ bw)) w' es ∧ FrOk P s fr' ∧ (∀ c ∈ seg', FrOk P s c) ∧ Q w' u' ∧ ∀ e ∈ es, Fine X e
def Going (fr : Frame) (seg : List Frame) : Prop := fr.mode = .run ∨ seg ≠ []

theorem seg_carries (S : SetOk P s) {fr : Frame} {seg bu bw : List Frame} (h : FrOk P s fr) (hr : ∀ c ∈ seg, FrOk P s c) (hg : Going fr seg) {w u : World} {n : Nat} (hs : Sim X n w u) :
    (Full X w u → SegGoes P X s bu bw (stepG P true (G fr (seg ++ bu)) u) (stepG P true (G fr (seg ++ bw)) w) (fun w' u' => ∃ m, On X m w u w' u')) ∧
    (∀ g1 w1 e1, stepG P true (G fr (seg ++ bw)) w = .go g1 w1 e1 → w1.drawn ≤ w.drawn + n → SegGoes P X s bu bw (stepG P true (G fr (seg ++ bu)) u) (stepG P true (G fr (seg ++ bw)) w) (fun w' u' => On X n w u w' u')) := by
  have lift : ∀ {t : List Frame} {su sw : GStep}, (∀ c ∈ t, FrOk P s c) → Carries P X s n (t ++ bu) (t ++ bw) w u su sw →
      (Full X w u → SegGoes P X s bu bw su sw (fun w' u' => ∃ m, On X m w u w' u')) ∧ (∀ g1 w1 e1, sw = .go g1 w1 e1 → w1.drawn ≤ w.drawn + n → SegGoes P X s bu bw su sw (fun w' u' => On X n w u w' u')) := fun {t su sw} ht hc => by
    have both : ∀ {new : List Frame}, (∀ c ∈ new, FrOk P s c) → ∀ c ∈ new ++ t, FrOk P s c := fun hn c hx => (List.mem_append.1 hx).elim (hn c) (ht c)
    constructor
    · intro hf
      rcases hc.1 hf with h1 | ⟨fr', new, u', w', es, a1, a2, a3, a4, a5, a6⟩
      · exact .inl h1
      · exact .inr ⟨fr', new ++ t, u', w', es, by rw [a1, List.append_assoc], by rw [a2, List.append_assoc], a3, both a4, a5, a6⟩
    · intro g1 w1 e1 hst hd
      rcases hc.2 g1 w1 e1 hst hd with h1 | ⟨fr', new, u', w', es, a1, a2, a3, a4, a5, a6⟩
      · exact .inl h1
      · exact .inr ⟨fr', new ++ t, u', w', es, by rw [a1, List.append_assoc], by rw [a2, List.append_assoc], a3, both a4, a5, a6⟩
  cases hm : fr.mode with
  | run => exact lift hr (run_carried S h hm hs)
  | returning =>
    cases seg with
    | nil => rcases hg with hg | hg; · rw [hm] at hg; cases hg
             · exact absurd rfl hg
    | cons c t => exact lift (fun x hx => hr x (by simp [hx])) (ret_carried S h (hr c (by simp)) hm (cu := t ++ bu) (cw := t ++ bw) hs)
  | panicking ch =>
    cases seg with
    | nil => rcases hg with hg | hg; · rw [hm] at hg; cases hg
             · exact absurd rfl hg
    | cons c t => exact lift (fun x hx => hr x (by simp [hx])) (pan_carried S h (hr c (by simp)) hm (cu := t ++ bu) (cw := t ++ bw) hs)

open Classical in
noncomputable def pzObj (X : Nat → Prop) (i : Nat) (o : Obj) : Obj := if X i then (match o with | .cells _ e f => .cells #[] e f | o => o) else o
/-- The world with the blocks X emptied. -/
noncomputable def pz (X : Nat → Prop) (w : World) : World := { w with heap := w.heap.mapIdx (pzObj X) }
/-- .. with another tape, read from another count on. -/
noncomputable def pzT (X : Nat → Prop) (w : World) (τ : Nat → Question → Nat) (d : Nat) : World := { pz X w with tape := τ, drawn := d }
structure Base (X : Nat → Prop) (w : World) : Prop where
  old : ∀ b, X b → b < w.heap.size
  cov : ∀ b, X b → ∃ c e, w.heap[b]? = some (Obj.cells c e (0, 0))
  pend : ∀ (b : Nat) (c : Array Value) (t : TypeId), w.heap[b]? = some (Obj.pending c t) → gN ≤ b
theorem pz_get (w : World) (b : Nat) : (pz X w).heap[b]? = (w.heap[b]?).map (pzObj X b) := by simp [pz]
theorem sim_pz {w : World} (h : Base X w) {τ : Nat → Question → Nat} {d n : Nat} (ht : ∀ i q, i < n → τ (d + i) q = w.tape (w.drawn + i) q) : Sim X n w (pzT X w τ d) := by
  refine ⟨by simp [pzT, pz], h.old, fun b hb => ?_, fun b hb => ?_, h.pend, rfl, rfl, ht⟩
  · show (pz X w).heap[b]? = _
    rw [pz_get]
    cases w.heap[b]? with
    | none => rfl
    | some o => simp [pzObj, hb]
  · obtain ⟨c, e, hw⟩ := h.cov b hb
    refine ⟨c, e, hw, ?_⟩
    show (pz X w).heap[b]? = _
    rw [pz_get, hw]
    simp [pzObj, hb]
theorem Sim.base {n : Nat} {w u : World} (h : Sim X n w u) : Base X w := ⟨h.old, fun b hb => by obtain ⟨c, e, hw, _⟩ := h.cov b hb; exact ⟨c, e, hw⟩, h.pend⟩
theorem Sim.eq_pz {n : Nat} {w u : World} (h : Sim X n w u) : u = pzT X w u.tape u.drawn := by
  have hh : u.heap = (pz X w).heap := by
    apply Array.ext_getElem?
    intro b
    rw [pz_get]
    by_cases hb : X b
    · obtain ⟨c, e, hw, hu⟩ := h.cov b hb
      rw [hu, hw]; simp [pzObj, hb]
    · rw [h.same b hb]
      cases w.heap[b]? with
      | none => rfl
      | some o => simp [pzObj, hb]
  cases u
  simp only [pzT, pz] at hh ⊢
  have h1 := h.os
  have h2 := h.output
  simp only at h1 h2
  subst hh h1 h2
  rfl
theorem On.base {n : Nat} {w u w' u' : World} (h : On X n w u w' u') : Base X w' := by
  obtain ⟨_, _, _, _, hs⟩ := h.drew
  exact hs.base
end
end Go.Proofs.Ytafgabakhaipnaa

/- Runs carried over, 11: the lone run over a base that lets nothing by; a run whose tape is shifted. -/
namespace Go.Proofs.Ytafgabakhaipnaa
open Go.Conc

section
variable {P : Program} {X : Nat → Prop} {s : Nat → Bool}

theorem lone_next {fr fr' : Frame} {cs cs' : List Frame} {u u' : World} {es : Array Event} (h : stepG P true (G fr cs) u = .go (G fr' cs') u' es) : step P (lone fr cs u) = .next (lone fr' cs' u') :=
  step_lone_go (by
    have e : stepG P true { frame := fr, callers := cs, status := .running, dying := none } u = .go (G fr' cs') u' es := h
    rw [e]; rfl)
theorem lone_ended {fr : Frame} {cs : List Frame} {u u' : World} {o : Outcome} {es : Array Event} (h : stepG P true (G fr cs) u = .ended o u' es) : step P (lone fr cs u) = .ended o u' :=
  step_lone_ended (by
    have e : stepG P true { frame := fr, callers := cs, status := .running, dying := none } u = .ended o u' es := h
    rw [e]; rfl)
theorem lone_inj {fr fr' : Frame} {cs cs' : List Frame} {u u' : World} (h : lone fr cs u = lone fr' cs' u') : fr = fr' ∧ cs = cs' ∧ u = u' := by
  simp only [lone, Machine.mk.injEq, Array.mk.injEq, List.cons.injEq, Goroutine.mk.injEq] at h
  exact ⟨h.2.1.1.1, h.2.1.1.2.1, h.1⟩

/-- A frame below which a lone run does not come back: a return into it ends the machine, a panic does. -/
def c0 (P : Program) : Frame := { fn := P.funcs.size, tmps := #[], todo := [.code (.refuse "")], defers := [{ target := .nil, args := #[] }], mode := .run, kind := .normal }

/-- The lone run's end, if it is left by a return: reached when the first frame of the segment leaves. -/
theorem root_last (_S : SetOk P s) {fr fe : Frame} (h : FrOk P s fr) (hm : ¬ Going fr []) {u ue : World} : ∀ {N : Nat}, runN P N (lone fr [c0 P] u) = .next (lone fe [c0 P] ue) → N = 0
  | 0, _ => rfl
  | N + 1, hr => by
    exfalso
    obtain ⟨fn, hf⟩ := h.fn
    have hcat : fr.catches P = false := by unfold Frame.catches; rw [hf]
    have dead : ∀ (c : Frame) (x : World), (c = (c0 P) ∨ ∃ ch, c = (c0 P).raise ch) → ∀ M, runN P M (lone c [] x) ≠ .next (lone fe [c0 P] ue) := fun c x hc M hM => by
      have hend : ∃ o y es, stepG P true (G c []) x = .ended o y es := by
        rcases hc with rfl | ⟨ch, rfl⟩
        · exact ⟨_, _, _, by simp only [stepG, stepG.exec, G, c0]; rfl⟩
        · exact ⟨_, _, _, by simp only [stepG, G, c0, Frame.raise, unwind, callDeferred]; rfl⟩
      obtain ⟨o, y, es, he⟩ := hend
      cases M with
      | zero => simp only [runN, Stepped.next.injEq] at hM; have := (lone_inj hM).2.1; cases this
      | succ M => simp only [runN, lone_ended he] at hM; cases hM
    simp only [runN] at hr
    cases hmo : fr.mode with
    | run => exact hm (.inl hmo)
    | panicking ch =>
      have e : stepG P true (G fr [c0 P]) u = .go (G ((c0 P).raise ch) []) u #[] := by
        simp [stepG, G, hmo, unwind, h.defers, hcat]
      rw [lone_next e] at hr
      exact dead _ _ (.inr ⟨ch, rfl⟩) N hr
    | returning =>
      generalize hu : (results fn fr.tmps).runT P u #[] = ru
      match ru, hu with
      | (.ok v u1, eu), hu =>
        have e : stepG P true (G fr [c0 P]) u = .go (G (c0 P) []) u1 (seen P fr.fn eu ++ #[]) := by
          simp only [stepG, G, hmo, unwind, h.defers, hf, hu, doReturn, h.kind, GStep.after]
          rfl
        rw [lone_next e] at hr
        exact dead _ _ (.inl rfl) N hr
      | (.halt k u1, eu), hu =>
        have e : ∃ o y es, stepG P true (G fr [c0 P]) u = .ended o y es := by
          simp only [stepG, G, hmo, unwind, h.defers, hf, hu]
          cases k <;> exact ⟨_, _, _, rfl⟩
        obtain ⟨o, y, es, e⟩ := e
        rw [lone_ended e] at hr
        cases hr

theorem Full.symm {u v : World} (h : Full (fun _ => False) u v) : Full (fun _ => False) v u := fun n =>
  ⟨(h n).size.symm, fun _ h => h.elim, fun b hb => ((h n).same b hb).symm, fun _ h => h.elim, (h n).pendU, (h n).os.symm, (h n).output.symm, fun i q hi => ((h n).tape i q hi).symm⟩
theorem Full.trans {u v x : World} (h : Full (fun _ => False) u v) (k : Full (fun _ => False) v x) : Full (fun _ => False) u x := fun n =>
  ⟨(k n).size.trans (h n).size, fun _ h => h.elim, fun b hb => ((k n).same b hb).trans ((h n).same b hb), fun _ h => h.elim, (h n).pend, (k n).os.trans (h n).os, (k n).output.trans (h n).output, fun i q hi => ((k n).tape i q hi).trans ((h n).tape i q hi)⟩
/-- The same run on a tape that is shifted. -/
theorem shift (S : SetOk P s) : ∀ (N : Nat) {fr fe : Frame} {seg : List Frame} {u v ue : World}, FrOk P s fr → (∀ c ∈ seg, FrOk P s c) → Full (fun _ => False) u v → runN P N (lone fr (seg ++ [c0 P]) u) = .next (lone fe [c0 P] ue) →
    ∃ ve, runN P N (lone fr (seg ++ [c0 P]) v) = .next (lone fe [c0 P] ve) ∧ Full (fun _ => False) ue ve
  | 0, fr, fe, seg, u, v, ue, h, hr, hf, hrun => by
    simp only [runN, Stepped.next.injEq] at hrun
    obtain ⟨e1, e2, e3⟩ := lone_inj hrun
    subst e1 e3
    exact ⟨v, by simp only [runN, e2], hf⟩
  | N + 1, fr, fe, seg, u, v, ue, h, hr, hf, hrun => by
    by_cases hg : Going fr seg
    · have hf' := hf.symm
      rcases (seg_carries S (bu := [c0 P]) (bw := [c0 P]) h hr hg (hf' 0)).1 hf' with ⟨o, x, es, e⟩ | ⟨fr', seg', u', v', es, e1, e2, a3, a4, ⟨m, a5⟩, _⟩
      · simp only [runN, lone_ended e] at hrun; cases hrun
      · simp only [runN, lone_next e1] at hrun
        obtain ⟨ve, q1, q2⟩ := shift S N a3 a4 (hf'.on a5).symm hrun
        exact ⟨ve, by simp only [runN, lone_next e2]; exact q1, q2⟩
    · have hseg : seg = [] := by
        cases seg with
        | nil => rfl
        | cons c t => exact absurd (.inr (by simp)) hg
      subst hseg
      have := root_last S h hg hrun
      omega
end
end Go.Proofs.Ytafgabakhaipnaa
