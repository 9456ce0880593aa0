/- Runs carried over, 19: a run to the place where a frame is cut off. -/
import Derived.Test.YtmkpaciaollcbaaJ27
namespace Go.Proofs.Ytmkpaciaollcbaa
open Go.Conc

/-- The last frame has more to do behind. -/
def extL (k : List Item) : List Frame → List Frame
  | [] => []
  | [r] => [ext k r]
  | a :: b :: t => a :: extL k (b :: t)
theorem extL_app (k : List Item) (c : Frame) (t : List Frame) : ∀ new : List Frame, extL k (new ++ c :: t) = new ++ extL k (c :: t)
  | [] => rfl
  | [a] => rfl
  | a :: b :: n => by
    have := extL_app k c t (b :: n)
    simp only [List.cons_append] at this ⊢
    rw [extL, this]
/-- The goroutine whose frames are these above the base. -/
def gx (k : List Item) (fr : Frame) (seg bw : List Frame) : Goroutine :=
  match seg with
  | [] => G (ext k fr) bw
  | c :: t => G fr (extL k (c :: t) ++ bw)

section
variable {P : Program} {X : Nat → Prop} {s : Nat → Bool} {F : Frame → World → Prop}

theorem gx_step (S : SetOk P s) (k : List Item) {fr : Frame} {seg bw : List Frame} (h : FrOk P s fr) (hg : Going fr seg) (hne : seg = [] → fr.todo ≠ []) (hne' : ∀ c ∈ seg, c.todo ≠ []) {w : World} (hw : Full (fun _ => False) w w)
    {fr' : Frame} {seg' : List Frame} {w' : World} {es : Array Event} (hst : stepG P true (G fr (seg ++ bw)) w = .go (G fr' (seg' ++ bw)) w' es) :
    stepG P true (gx k fr seg bw) w = .go (gx k fr' seg' bw) w' es ∧ ∀ c ∈ seg', c.todo ≠ [] := by
  have gi : ∀ {a b : Frame} {l l' : List Frame}, G a l = G b l' → a = b ∧ l = l' := fun e => ⟨congrArg (·.frame) e, congrArg (·.callers) e⟩
  cases hm : fr.mode with
  | run =>
    rcases top_step S h hm hw hst with ⟨f1, a1, a2, a3⟩ | ⟨f1, a1, a2, a3, a4⟩
    · obtain ⟨rfl, e⟩ := gi a1
      have e := List.append_cancel_right e
      subst e
      refine ⟨?_, hne'⟩
      cases seg' with
      | nil => exact a3 (hne rfl) k bw
      | cons c t => exact a2 _
    · obtain ⟨rfl, e⟩ := gi a1
      rw [show fr :: (seg ++ bw) = (fr :: seg) ++ bw from rfl] at e
      have e := List.append_cancel_right e
      subst e
      refine ⟨?_, fun c hc => (List.mem_cons.1 hc).elim (fun e => e ▸ a2) (hne' c)⟩
      cases seg with
      | nil => exact a4 k bw
      | cons c t => exact a3 _
  | returning =>
    cases seg with
    | nil => rcases hg with hg | hg; · rw [hm] at hg; cases hg
             · exact absurd rfl hg
    | cons c t =>
      obtain ⟨fn, hf⟩ := h.fn
      generalize hu : (results fn fr.tmps).runT P w #[] = ru
      have step : ∀ (c : Frame) (cs : List Frame), stepG P true (G fr (c :: cs)) w = GStep.after (seen P fr.fn ru.2) (match ru.1 with
          | .ok v w => doReturn P true fr (c :: cs) none v w
          | .halt k w => (match k with | .stuck x => .ended (.stuck x (fr.pos P)) w | .unsupported x => .ended (.unsupported x (fr.pos P)) w | _ => .ended (.stuck "" (fr.pos P)) w)) ∨ ∃ o x es, stepG P true (G fr (c :: cs)) w = .ended o x es := fun c cs => by
        match ru, hu with
        | (.ok v u1, eu), hu => exact .inl (by simp only [stepG, G, hm, unwind, h.defers, hf, hu])
        | (.halt k u1, eu), hu => exact .inr (by cases k <;> exact ⟨_, _, _, by simp only [stepG, G, hm, unwind, h.defers, hf, hu, GStep.after]; rfl⟩)
      match ru, hu, step with
      | (.halt k u1, eu), hu, step =>
        exfalso
        rcases step c (t ++ bw) with e | ⟨o, x, es1, e⟩
        · rw [List.cons_append, e] at hst
          cases k <;> (simp only [GStep.after] at hst; cases hst)
        · rw [List.cons_append, e] at hst; cases hst
      | (.ok v u1, eu), hu, step =>
        have go : ∀ (c : Frame) (cs : List Frame), stepG P true (G fr (c :: cs)) w = .go (G (c.finish v) cs) u1 (seen P fr.fn eu ++ #[]) := fun c cs => by
          simp only [stepG, G, hm, unwind, h.defers, hf, hu, doReturn, h.kind, GStep.after]
        rw [List.cons_append, go] at hst
        rw [GStep.go.injEq] at hst
        obtain ⟨e1, rfl, rfl⟩ := hst
        obtain ⟨rfl, e2⟩ := gi e1
        have e3 := List.append_cancel_right e2
        subst e3
        refine ⟨?_, fun x hx => hne' x (by simp [hx])⟩
        cases t with
        | nil =>
          have := go (ext k c) bw
          rw [finish_ext k (hne' c (by simp))] at this
          exact this
        | cons d t => exact go c _
  | panicking ch =>
    cases seg with
    | nil => rcases hg with hg | hg; · rw [hm] at hg; cases hg
             · exact absurd rfl hg
    | cons c t =>
      obtain ⟨fn, hf⟩ := h.fn
      have hcat : fr.catches P = false := by unfold Frame.catches; rw [hf]
      have go : ∀ (c : Frame) (cs : List Frame), stepG P true (G fr (c :: cs)) w = .go (G (c.raise ch) cs) w #[] := fun c cs => by
        simp only [stepG, G, hm, unwind, h.defers, hcat, Bool.false_eq_true, if_false]
      rw [List.cons_append, go] at hst
      rw [GStep.go.injEq] at hst
      obtain ⟨e1, rfl, rfl⟩ := hst
      obtain ⟨rfl, e2⟩ := gi e1
      have e3 := List.append_cancel_right e2
      subst e3
      refine ⟨?_, fun x hx => hne' x (by simp [hx])⟩
      cases t with
      | nil =>
        have := go (ext k c) bw
        rw [raise_ext] at this
        exact this
      | cons d t => exact go c _

/-- Nothing is left to do. -/
abbrev OutE (fr : Frame) : Prop := fr.mode = .run ∧ fr.todo = []
/-- The cut-off frame has come to its end. -/
def AtCut (P : Program) (X : Nat → Prop) (s : Nat → Bool) (F : Frame → World → Prop) (k : List Item) (bw : List Frame) (g : Goroutine) (w : World) : Prop :=
  ∃ fe, g = G (ext k fe) bw ∧ FrOk P s fe ∧ Base X w ∧ OutE fe ∧ ∀ τ d, F fe (pzT X w τ d)

theorem cut_of (S : SetOk P s) {fr : Frame} {w : World} (h : St P X s OutE F fr [] w) (hc : fr.mode ≠ .run ∨ fr.todo = []) (k : List Item) (bw : List Frame) (d : Nat) : AtCut P X s F k bw (gx k fr [] bw) (w.at d) := by
  have key : ∀ τ d, OutE fr ∧ F fr (pzT X w τ d) := fun τ d => by
    obtain ⟨N, fe, ue, hr, hmo, hF⟩ := h.ends τ d
    have rest : ∀ {f : Frame} {N : Nat}, FrOk P s f → f.mode ≠ .run → runN P N (lone f [c0 P] (pzT X w τ d)) = .next (lone fe [c0 P] ue) → f = fe := fun {f N} hf hm hr => by
      have hN := root_last S hf (fun hh => hh.elim hm (fun h => h rfl)) hr
      subst hN
      simp only [runN, Stepped.next.injEq] at hr
      exact (lone_inj hr).1
    simp only [List.nil_append] at hr
    by_cases hm : fr.mode = .run
    · have ht : fr.todo = [] := hc.resolve_left fun h => h hm
      have hstep : step P (lone fr [c0 P] (pzT X w τ d)) = .next (lone { fr with mode := .returning } [c0 P] (pzT X w τ d)) := lone_next (es := #[]) (by simp [stepG, stepG.exec, G, hm, ht, h.top.round])
      cases N with
      | zero =>
        simp only [runN, Stepped.next.injEq] at hr
        obtain ⟨e1, _, e3⟩ := lone_inj hr
        subst e1 e3
        exact ⟨hmo, hF⟩
      | succ N =>
        simp only [runN, hstep] at hr
        have e := rest (mode_ok h.top .returning) (by simp) hr
        rw [← e] at hmo
        exact absurd hmo.1 (by simp)
    · have e := rest h.top hm hr
      rw [← e] at hmo
      exact absurd hmo.1 hm
  exact ⟨fr, rfl, h.top, h.base.at d, (key (fun _ _ => 0) 0).1, fun τ d => (key τ d).2⟩

def BadC (P : Program) (X : Nat → Prop) (s : Nat → Bool) (F : Frame → World → Prop) (k : List Item) (bw : List Frame) (x : Frame × List Frame × World) : Prop :=
  St P X s OutE F x.1 x.2.1 x.2.2 ∧ (∀ c ∈ x.2.1, c.todo ≠ []) ∧ ¬ Run P X (AtCut P X s F k bw) (gx k x.1 x.2.1 bw) x.2.2

theorem badC_next (S : SetOk P s) (hF : ∀ fe u v, Full (fun _ => False) u v → F fe u → F fe v) {k0 : List Item} {bw : List Frame} {x : Frame × List Frame × World} (h : BadC P X s F k0 bw x) :
    (x.2.1 = [] → ¬ OutE x.1) ∧ ∃ (d k : Nat) (y : Frame × List Frame × World), BadC P X s F k0 bw y ∧ y.2.2.tape = x.2.2.tape ∧
      ∀ τ d0, (∀ i q, i < k → τ (d0 + i) q = x.2.2.tape (d + i) q) → step P (lone x.1 (x.2.1 ++ [c0 P]) (pzT X x.2.2 τ d0)) = .next (lone y.1 (y.2.1 ++ [c0 P]) (pzT X y.2.2 τ (d0 + k))) := by
  obtain ⟨hst, hmid, hn⟩ := h
  have hcut : x.2.1 = [] → x.1.mode = .run ∧ x.1.todo ≠ [] := fun e => by
    refine Classical.byContradiction fun hno => hn (.stop fun d => ?_)
    obtain ⟨fr, seg, w⟩ := x
    simp only at e
    subst e
    exact cut_of S hst (Classical.byContradiction fun hh => hno ⟨Classical.byContradiction fun h1 => hh (.inl h1), fun h1 => hh (.inr h1)⟩) k0 bw d
  have hg : Going x.1 x.2.1 := by
    by_cases e : x.2.1 = []
    · exact .inl (hcut e).1
    · exact .inr e
  have hE : x.2.1 = [] → ¬ OutE x.1 := fun e h => (hcut e).2 h.2
  refine ⟨hE, Classical.byContradiction fun hno => hn ?_⟩
  have hs := fun d => step_st S hF hst hg hE bw d
  let fr' := fun d => Classical.choose (hs d)
  let seg' := fun d => Classical.choose (Classical.choose_spec (hs d))
  let w' := fun d => Classical.choose (Classical.choose_spec (Classical.choose_spec (hs d)))
  let es := fun d => Classical.choose (Classical.choose_spec (Classical.choose_spec (Classical.choose_spec (hs d))))
  have sp : ∀ d, ∃ k, stepG P true (G x.1 (x.2.1 ++ bw)) (x.2.2.at d) = .go (G (fr' d) (seg' d ++ bw)) (w' d) (es d) ∧ (∀ e ∈ es d, Fine X e) ∧ St P X s OutE F (fr' d) (seg' d) (w' d) ∧ (w' d).tape = x.2.2.tape ∧ (w' d).drawn = d + k ∧
      ∀ τ d0, (∀ i q, i < k → τ (d0 + i) q = x.2.2.tape (d + i) q) → step P (lone x.1 (x.2.1 ++ [c0 P]) (pzT X x.2.2 τ d0)) = .next (lone (fr' d) (seg' d ++ [c0 P]) (pzT X (w' d) τ (d0 + k))) :=
    fun d => Classical.choose_spec (Classical.choose_spec (Classical.choose_spec (Classical.choose_spec (hs d))))
  have self : ∀ d, Full (fun _ => False) (x.2.2.at d) (x.2.2.at d) := fun d n => ⟨rfl, fun _ h => h.elim, fun _ _ => rfl, fun _ h => h.elim, hst.base.pend, rfl, rfl, fun _ _ _ => rfl⟩
  have gs := fun d => gx_step S k0 hst.top hg (fun e => (hcut e).2) hmid (self d) (sp d).choose_spec.1
  refine .step (by unfold gx; split <;> rfl) (fun d => gx k0 (fr' d) (seg' d) bw) w' es (fun d => (gs d).1) (fun d => (sp d).choose_spec.2.1) (fun d => ?_)
  refine Classical.byContradiction fun hr => hno ?_
  obtain ⟨k, _, _, a3, a4, _, a6⟩ := sp d
  exact ⟨d, k, (fr' d, seg' d, w' d), ⟨a3, (gs d).2, hr⟩, a4, a6⟩

/-- A lone run of a frame that is cut off, carried over to the whole frame. -/
theorem run_to_cut (S : SetOk P s) (hF : ∀ fe u v, Full (fun _ => False) u v → F fe u → F fe v) (k : List Item) (bw : List Frame) {fr : Frame} {w : World} (h : St P X s OutE F fr [] w) : Run P X (AtCut P X s F k bw) (G (ext k fr) bw) w :=
  Classical.byContradiction fun hn => no_chain (B0 := BadC P X s F k bw) (fun _ hx => badC_next S hF hx) ⟨h, by simp, hn⟩ h.ends
end
end Go.Proofs.Ytmkpaciaollcbaa

/- Runs carried over, 20: pieces of a function's text, by what is shown of them alone. -/
namespace Go.Proofs.Ytmkpaciaollcbaa
open Go.Conc

/-- One behind the other. -/
def joinC : List Code → Code → Code
  | [], B => B
  | r :: l, B => .seq r (joinC l B)
def Nest (P : Program) : List Code → (Exit → Act → World → Prop) → Act → World → Prop
  | [], Q => Q .normal
  | r :: l, Q => r.wp P (Exit.then (Nest P l Q) Q)

section
variable {P : Program} {X : Nat → Prop} {s : Nat → Bool}

theorem Run.bind {Stop Stop' : Goroutine → World → Prop} {g : Goroutine} {w : World} (h : Run P X Stop g w) (hk : ∀ g w, Stop g w → Run P X Stop' g w) : Run P X Stop' g w := by
  induction h with
  | stop h => exact hk _ _ (h _)
  | step hr g' w' es hs hf _ ih => exact .step hr g' w' es hs hf ih
theorem Run.mono {Stop Stop' : Goroutine → World → Prop} {g : Goroutine} {w : World} (h : Run P X Stop g w) (hk : ∀ g w, Stop g w → Stop' g w) : Run P X Stop' g w := by
  induction h with
  | stop h => exact .stop fun d => hk _ _ (h d)
  | step hr g' w' es hs hf _ ih => exact .step hr g' w' es hs hf ih
/-- A silent step. -/
theorem Run.one {Stop : Goroutine → World → Prop} {g g' : Goroutine} {w : World} (hr : g.status = .running) (hs : ∀ x, stepG P true g x = .go g' x #[]) (h : Run P X Stop g' w) : Run P X Stop g w :=
  .step hr (fun _ => g') (fun d => w.at d) (fun _ => #[]) (fun d => hs (w.at d)) (fun _ _ he => by simp at he) (fun d => h.at d)

/-- What is held of a world up to its tape. -/
def Held (Q : World → Prop) (u : World) : Prop := ∃ u0, Q u0 ∧ Full (fun _ => False) u0 u
theorem Held.full {Q : World → Prop} {u v : World} (h : Held Q u) (hf : Full (fun _ => False) u v) : Held Q v := let ⟨u0, h1, h2⟩ := h; ⟨u0, h1, h2.trans hf⟩
theorem pz_full {w : World} (hb : Base X w) (τ : Nat → Question → Nat) (d : Nat) : Full (fun _ => False) (pzT X w τ d) (pzT X w τ d) := by
  have hs : Sim X 0 w (pzT X w τ d) := sim_pz hb (fun i q hi => by omega)
  exact fun n => ⟨rfl, fun _ h => h.elim, fun _ _ => rfl, fun _ h => h.elim, hs.pendU, rfl, rfl, fun _ _ _ => rfl⟩
theorem held_of {w : World} (hb : Base X w) {Q : World → Prop} (h : ∀ τ d, Q (pzT X w τ d)) (τ : Nat → Question → Nat) (d : Nat) : Held Q (pzT X w τ d) := ⟨_, h τ d, pz_full hb τ d⟩

/-- A frame of the walk's form. -/
structure FrB (P : Program) (b : Frame) : Prop where
  kind : b.kind = .normal
  fn : ∃ fn, P.funcs[b.fn]? = some fn

theorem FrB.ok {b : Frame} (h : FrB P b) {a : Act} (hd : a.defers = []) {l : List Item} (hl : ∀ i ∈ l, itemOk P s i) : FrOk P s (b.at a l) := ⟨hl, hd, h.kind, rfl, h.fn⟩
theorem ext_at (b : Frame) (a : Act) (l k : List Item) : ext k (b.at a l) = b.at a (l ++ k) := rfl

/-- The state at a stop: the frame with this ahead of it; what is held. -/
def Stands (X : Nat → Prop) (b : Frame) (k : List Item) (bw : List Frame) (Q : Act → World → Prop) (g : Goroutine) (w : World) : Prop :=
  ∃ a, g = G (b.at a k) bw ∧ a.defers = [] ∧ Base X w ∧ ∀ τ d, Held (Q a) (pzT X w τ d)

theorem piece_run (S : SetOk P s) {r : Code} (hr : codeOk P s r = true) {b : Frame} (hb : FrB P b) {a : Act} (hd : a.defers = []) {w : World} (hw : Base X w) {Q : Act → World → Prop}
    (h : ∀ τ d, Held (fun u => r.wp P (fun e a' u' => e = .normal ∧ Q a' u') a u) (pzT X w τ d)) (k : List Item) (bw : List Frame) :
    Run P X (Stands X b k bw Q) (G (b.at a (.code r :: k)) bw) w := by
  have hok : FrOk P s (b.at a [.code r]) := hb.ok hd (by intro i hi; simp at hi; subst hi; exact hr)
  have hst : St P X s OutE (fun fe u => ∃ a', fe = b.at a' [] ∧ Held (Q a') u) (b.at a [.code r]) [] w := by
    refine ⟨hok, by simp, hw, fun τ d => ?_⟩
    obtain ⟨u0, h1, h2⟩ := h τ d
    obtain ⟨e, a', u', ⟨rfl, hq⟩, ⟨N, hN⟩⟩ := h1 b [] [c0 P]
    obtain ⟨ve, q1, q2⟩ := shift S N hok (seg := []) (by simp) h2 hN
    exact ⟨N, b.at a' [], ve, q1, ⟨rfl, rfl⟩, a', rfl, _, hq, q2⟩
  refine (run_to_cut S (fun fe u v hf ⟨a', h1, h3⟩ => ⟨a', h1, h3.full hf⟩) k bw hst).mono fun g w' ⟨fe, h1, h2, h3, h4, h5⟩ => ?_
  obtain ⟨a', e, _⟩ := h5 (fun _ _ => 0) 0
  subst e
  refine ⟨a', h1, h2.defers, h3, fun τ d => ?_⟩
  obtain ⟨a'', e, hq⟩ := h5 τ d
  have e1 : a'.tmps = a''.tmps := congrArg Frame.tmps e
  have e2 : a'.defers = a''.defers := congrArg Frame.defers e
  obtain rfl : a' = a'' := by cases a'; cases a''; simp_all
  exact hq

/-- Pieces, one behind the other. -/
theorem nest_run (S : SetOk P s) {b : Frame} (hb : FrB P b) {Q : Act → World → Prop} (B : Code) (k : List Item) (bw : List Frame) : ∀ (l : List Code), (∀ r ∈ l, codeOk P s r = true) → ∀ {a : Act} {w : World}, a.defers = [] → Base X w →
    (∀ τ d, Held (Nest P l (fun e a' u' => e = .normal ∧ Q a' u') a) (pzT X w τ d)) →
    Run P X (Stands X b (.code B :: k) bw Q) (G (b.at a (.code (joinC l B) :: k)) bw) w
  | [], _, a, w, hd, hw, h => .stop fun d => ⟨a, rfl, hd, hw.at d, fun τ d => let ⟨u0, h1, h2⟩ := h τ d; ⟨u0, h1.2, h2⟩⟩
  | r :: l, hl, a, w, hd, hw, h => by
    refine .one rfl (fun x => stepG_seq) ?_
    refine (piece_run S (hl r (by simp)) hb hd hw (Q := fun a' u => Nest P l (fun e a' u' => e = .normal ∧ Q a' u') a' u) (fun τ d => ?_) (.code (joinC l B) :: k) bw).bind fun g w' ⟨a', h1, h2, h3, h4⟩ => ?_
    · obtain ⟨u0, h1, h2⟩ := h τ d
      exact ⟨u0, wp_mono h1 (fun e a' u' hq => by
        cases e with
        | normal => exact ⟨rfl, hq⟩
        | _ => exact absurd hq.1 (by simp)), h2⟩
    · subst h1
      exact nest_run S hb B k bw l (fun r hr => hl r (by simp [hr])) h2 h3 h4
end
end Go.Proofs.Ytmkpaciaollcbaa

/- Runs carried over, 21: to the end of the run. -/
namespace Go.Proofs.Ytmkpaciaollcbaa
open Go.Conc
open Go.ConcN (sumTo)

/-- The run ends well from here. -/
def EndsG (P : Program) (Post : Value → World → Prop) (m : Machine) (t : Trace) : Prop :=
  ∃ N last o w' t', runNT P (N + 1) m t = (.ended o w', t') ∧ runN P N m = .next last ∧ step P last = .ended o w' ∧ Go.Conc.Good P Post last o w' t'

section
variable {P : Program} {X : Nat → Prop} {Shun : Loc → Prop} {Post : Value → World → Prop}

theorem EndsG.of_run {N : Nat} {m m' : Machine} {t t' : Trace} (h : runNT P N m t = (.next m', t')) (k : EndsG P Post m' t') : EndsG P Post m t := by
  obtain ⟨K, last, o, w', t'', e1, e2, e3, e4⟩ := k
  refine ⟨N + K, last, o, w', t'', ?_, ?_, e3, e4⟩
  · rw [Nat.add_assoc, runNT_add, h]; exact e1
  · rw [runN_add, ← runNT_fst P _ _ #[]]
    have := runNT_fst P N m t
    rw [h] at this
    rw [runNT_fst, ← this]
    exact e2

/-- Goroutine 0 stands here beside leavers. -/
structure Here (P : Program) (Shun : Loc → Prop) (gs : Array Goroutine) (a : Goroutine) (t : Trace) : Prop where
  zero : gs[0]? = some a
  leave : ∃ q, Leavers P t gs q
  fr : ∃ B, Fr Shun B t

theorem ends_run (hX : ∀ l, Shun l → ∃ a, l = .cell a ∧ X a.block) {Stop : Goroutine → World → Prop} {gs : Array Goroutine} {a : Goroutine} {w : World} {sl : Option (Nat × Nat)} {t : Trace} (hh : Here P Shun gs a t) (h : Run P X Stop a w)
    (k : ∀ gs' a' w' sl' t', Here P Shun gs' a' t' → Stop a' w' → EndsG P Post (crowd gs' w' sl') t') : EndsG P Post (crowd gs w sl) t := by
  obtain ⟨q, hL⟩ := hh.leave
  obtain ⟨B, hF⟩ := hh.fr
  obtain ⟨N, gs', a', w', sl', t', q', B', hr, _, h0, hS, hL', hF', _⟩ := run_beside hX h _ gs w.drawn sl t q B (Nat.le_refl _) hh.zero hL hF
  exact EndsG.of_run hr (k gs' a' w' sl' t' ⟨h0, ⟨q', hL'⟩, ⟨B', hF'⟩⟩ hS)

/-- .. by a walk whose steps' entries are well. -/
theorem ends_goes {D : World → World → Array Event → Prop} {B0 : Nat} (hD : ∀ w w' es, D w w' es → ∀ e ∈ es, EvL Shun B0 e) {Stop : Goroutine → World → Prop} :
    ∀ (n M : Nat) {gs : Array Goroutine} {a : Goroutine} {w : World} {sl : Option (Nat × Nat)} {t : Trace} {q : Nat → Nat} {B : Nat}, sumTo gs.size q ≤ M → gs[0]? = some a → Leavers P t gs q → Fr Shun B t → B0 ≤ B → Goes P true AtRel D Stop n a w →
      (∀ gs' a' w' sl' t', Here P Shun gs' a' t' → Stop a' w' → EndsG P Post (crowd gs' w' sl') t') → EndsG P Post (crowd gs w sl) t := by
  intro n
  induction n with
  | zero => exact fun M gs a w sl t q B _ h0 hL hF _ hG k => k gs a w sl t ⟨h0, ⟨q, hL⟩, ⟨B, hF⟩⟩ (hG w (atRel_refl w))
  | succ n ihn =>
    intro M
    induction M with
    | zero =>
      intro gs a w sl t q B hM h0 hL hF hB hG k
      rcases hG with hstop | ⟨hrun, hstep⟩
      · exact k gs a w sl t ⟨h0, ⟨q, hL⟩, ⟨B, hF⟩⟩ (hstop w (atRel_refl w))
      obtain ⟨d, sl', h1 | ⟨gs1, t1, q1, _, _, _, _, _, hlt⟩⟩ := beside_one h0 hrun hL hF w sl
      · have hs := hstep (w.at d) ⟨d, rfl⟩
        cases hgo : stepG P true a (w.at d) with
        | go a' w' es =>
          rw [hgo, goes_go] at hs
          obtain ⟨gs1, t1, r1, z1, a1, L1, P1⟩ := h1 _ _ _ B hgo (fun e he => by have := hD _ _ _ hs.1 e he; exact ⟨this.1, this.2.1, this.2.2.1, MemAct.low_mono hB this.2.2.2⟩) (Nat.le_refl _)
          exact EndsG.of_run r1 (ihn _ (Nat.le_refl _) a1 L1 P1 hB hs.2 k)
        | _ => rw [hgo] at hs; exact hs.elim
      · omega
    | succ M ihM =>
      intro gs a w sl t q B hM h0 hL hF hB hG k
      rcases hG with hstop | ⟨hrun, hstep⟩
      · exact k gs a w sl t ⟨h0, ⟨q, hL⟩, ⟨B, hF⟩⟩ (hstop w (atRel_refl w))
      obtain ⟨d, sl', h1 | ⟨gs1, t1, q1, r1, z1, a1, L1, P1, hlt⟩⟩ := beside_one h0 hrun hL hF w sl
      · have hs := hstep (w.at d) ⟨d, rfl⟩
        cases hgo : stepG P true a (w.at d) with
        | go a' w' es =>
          rw [hgo, goes_go] at hs
          obtain ⟨gs1, t1, r1, z1, a1, L1, P1⟩ := h1 _ _ _ B hgo (fun e he => by have := hD _ _ _ hs.1 e he; exact ⟨this.1, this.2.1, this.2.2.1, MemAct.low_mono hB this.2.2.2⟩) (Nat.le_refl _)
          exact EndsG.of_run r1 (ihn _ (Nat.le_refl _) a1 L1 P1 hB hs.2 k)
        | _ => rw [hgo] at hs; exact hs.elim
      · exact EndsG.of_run r1 (ihM (by rw [z1]; omega) a1 L1 P1 hB (Goes.rely atRel_trans (.inr ⟨hrun, hstep⟩) ⟨d, rfl⟩) k)

theorem ends_walk {D : World → World → Array Event → Prop} {B0 : Nat} (hD : ∀ w w' es, D w w' es → ∀ e ∈ es, EvL Shun B0 e) {Stop : Goroutine → World → Prop} {n : Nat} {gs : Array Goroutine} {a : Goroutine} {w : World} {sl : Option (Nat × Nat)} {t : Trace} (hh : Here P Shun gs a t) (hG : Goes P true AtRel D Stop n a w)
    (k : ∀ gs' a' w' sl' t', Here P Shun gs' a' t' → Stop a' w' → EndsG P Post (crowd gs' w' sl') t') : EndsG P Post (crowd gs w sl) t := by
  obtain ⟨q, hL⟩ := hh.leave
  obtain ⟨B, hF⟩ := hh.fr
  exact ends_goes hD n _ (Nat.le_refl _) hh.zero hL (hF.mono (Nat.le_max_left B B0)) (Nat.le_max_right B B0) hG k

/-- The last step. -/
theorem ends_last {gs : Array Goroutine} {a : Goroutine} {w : World} {sl : Option (Nat × Nat)} {t : Trace} (hh : Here P Shun gs a t) (hr : a.status = .running) {v : Value} (hs : ∀ x : World, stepG P true a x = .ended (.done v) x #[]) (hp : ∀ d, Post v (w.at d)) : EndsG P Post (crowd gs w sl) t := by
  obtain ⟨q, hL⟩ := hh.leave
  obtain ⟨B, hF⟩ := hh.fr
  exact beside_ends (P := P) (Post := Post) (sl := sl) (D := fun _ _ _ => False) (fun _ _ _ h => h.elim) hh.zero hL hF.past (n := 0) (fun w₁ ⟨d, hd⟩ => by subst hd; exact ⟨hr, v, #[], hs _, by simp, hp d⟩)
end
end Go.Proofs.Ytmkpaciaollcbaa

/- Runs carried over, 22: the rest of a function, and a call, to the caller. -/
namespace Go.Proofs.Ytmkpaciaollcbaa
open Go.Conc

section
variable {P : Program} {X : Nat → Prop} {s : Nat → Bool}

/-- Back at the caller. -/
def Back (X : Nat → Prop) (c : Frame) (cs : List Frame) (R : Value → World → Prop) (g : Goroutine) (w : World) : Prop :=
  ∃ v, g = G (c.finish v) cs ∧ Base X w ∧ ∀ τ d, Held (R v) (pzT X w τ d)

theorem back_of {w : World} {R : World → Value → World → Prop} {c : Frame} {cs : List Frame} {g : Goroutine} {w' : World} (h : Left P X s (Told P X w R) (c :: cs) g w') :
    Run P X (Back X c cs fun v u => ∃ τ d, R (pzT X w τ d) v u) g w' := by
  have hr : g.status = .running := by obtain ⟨fe, rfl, _⟩ := h; rfl
  obtain ⟨v, h1, h2, h3⟩ := left_ret h
  refine .step hr (fun _ => G (c.finish v) cs) (fun d => w'.at d) (fun d => (h1 d).choose) (fun d => (h1 d).choose_spec.1) (fun d => (h1 d).choose_spec.2) (fun d => .stop fun d' => ⟨v, rfl, (h2.at d).at d', fun τ d'' => ?_⟩)
  obtain ⟨τ0, d0, u0, h4, h5⟩ := h3 τ d''
  exact ⟨u0, ⟨τ0, d0, h4⟩, h5⟩

/-- A call, by its contract, to the caller. -/
theorem call_back (S : SetOk P s) {f : FuncId} (hf : s f = true) {args : Array Value} {w : World} (hb : Base X w) {R : World → Value → World → Prop}
    (hc : ∀ τ d, Calls P f args (pzT X w τ d) fun e u' => ∃ v, e = .returned v ∧ R (pzT X w τ d) v u') (c : Frame) (cs : List Frame) :
    Run P X (Back X c cs fun v u => ∃ τ d, R (pzT X w τ d) v u) (G (Frame.enter P f args .normal) (c :: cs)) w :=
  (calls_run S hf hb hc (c :: cs)).bind fun _ _ h => back_of h

/-- The rest of a function's text, to the caller. -/
theorem tail_back (S : SetOk P s) {b : Frame} (hb : FrB P b) {a : Act} (hd : a.defers = []) {r : Code} (hr : codeOk P s r = true) {fn : Func} (hf : P.funcs[b.fn]? = some fn) {w : World} (hw : Base X w) {R : Value → World → Prop}
    (h : ∀ τ d, Held (fun u => r.wp P (bodyPost P fn fun e u' => ∃ v, e = .returned v ∧ R v u') a u) (pzT X w τ d)) (c : Frame) (cs : List Frame) :
    Run P X (Back X c cs R) (G (b.at a [.code r]) (c :: cs)) w := by
  have hok : FrOk P s (b.at a [.code r]) := hb.ok hd (by intro i hi; simp at hi; subst hi; exact hr)
  have hst : St P X s Rtn (Told P X w fun _ => R) (b.at a [.code r]) [] w := by
    refine ⟨hok, by simp, hw, fun τ d => ?_⟩
    obtain ⟨u0, h1, h2⟩ := h τ d
    obtain ⟨e, a', u', hq, harr⟩ := h1 b [] [c0 P]
    have go : ∀ {N : Nat} {fe : Frame} {u1 : World} {v : Value}, runN P N (lone (b.at a [.code r]) ([] ++ [c0 P]) u0) = .next (lone fe [c0 P] u1) → fe.leaving P u1 (.returned v) → R v u1 →
        ∃ N fe ue, runN P N (lone (b.at a [.code r]) ([] ++ [c0 P]) (pzT X w τ d)) = .next (lone fe [c0 P] ue) ∧ Rtn fe ∧ Told P X w (fun _ => R) fe ue := fun {N fe u1 v} hN hl hR => by
      obtain ⟨ve, q1, q2⟩ := shift S N hok (seg := []) (by simp) h2 hN
      exact ⟨N, fe, ve, q1, hl.1, fun _ _ => 0, 0, u1, v, hR, hl, q2⟩
    cases e with
    | normal =>
      obtain ⟨hd', v, hres, v', e1, hR⟩ := hq
      cases e1
      obtain ⟨N, hN⟩ := Steps.trans harr (.one step_end)
      exact go hN ⟨rfl, hd', hb.kind, fn, hf, hres⟩ hR
    | ret =>
      obtain ⟨hd', v, hres, v', e1, hR⟩ := hq
      cases e1
      obtain ⟨todo, N, hN⟩ := harr
      exact go hN ⟨rfl, hd', hb.kind, fn, hf, hres⟩ hR
    | exit id => exact hq.elim
    | goto l => exact hq.elim
    | panic ch => obtain ⟨_, v, e1, _⟩ := hq; cases e1
    | outgrown => obtain ⟨v, e1, _⟩ := hq; cases e1
  exact (run_of_st S told_full (c :: cs) hst).bind fun _ _ h => (back_of h).mono fun g w' ⟨v, h1, h2, h3⟩ => ⟨v, h1, h2, fun τ d => let ⟨u0, ⟨_, _, q1⟩, q2⟩ := h3 τ d; ⟨u0, q1, q2⟩⟩
end
end Go.Proofs.Ytmkpaciaollcbaa
