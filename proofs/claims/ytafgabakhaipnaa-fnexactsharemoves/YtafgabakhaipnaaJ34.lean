/- Runs carried over, 20: pieces of a function's text, by what is shown of them alone. -/
import Derived.Test.YtafgabakhaipnaaJ31
import Derived.Below
namespace Go.Proofs.Ytafgabakhaipnaa
open Go.Conc

/-- One behind the other. -/
def joinC : List Code → Code → Code
  | [], B => B
  | r :: l, B => .seq r (joinC l B)
def Nest (P : Program) : List Code → (Exit → Act → World → Prop) → Act → World → Prop
  | [], Q => Q .normal
  | r :: l, Q => r.wp P (Exit.then (Nest P l Q) Q)

section
variable {P : Program} {X : Nat → Prop} {s : Nat → Bool}

theorem Run.bind {Stop Stop' : Goroutine → World → Prop} {g : Goroutine} {w : World} (h : Run P X Stop g w) (hk : ∀ g w, Stop g w → Run P X Stop' g w) : Run P X Stop' g w := by
  induction h with
  | stop h => exact hk _ _ (h _)
  | step hr g' w' es hs hf _ ih => exact .step hr g' w' es hs hf ih
theorem Run.mono {Stop Stop' : Goroutine → World → Prop} {g : Goroutine} {w : World} (h : Run P X Stop g w) (hk : ∀ g w, Stop g w → Stop' g w) : Run P X Stop' g w := by
  induction h with
  | stop h => exact .stop fun d => hk _ _ (h d)
  | step hr g' w' es hs hf _ ih => exact .step hr g' w' es hs hf ih
/-- A silent step. -/
theorem Run.one {Stop : Goroutine → World → Prop} {g g' : Goroutine} {w : World} (hr : g.status = .running) (hs : ∀ x, stepG P true g x = .go g' x #[]) (h : Run P X Stop g' w) : Run P X Stop g w :=
  .step hr (fun _ => g') (fun d => w.at d) (fun _ => #[]) (fun d => hs (w.at d)) (fun _ _ he => by simp at he) (fun d => h.at d)

/-- What is held of a world up to its tape. -/
def Held (Q : World → Prop) (u : World) : Prop := ∃ u0, Q u0 ∧ Full (fun _ => False) u0 u
theorem Held.full {Q : World → Prop} {u v : World} (h : Held Q u) (hf : Full (fun _ => False) u v) : Held Q v := let ⟨u0, h1, h2⟩ := h; ⟨u0, h1, h2.trans hf⟩
theorem pz_full {w : World} (hb : Base X w) (τ : Nat → Question → Nat) (d : Nat) : Full (fun _ => False) (pzT X w τ d) (pzT X w τ d) := by
  have hs : Sim X 0 w (pzT X w τ d) := sim_pz hb (fun i q hi => by omega)
  exact fun n => ⟨rfl, fun _ h => h.elim, fun _ _ => rfl, fun _ h => h.elim, hs.pendU, rfl, rfl, fun _ _ _ => rfl⟩
theorem held_of {w : World} (hb : Base X w) {Q : World → Prop} (h : ∀ τ d, Q (pzT X w τ d)) (τ : Nat → Question → Nat) (d : Nat) : Held Q (pzT X w τ d) := ⟨_, h τ d, pz_full hb τ d⟩

/-- A frame of the walk's form. -/
structure FrB (P : Program) (b : Frame) : Prop where
  kind : b.kind = .normal
  fn : ∃ fn, P.funcs[b.fn]? = some fn

theorem FrB.ok {b : Frame} (h : FrB P b) {a : Act} (hd : a.defers = []) {l : List Item} (hl : ∀ i ∈ l, itemOk P s i) : FrOk P s (b.at a l) := ⟨hl, hd, h.kind, rfl, h.fn⟩
theorem ext_at (b : Frame) (a : Act) (l k : List Item) : ext k (b.at a l) = b.at a (l ++ k) := rfl

/-- The state at a stop: the frame with this ahead of it; what is held. -/
def Stands (X : Nat → Prop) (b : Frame) (k : List Item) (bw : List Frame) (Q : Act → World → Prop) (g : Goroutine) (w : World) : Prop :=
  ∃ a, g = G (b.at a k) bw ∧ a.defers = [] ∧ Base X w ∧ ∀ τ d, Held (Q a) (pzT X w τ d)

theorem piece_run (S : SetOk P s) {r : Code} (hr : codeOk P s r = true) {b : Frame} (hb : FrB P b) {a : Act} (hd : a.defers = []) {w : World} (hw : Base X w) {Q : Act → World → Prop}
    (h : ∀ τ d, Held (fun u => r.wp P (fun e a' u' => e = .normal ∧ Q a' u') a u) (pzT X w τ d)) (k : List Item) (bw : List Frame) :
    Run P X (Stands X b k bw Q) (G (b.at a (.code r :: k)) bw) w := by
  have hok : FrOk P s (b.at a [.code r]) := hb.ok hd (by intro i hi; simp at hi; subst hi; exact hr)
  have hst : St P X s OutE (fun fe u => ∃ a', fe = b.at a' [] ∧ Held (Q a') u) (b.at a [.code r]) [] w := by
    refine ⟨hok, by simp, hw, fun τ d => ?_⟩
    obtain ⟨u0, h1, h2⟩ := h τ d
    obtain ⟨e, a', u', ⟨rfl, hq⟩, ⟨N, hN⟩⟩ := h1 b [] [c0 P]
    obtain ⟨ve, q1, q2⟩ := shift S N hok (seg := []) (by simp) h2 hN
    exact ⟨N, b.at a' [], ve, q1, ⟨rfl, rfl⟩, a', rfl, _, hq, q2⟩
  refine (run_to_cut S (fun fe u v hf ⟨a', h1, h3⟩ => ⟨a', h1, h3.full hf⟩) k bw hst).mono fun g w' ⟨fe, h1, h2, h3, h4, h5⟩ => ?_
  obtain ⟨a', e, _⟩ := h5 (fun _ _ => 0) 0
  subst e
  refine ⟨a', h1, h2.defers, h3, fun τ d => ?_⟩
  obtain ⟨a'', e, hq⟩ := h5 τ d
  have e1 : a'.tmps = a''.tmps := congrArg Frame.tmps e
  have e2 : a'.defers = a''.defers := congrArg Frame.defers e
  obtain rfl : a' = a'' := by cases a'; cases a''; simp_all
  exact hq

/-- Pieces, one behind the other. -/
theorem nest_run (S : SetOk P s) {b : Frame} (hb : FrB P b) {Q : Act → World → Prop} (B : Code) (k : List Item) (bw : List Frame) : ∀ (l : List Code), (∀ r ∈ l, codeOk P s r = true) → ∀ {a : Act} {w : World}, a.defers = [] → Base X w →
    (∀ τ d, Held (Nest P l (fun e a' u' => e = .normal ∧ Q a' u') a) (pzT X w τ d)) →
    Run P X (Stands X b (.code B :: k) bw Q) (G (b.at a (.code (joinC l B) :: k)) bw) w
  | [], _, a, w, hd, hw, h => .stop fun d => ⟨a, rfl, hd, hw.at d, fun τ d => let ⟨u0, h1, h2⟩ := h τ d; ⟨u0, h1.2, h2⟩⟩
  | r :: l, hl, a, w, hd, hw, h => by
    refine .one rfl (fun x => stepG_seq) ?_
    refine (piece_run S (hl r (by simp)) hb hd hw (Q := fun a' u => Nest P l (fun e a' u' => e = .normal ∧ Q a' u') a' u) (fun τ d => ?_) (.code (joinC l B) :: k) bw).bind fun g w' ⟨a', h1, h2, h3, h4⟩ => ?_
    · obtain ⟨u0, h1, h2⟩ := h τ d
      exact ⟨u0, wp_mono h1 (fun e a' u' hq => by
        cases e with
        | normal => exact ⟨rfl, hq⟩
        | _ => exact absurd hq.1 (by simp)), h2⟩
    · subst h1
      exact nest_run S hb B k bw l (fun r hr => hl r (by simp [hr])) h2 h3 h4
end
end Go.Proofs.Ytafgabakhaipnaa

/- Runs carried over, 21: to the end of the run. -/
namespace Go.Proofs.Ytafgabakhaipnaa
open Go.Conc
open Go.ConcN (sumTo)

/-- The run ends well from here. -/
def EndsG (P : Program) (Post : Value → World → Prop) (m : Machine) (t : Trace) : Prop :=
  ∃ N last o w' t', runNT P (N + 1) m t = (.ended o w', t') ∧ runN P N m = .next last ∧ step P last = .ended o w' ∧ Go.Conc.Good P Post last o w' t'

section
variable {P : Program} {X : Nat → Prop} {Shun : Loc → Prop} {Post : Value → World → Prop}

theorem EndsG.of_run {N : Nat} {m m' : Machine} {t t' : Trace} (h : runNT P N m t = (.next m', t')) (k : EndsG P Post m' t') : EndsG P Post m t := by
  obtain ⟨K, last, o, w', t'', e1, e2, e3, e4⟩ := k
  refine ⟨N + K, last, o, w', t'', ?_, ?_, e3, e4⟩
  · rw [Nat.add_assoc, runNT_add, h]; exact e1
  · rw [runN_add, ← runNT_fst P _ _ #[]]
    have := runNT_fst P N m t
    rw [h] at this
    rw [runNT_fst, ← this]
    exact e2

/-- Goroutine 0 stands here beside leavers. -/
structure Here (P : Program) (Shun : Loc → Prop) (gs : Array Goroutine) (a : Goroutine) (t : Trace) : Prop where
  zero : gs[0]? = some a
  leave : ∃ q, Leavers P t gs q
  fr : ∃ B, Fr Shun B t

theorem ends_run (hX : ∀ l, Shun l → ∃ a, l = .cell a ∧ X a.block) {Stop : Goroutine → World → Prop} {gs : Array Goroutine} {a : Goroutine} {w : World} {sl : Option (Nat × Nat)} {t : Trace} (hh : Here P Shun gs a t) (h : Run P X Stop a w)
    (k : ∀ gs' a' w' sl' t', Here P Shun gs' a' t' → Stop a' w' → EndsG P Post (crowd gs' w' sl') t') : EndsG P Post (crowd gs w sl) t := by
  obtain ⟨q, hL⟩ := hh.leave
  obtain ⟨B, hF⟩ := hh.fr
  obtain ⟨N, gs', a', w', sl', t', q', B', hr, _, h0, hS, hL', hF', _⟩ := run_beside hX h _ gs w.drawn sl t q B (Nat.le_refl _) hh.zero hL hF
  exact EndsG.of_run hr (k gs' a' w' sl' t' ⟨h0, ⟨q', hL'⟩, ⟨B', hF'⟩⟩ hS)

/-- .. by a walk whose steps' entries are well. -/
theorem ends_goes {D : World → World → Array Event → Prop} {B0 : Nat} (hD : ∀ w w' es, D w w' es → ∀ e ∈ es, EvL Shun B0 e) {Stop : Goroutine → World → Prop} :
    ∀ (n M : Nat) {gs : Array Goroutine} {a : Goroutine} {w : World} {sl : Option (Nat × Nat)} {t : Trace} {q : Nat → Nat} {B : Nat}, sumTo gs.size q ≤ M → gs[0]? = some a → Leavers P t gs q → Fr Shun B t → B0 ≤ B → Goes P true AtRel D Stop n a w →
      (∀ gs' a' w' sl' t', Here P Shun gs' a' t' → Stop a' w' → EndsG P Post (crowd gs' w' sl') t') → EndsG P Post (crowd gs w sl) t := by
  intro n
  induction n with
  | zero => exact fun M gs a w sl t q B _ h0 hL hF _ hG k => k gs a w sl t ⟨h0, ⟨q, hL⟩, ⟨B, hF⟩⟩ (hG w (atRel_refl w))
  | succ n ihn =>
    intro M
    induction M with
    | zero =>
      intro gs a w sl t q B hM h0 hL hF hB hG k
      rcases hG with hstop | ⟨hrun, hstep⟩
      · exact k gs a w sl t ⟨h0, ⟨q, hL⟩, ⟨B, hF⟩⟩ (hstop w (atRel_refl w))
      obtain ⟨d, sl', h1 | ⟨gs1, t1, q1, _, _, _, _, _, hlt⟩⟩ := beside_one h0 hrun hL hF w sl
      · have hs := hstep (w.at d) ⟨d, rfl⟩
        cases hgo : stepG P true a (w.at d) with
        | go a' w' es =>
          rw [hgo, goes_go] at hs
          obtain ⟨gs1, t1, r1, z1, a1, L1, P1⟩ := h1 _ _ _ B hgo (fun e he => by have := hD _ _ _ hs.1 e he; exact ⟨this.1, this.2.1, this.2.2.1, MemAct.low_mono hB this.2.2.2⟩) (Nat.le_refl _)
          exact EndsG.of_run r1 (ihn _ (Nat.le_refl _) a1 L1 P1 hB hs.2 k)
        | _ => rw [hgo] at hs; exact hs.elim
      · omega
    | succ M ihM =>
      intro gs a w sl t q B hM h0 hL hF hB hG k
      rcases hG with hstop | ⟨hrun, hstep⟩
      · exact k gs a w sl t ⟨h0, ⟨q, hL⟩, ⟨B, hF⟩⟩ (hstop w (atRel_refl w))
      obtain ⟨d, sl', h1 | ⟨gs1, t1, q1, r1, z1, a1, L1, P1, hlt⟩⟩ := beside_one h0 hrun hL hF w sl
      · have hs := hstep (w.at d) ⟨d, rfl⟩
        cases hgo : stepG P true a (w.at d) with
        | go a' w' es =>
          rw [hgo, goes_go] at hs
          obtain ⟨gs1, t1, r1, z1, a1, L1, P1⟩ := h1 _ _ _ B hgo (fun e he => by have := hD _ _ _ hs.1 e he; exact ⟨this.1, this.2.1, this.2.2.1, MemAct.low_mono hB this.2.2.2⟩) (Nat.le_refl _)
          exact EndsG.of_run r1 (ihn _ (Nat.le_refl _) a1 L1 P1 hB hs.2 k)
        | _ => rw [hgo] at hs; exact hs.elim
      · exact EndsG.of_run r1 (ihM (by rw [z1]; omega) a1 L1 P1 hB (Goes.rely atRel_trans (.inr ⟨hrun, hstep⟩) ⟨d, rfl⟩) k)

theorem ends_walk {D : World → World → Array Event → Prop} {B0 : Nat} (hD : ∀ w w' es, D w w' es → ∀ e ∈ es, EvL Shun B0 e) {Stop : Goroutine → World → Prop} {n : Nat} {gs : Array Goroutine} {a : Goroutine} {w : World} {sl : Option (Nat × Nat)} {t : Trace} (hh : Here P Shun gs a t) (hG : Goes P true AtRel D Stop n a w)
    (k : ∀ gs' a' w' sl' t', Here P Shun gs' a' t' → Stop a' w' → EndsG P Post (crowd gs' w' sl') t') : EndsG P Post (crowd gs w sl) t := by
  obtain ⟨q, hL⟩ := hh.leave
  obtain ⟨B, hF⟩ := hh.fr
  exact ends_goes hD n _ (Nat.le_refl _) hh.zero hL (hF.mono (Nat.le_max_left B B0)) (Nat.le_max_right B B0) hG k

/-- The last step. -/
theorem ends_last {gs : Array Goroutine} {a : Goroutine} {w : World} {sl : Option (Nat × Nat)} {t : Trace} (hh : Here P Shun gs a t) (hr : a.status = .running) {v : Value} (hs : ∀ x : World, stepG P true a x = .ended (.done v) x #[]) (hp : ∀ d, Post v (w.at d)) : EndsG P Post (crowd gs w sl) t := by
  obtain ⟨q, hL⟩ := hh.leave
  obtain ⟨B, hF⟩ := hh.fr
  exact beside_ends (P := P) (Post := Post) (sl := sl) (D := fun _ _ _ => False) (fun _ _ _ h => h.elim) hh.zero hL hF.past (n := 0) (fun w₁ ⟨d, hd⟩ => by subst hd; exact ⟨hr, v, #[], hs _, by simp, hp d⟩)
end
end Go.Proofs.Ytafgabakhaipnaa

/- Runs carried over, 22: the rest of a function, and a call, to the caller. -/
namespace Go.Proofs.Ytafgabakhaipnaa
open Go.Conc

section
variable {P : Program} {X : Nat → Prop} {s : Nat → Bool}

/-- Back at the caller. -/
def Back (X : Nat → Prop) (c : Frame) (cs : List Frame) (R : Value → World → Prop) (g : Goroutine) (w : World) : Prop :=
  ∃ v, g = G (c.finish v) cs ∧ Base X w ∧ ∀ τ d, Held (R v) (pzT X w τ d)

theorem back_of {w : World} {R : World → Value → World → Prop} {c : Frame} {cs : List Frame} {g : Goroutine} {w' : World} (h : Left P X s (Told P X w R) (c :: cs) g w') :
    Run P X (Back X c cs fun v u => ∃ τ d, R (pzT X w τ d) v u) g w' := by
  have hr : g.status = .running := by obtain ⟨fe, rfl, _⟩ := h; rfl
  obtain ⟨v, h1, h2, h3⟩ := left_ret h
  refine .step hr (fun _ => G (c.finish v) cs) (fun d => w'.at d) (fun d => (h1 d).choose) (fun d => (h1 d).choose_spec.1) (fun d => (h1 d).choose_spec.2) (fun d => .stop fun d' => ⟨v, rfl, (h2.at d).at d', fun τ d'' => ?_⟩)
  obtain ⟨τ0, d0, u0, h4, h5⟩ := h3 τ d''
  exact ⟨u0, ⟨τ0, d0, h4⟩, h5⟩

/-- A call, by its contract, to the caller. -/
theorem call_back (S : SetOk P s) {f : FuncId} (hf : s f = true) {args : Array Value} {w : World} (hb : Base X w) {R : World → Value → World → Prop}
    (hc : ∀ τ d, Calls P f args (pzT X w τ d) fun e u' => ∃ v, e = .returned v ∧ R (pzT X w τ d) v u') (c : Frame) (cs : List Frame) :
    Run P X (Back X c cs fun v u => ∃ τ d, R (pzT X w τ d) v u) (G (Frame.enter P f args .normal) (c :: cs)) w :=
  (calls_run S hf hb hc (c :: cs)).bind fun _ _ h => back_of h

/-- The rest of a function's text, to the caller. -/
theorem tail_back (S : SetOk P s) {b : Frame} (hb : FrB P b) {a : Act} (hd : a.defers = []) {r : Code} (hr : codeOk P s r = true) {fn : Func} (hf : P.funcs[b.fn]? = some fn) {w : World} (hw : Base X w) {R : Value → World → Prop}
    (h : ∀ τ d, Held (fun u => r.wp P (bodyPost P fn fun e u' => ∃ v, e = .returned v ∧ R v u') a u) (pzT X w τ d)) (c : Frame) (cs : List Frame) :
    Run P X (Back X c cs R) (G (b.at a [.code r]) (c :: cs)) w := by
  have hok : FrOk P s (b.at a [.code r]) := hb.ok hd (by intro i hi; simp at hi; subst hi; exact hr)
  have hst : St P X s Rtn (Told P X w fun _ => R) (b.at a [.code r]) [] w := by
    refine ⟨hok, by simp, hw, fun τ d => ?_⟩
    obtain ⟨u0, h1, h2⟩ := h τ d
    obtain ⟨e, a', u', hq, harr⟩ := h1 b [] [c0 P]
    have go : ∀ {N : Nat} {fe : Frame} {u1 : World} {v : Value}, runN P N (lone (b.at a [.code r]) ([] ++ [c0 P]) u0) = .next (lone fe [c0 P] u1) → fe.leaving P u1 (.returned v) → R v u1 →
        ∃ N fe ue, runN P N (lone (b.at a [.code r]) ([] ++ [c0 P]) (pzT X w τ d)) = .next (lone fe [c0 P] ue) ∧ Rtn fe ∧ Told P X w (fun _ => R) fe ue := fun {N fe u1 v} hN hl hR => by
      obtain ⟨ve, q1, q2⟩ := shift S N hok (seg := []) (by simp) h2 hN
      exact ⟨N, fe, ve, q1, hl.1, fun _ _ => 0, 0, u1, v, hR, hl, q2⟩
    cases e with
    | normal =>
      obtain ⟨hd', v, hres, v', e1, hR⟩ := hq
      cases e1
      obtain ⟨N, hN⟩ := Steps.trans harr (.one step_end)
      exact go hN ⟨rfl, hd', hb.kind, fn, hf, hres⟩ hR
    | ret =>
      obtain ⟨hd', v, hres, v', e1, hR⟩ := hq
      cases e1
      obtain ⟨todo, N, hN⟩ := harr
      exact go hN ⟨rfl, hd', hb.kind, fn, hf, hres⟩ hR
    | exit id => exact hq.elim
    | goto l => exact hq.elim
    | panic ch => obtain ⟨_, v, e1, _⟩ := hq; cases e1
    | outgrown => obtain ⟨v, e1, _⟩ := hq; cases e1
  exact (run_of_st S told_full (c :: cs) hst).bind fun _ _ h => (back_of h).mono fun g w' ⟨v, h1, h2, h3⟩ => ⟨v, h1, h2, fun τ d => let ⟨u0, ⟨_, _, q1⟩, q2⟩ := h3 τ d; ⟨u0, q1, q2⟩⟩
end
end Go.Proofs.Ytafgabakhaipnaa

/- Runs carried over, 23: what is held of an emptied world; a call that goes. -/
namespace Go.Proofs.Ytafgabakhaipnaa
open Go.Conc Go.RowKit

section
variable {P : Program} {X : Nat → Prop}

theorem full_eq {u v : World} (h : Full (fun _ => False) u v) : v = { u with tape := v.tape, drawn := v.drawn } := by
  have h1 := (h 0).eq_pz
  have h2 : (pz (fun _ => False) u).heap = u.heap := by
    apply Array.ext_getElem?
    intro b
    rw [pz_get]
    cases u.heap[b]? with
    | none => rfl
    | some o => simp [pzObj]
  rw [h1]
  simp only [pzT]
  rw [World.mk.injEq]
  exact ⟨h2, rfl, rfl, rfl, rfl⟩
theorem pz_size (W : World) (τ : Nat → Question → Nat) (d : Nat) : (pzT X W τ d).heap.size = W.heap.size := by simp [pzT, pz]
theorem pz_cell {W : World} {τ : Nat → Question → Nat} {d : Nat} {a : Addr} {v : Value} (h : (pzT X W τ d).cell? a = some v) : W.cell? a = some v ∧ ¬ X a.block := by
  unfold World.cell? at h ⊢
  have e : (pzT X W τ d).heap[a.block]? = (W.heap[a.block]?).map (pzObj X a.block) := pz_get W a.block
  rw [e] at h
  by_cases hx : X a.block
  · cases ho : W.heap[a.block]? with
    | none => rw [ho] at h; simp at h
    | some o => rw [ho] at h; cases o <;> simp [pzObj, hx] at h
  · refine ⟨?_, hx⟩
    cases ho : W.heap[a.block]? with
    | none => rw [ho] at h; simp at h
    | some o => rw [ho] at h; simpa [pzObj, hx] using h

/-- Of no tape. -/
def Tapeless (Q : World → Prop) : Prop := ∀ u τ d, Q u → Q { u with tape := τ, drawn := d }
theorem Held.out {Q : World → Prop} (hQ : Tapeless Q) {u : World} (h : Held Q u) : Q u := by
  obtain ⟨u0, h1, h2⟩ := h
  rw [full_eq h2]
  exact hQ _ _ _ h1
theorem below_held {X' : Nat → Prop} {W w' : World} {B : Nat} {Q : World → Prop} (hQ : Tapeless Q) {τ : Nat → Question → Nat} {d : Nat} (h : Held (fun u => ∃ τ d, Q u ∧ Below B (pzT X W τ d) u) (pzT X' w' τ d)) : Q (pzT X' w' τ d) ∧ Below B (pzT X W τ d) (pzT X' w' τ d) := by
  obtain ⟨u0, ⟨τ0, d0, h1, h2⟩, h3⟩ := h
  have e := full_eq h3
  refine ⟨by rw [e]; exact hQ _ _ _ h1, ?_⟩
  have e1 : (pzT X' w' τ d).heap = u0.heap := by rw [e]
  have e2 : (pzT X' w' τ d).os = u0.os := by rw [e]
  have e3 : (pzT X' w' τ d).output = u0.output := by rw [e]
  exact ⟨e2.trans h2.os, rfl, e3.trans h2.output, by rw [e1]; exact h2.size, fun k hk => by rw [e1]; exact h2.block k hk⟩
theorem below_pz {X' : Nat → Prop} {W w' : World} {B : Nat} (os : w'.os = W.os) (out : w'.output = W.output) (size : W.heap.size ≤ w'.heap.size) (low : ∀ b, b < B → w'.heap[b]? = W.heap[b]?) (hX : ∀ b, b < B → (X' b ↔ X b)) (τ : Nat → Question → Nat) (d : Nat) : Below B (pzT X W τ d) (pzT X' w' τ d) := by
  refine ⟨os, rfl, out, by rw [pz_size, pz_size]; exact size, fun k hk => ?_⟩
  show (pz X' w').heap[k]? = (pz X W).heap[k]?
  rw [pz_get, pz_get, low k hk]
  cases W.heap[k]? with
  | none => rfl
  | some o =>
    by_cases h : X k
    · have h' := (hX k hk).2 h
      simp [pzObj, h, h']
    · have h' : ¬ X' k := mt (hX k hk).1 h
      simp [pzObj, h, h']

/-- Piece by piece. -/
theorem nest_k {r : Code} {l : List Code} {Q : Exit → Act → World → Prop} {a : Act} {w : World} (h : ∀ K : Act → World → Prop, (∀ a w, Nest P l Q a w → K a w) → r.wp P (Exit.then K Q) a w) : Nest P (r :: l) Q a w := h _ fun _ _ h => h
/-- Pieces, the last of them one within. -/
theorem nest_in {s : Nat → Bool} (S : SetOk P s) {b : Frame} (hb : FrB P b) {Q : Act → World → Prop} (r c B : Code) (hr : codeOk P s r = true) (k : List Item) (bw : List Frame) : ∀ (l : List Code), (∀ r ∈ l, codeOk P s r = true) → ∀ {a : Act} {w : World}, a.defers = [] → Base X w →
    (∀ τ d, Held (Nest P (l ++ [r]) (fun e a' u' => e = .normal ∧ Q a' u') a) (pzT X w τ d)) →
    Run P X (Stands X b (.code c :: .code B :: k) bw Q) (G (b.at a (.code (joinC l (.seq (.seq r c) B)) :: k)) bw) w
  | [], _, a, w, hd, hw, h => by
    refine .one rfl (fun x => stepG_seq) (.one rfl (fun x => stepG_seq) ?_)
    refine piece_run S hr hb hd hw (fun τ d => ?_) (.code c :: .code B :: k) bw
    obtain ⟨u0, h1, h2⟩ := h τ d
    exact ⟨u0, wp_mono h1 (fun e a' u' hq => by
      cases e with
      | normal => exact hq
      | _ => exact absurd hq.1 (by simp)), h2⟩
  | r' :: l, hl, a, w, hd, hw, h => by
    refine .one rfl (fun x => stepG_seq) ?_
    refine (piece_run S (hl r' (by simp)) hb hd hw (Q := fun a' u => Nest P (l ++ [r]) (fun e a' u' => e = .normal ∧ Q a' u') a' u) (fun τ d => ?_) (.code (joinC l (.seq (.seq r c) B)) :: k) bw).bind fun g w' ⟨a', h1, h2, h3, h4⟩ => ?_
    · obtain ⟨u0, h1, h2⟩ := h τ d
      exact ⟨u0, wp_mono h1 (fun e a' u' hq => by
        cases e with
        | normal => exact ⟨rfl, hq⟩
        | _ => exact absurd hq.1 (by simp)), h2⟩
    · subst h1
      exact nest_in S hb r c B hr k bw l (fun r hr => hl r (by simp [hr])) h2 h3 h4
/-- Normally, and so that it holds. -/
def Only (Q : Act → World → Prop) : Exit → Act → World → Prop
  | .normal, a, u => Q a u
  | _, _, _ => False
theorem nest_only {Q : Act → World → Prop} : ∀ {l : List Code} {a : Act} {w : World}, Nest P l (Only Q) a w → Nest P l (fun e a u => e = .normal ∧ Q a u) a w
  | [], _, _, h => ⟨rfl, h⟩
  | _ :: _, _, _, h => wp_mono h fun e _ _ hq => by
    cases e with
    | normal => exact nest_only hq
    | _ => exact hq.elim
/-- Who is shunned lies in the emptied blocks. -/
def ShIn (Shun : Loc → Prop) (X : Nat → Prop) : Prop := ∀ l, Shun l → ∃ a, l = .cell a ∧ X a.block
/-- A call that may go, in an emptied world W: its answer, what is held behind it; what lies low stays. -/
def GCalls (P : Program) (f : FuncId) (args : Array Value) (X : Nat → Prop) (Shun : Loc → Prop) (W : World) (R : Value → World → Prop) : Prop :=
  ∀ (Post : Value → World → Prop) (c : Frame) (cs : List Frame) (gs : Array Goroutine) (sl : Option (Nat × Nat)) (t : Trace), Here P Shun gs (G (Frame.enter P f args .normal) (c :: cs)) t →
    (∀ X' Shun' gs' w' sl' t' v, ShIn Shun' X' → (∀ b, X' b → X b ∨ W.heap.size ≤ b) → Here P Shun' gs' (G (c.finish v) cs) t' → Base X' w' → (∀ τ d, R v (pzT X' w' τ d) ∧ Below W.heap.size (pzT X W τ d) (pzT X' w' τ d)) → EndsG P Post (crowd gs' w' sl') t') →
    EndsG P Post (crowd gs W sl) t
end
end Go.Proofs.Ytafgabakhaipnaa
