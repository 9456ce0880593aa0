/- Runs carried over, 12: a state whose lone run comes to its end on every tape keeps that, whatever the others draw between its steps. -/
import Derived.Test.YtafgabakhaipnaaJ6
import Derived.Conc.CrowdRun
namespace Go.Proofs.Ytafgabakhaipnaa
open Go.Conc

section
variable {P : Program} {X : Nat → Prop} {s : Nat → Bool} {E : Frame → Prop} {F : Frame → World → Prop}

/-- The lone run comes to an end of the kind E, on every tape. -/
def K (P : Program) (X : Nat → Prop) (E : Frame → Prop) (F : Frame → World → Prop) (fr : Frame) (seg : List Frame) (w : World) : Prop :=
  ∀ τ d, ∃ N fe ue, runN P N (lone fr (seg ++ [c0 P]) (pzT X w τ d)) = .next (lone fe [c0 P] ue) ∧ E fe ∧ F fe ue
abbrev Rtn (fr : Frame) : Prop := fr.mode = .returning
structure St (P : Program) (X : Nat → Prop) (s : Nat → Bool) (E : Frame → Prop) (F : Frame → World → Prop) (fr : Frame) (seg : List Frame) (w : World) : Prop where
  top : FrOk P s fr
  rest : ∀ c ∈ seg, FrOk P s c
  base : Base X w
  ends : K P X E F fr seg w

theorem Base.at {w : World} (h : Base X w) (d : Nat) : Base X (w.at d) := ⟨h.old, h.cov, h.pend⟩
theorem pzT_at (w : World) (d : Nat) (τ : Nat → Question → Nat) (d' : Nat) : pzT X (w.at d) τ d' = pzT X w τ d' := rfl

theorem K.next {fr : Frame} {seg : List Frame} {w : World} (h : K P X E F fr seg w) (hg : seg = [] → ¬ E fr) (τ : Nat → Question → Nat) (d : Nat) :
    ∃ m, step P (lone fr (seg ++ [c0 P]) (pzT X w τ d)) = .next m ∧ ∃ N fe ue, runN P N m = .next (lone fe [c0 P] ue) ∧ E fe ∧ F fe ue := by
  obtain ⟨N, fe, ue, hr, hm, hF⟩ := h τ d
  cases N with
  | zero =>
    exfalso
    simp only [runN, Stepped.next.injEq] at hr
    obtain ⟨e1, e2, _⟩ := lone_inj hr
    have hseg : seg = [] := by
      cases seg with
      | nil => rfl
      | cons c t => have := congrArg List.length e2; simp at this
    exact hg hseg (e1 ▸ hm)
  | succ N =>
    simp only [runN] at hr
    cases hs : step P (lone fr (seg ++ [c0 P]) (pzT X w τ d)) with
    | next m => rw [hs] at hr; exact ⟨m, rfl, N, fe, ue, hr, hm, hF⟩
    | ended o x => rw [hs] at hr; cases hr

theorem step_st (S : SetOk P s) (hF : ∀ fe u v, Full (fun _ => False) u v → F fe u → F fe v) {fr : Frame} {seg : List Frame} {w : World} (h : St P X s E F fr seg w) (hg : Going fr seg) (hE : seg = [] → ¬ E fr) (bw : List Frame) (d : Nat) :
    ∃ fr' seg' w' es k, stepG P true (G fr (seg ++ bw)) (w.at d) = .go (G fr' (seg' ++ bw)) w' es ∧ (∀ e ∈ es, Fine X e) ∧ St P X s E F fr' seg' w' ∧ w'.tape = w.tape ∧ w'.drawn = d + k ∧
      ∀ τ d0, (∀ i q, i < k → τ (d0 + i) q = w.tape (d + i) q) → step P (lone fr (seg ++ [c0 P]) (pzT X w τ d0)) = .next (lone fr' (seg' ++ [c0 P]) (pzT X w' τ (d0 + k))) := by
  have hb := h.base.at d
  have hfull : Full X (w.at d) (pzT X w w.tape d) := fun n => sim_pz hb (fun i q _ => rfl)
  have noend : ∀ τ d0, ¬ ∃ o x es, stepG P true (G fr (seg ++ [c0 P])) (pzT X w τ d0) = .ended o x es := fun τ d0 ⟨o, x, es, e⟩ => by
    obtain ⟨m, hm, _⟩ := h.ends.next hE τ d0
    rw [lone_ended e] at hm; cases hm
  rcases (seg_carries S (bu := [c0 P]) (bw := bw) h.top h.rest hg (hfull 0)).1 hfull with e | ⟨fr', seg', u', w', es, a1, a2, a3, a4, ⟨m, a5⟩, a6⟩
  · exact absurd e (noend _ _)
  obtain ⟨k, _, dw, _, hsim⟩ := a5.drew
  have clause : ∀ τ d0, (∀ i q, i < k → τ (d0 + i) q = w.tape (d + i) q) → step P (lone fr (seg ++ [c0 P]) (pzT X w τ d0)) = .next (lone fr' (seg' ++ [c0 P]) (pzT X w' τ (d0 + k))) := fun τ d0 ht => by
    have hs : Sim X k (w.at d) (pzT X w τ d0) := sim_pz hb ht
    rcases (seg_carries S (bu := [c0 P]) (bw := bw) h.top h.rest hg hs).2 _ _ _ a2 (by rw [dw]; exact Nat.le_refl _) with e | ⟨fr2, seg2, u2, w2, es2, b1, b2, _, _, b5, _⟩
    · exact absurd e (noend _ _)
    rw [a2] at b2
    rw [GStep.go.injEq] at b2
    obtain ⟨hG, hw2, -⟩ := b2
    subst hw2
    have h1 : fr' = fr2 := congrArg (·.frame) hG
    have h2 : seg' ++ bw = seg2 ++ bw := congrArg (·.callers) hG
    have h2 := List.append_cancel_right h2
    subst h1 h2
    obtain ⟨k2, _, dw2, du2, hs2⟩ := b5.drew
    have hk : k2 = k := by omega
    subst hk
    rw [lone_next b1]
    have e := hs2.eq_pz
    rw [b5.tu, du2] at e
    rw [e]
    rfl
  refine ⟨fr', seg', w', es, k, a2, a6, ⟨a3, a4, a5.base, fun τ' d' => ?_⟩, a5.tw, dw, clause⟩
  have hst := clause (fun p q => if p < k then w.tape (d + p) q else τ' (d' + (p - k)) q) 0 (fun i q hi => by simp only [Nat.zero_add, if_pos hi])
  obtain ⟨m1, e1, N, fe, ue, hr, hm, hFe⟩ := h.ends.next hE (fun p q => if p < k then w.tape (d + p) q else τ' (d' + (p - k)) q) 0
  rw [hst] at e1
  cases e1
  have hb' := a5.base
  have hs' : ∀ (τ : Nat → Question → Nat) (d : Nat), Sim X 0 w' (pzT X w' τ d) := fun τ d => sim_pz hb' (fun i q hi => by omega)
  have hfu : Full (fun _ => False) (pzT X w' (fun p q => if p < k then w.tape (d + p) q else τ' (d' + (p - k)) q) (0 + k)) (pzT X w' τ' d') := fun n =>
    ⟨rfl, fun _ h => h.elim, fun _ _ => rfl, fun _ h => h.elim, (hs' _ _).pendU, rfl, rfl, fun i q _ => by
      show τ' (d' + i) q = (if 0 + k + i < k then w.tape (d + (0 + k + i)) q else τ' (d' + (0 + k + i - k)) q)
      rw [if_neg (by omega)]
      congr 1
      omega⟩
  obtain ⟨ve, q1, q2⟩ := shift S N a3 a4 hfu hr
  exact ⟨N, fe, ve, q1, hm, hF _ _ _ q2 hFe⟩
end
end Go.Proofs.Ytafgabakhaipnaa

/- Runs carried over, 13: what comes to its end on every tape comes to it whatever the others draw between its steps. -/
namespace Go.Proofs.Ytafgabakhaipnaa
open Go.Conc

/-- Goroutine 0 comes to a stop, whatever the count of draws is ahead of each of its steps; what it lists is well. -/
inductive Run (P : Program) (X : Nat → Prop) (Stop : Goroutine → World → Prop) : Goroutine → World → Prop
  | stop {g : Goroutine} {w : World} (h : ∀ d, Stop g (w.at d)) : Run P X Stop g w
  | step {g : Goroutine} {w : World} (hr : g.status = .running) (g' : Nat → Goroutine) (w' : Nat → World) (es : Nat → Array Event) (hs : ∀ d, stepG P true g (w.at d) = .go (g' d) (w' d) (es d)) (hf : ∀ d, ∀ e ∈ es d, Fine X e) (h : ∀ d, Run P X Stop (g' d) (w' d)) : Run P X Stop g w

section
variable {P : Program} {X : Nat → Prop} {s : Nat → Bool} {E : Frame → Prop} {F : Frame → World → Prop}

/-- The place at which the segment's first frame returns. -/
def Left (P : Program) (X : Nat → Prop) (s : Nat → Bool) (F : Frame → World → Prop) (bw : List Frame) (g : Goroutine) (w : World) : Prop :=
  ∃ fe, g = G fe bw ∧ fe.mode = .returning ∧ FrOk P s fe ∧ Base X w ∧ ∀ τ d, F fe (pzT X w τ d)

theorem left_of (S : SetOk P s) {fr : Frame} {seg : List Frame} {w : World} (h : St P X s Rtn F fr seg w) (hg : ¬ Going fr seg) (bw : List Frame) (d : Nat) : Left P X s F bw (G fr (seg ++ bw)) (w.at d) := by
  have hseg : seg = [] := by
    cases seg with
    | nil => rfl
    | cons c t => exact absurd (.inr (by simp)) hg
  subst hseg
  have key : ∀ τ d, fr.mode = .returning ∧ F fr (pzT X w τ d) := fun τ d => by
    obtain ⟨N, fe, ue, hr, hm, hF⟩ := h.ends τ d
    have hN := root_last S h.top hg hr
    subst hN
    simp only [runN, List.nil_append, Stepped.next.injEq] at hr
    obtain ⟨e1, _, e3⟩ := lone_inj hr
    subst e1 e3
    exact ⟨hm, hF⟩
  exact ⟨fr, rfl, (key (fun _ _ => 0) 0).1, h.top, h.base.at d, fun τ d => (key τ d).2⟩

def Bad (P : Program) (X : Nat → Prop) (s : Nat → Bool) (F : Frame → World → Prop) (bw : List Frame) (x : Frame × List Frame × World) : Prop :=
  St P X s Rtn F x.1 x.2.1 x.2.2 ∧ ¬ Run P X (Left P X s F bw) (G x.1 (x.2.1 ++ bw)) x.2.2

theorem bad_next (S : SetOk P s) (hF : ∀ fe u v, Full (fun _ => False) u v → F fe u → F fe v) {bw : List Frame} {x : Frame × List Frame × World} (h : Bad P X s F bw x) :
    (x.2.1 = [] → ¬ Rtn x.1) ∧ ∃ (d k : Nat) (y : Frame × List Frame × World), Bad P X s F bw y ∧ y.2.2.tape = x.2.2.tape ∧
      ∀ τ d0, (∀ i q, i < k → τ (d0 + i) q = x.2.2.tape (d + i) q) → step P (lone x.1 (x.2.1 ++ [c0 P]) (pzT X x.2.2 τ d0)) = .next (lone y.1 (y.2.1 ++ [c0 P]) (pzT X y.2.2 τ (d0 + k))) := by
  obtain ⟨hst, hn⟩ := h
  have hg : Going x.1 x.2.1 := Classical.byContradiction fun hg => hn (.stop fun d => left_of S hst hg bw d)
  refine ⟨fun e h => hg.elim (fun hm => by rw [h] at hm; cases hm) (fun hh => hh e), Classical.byContradiction fun hno => hn ?_⟩
  have hs := fun d => step_st S hF hst hg (fun e h => hg.elim (fun hm => by rw [h] at hm; cases hm) (fun hh => hh e)) bw d
  let fr' := fun d => Classical.choose (hs d)
  let seg' := fun d => Classical.choose (Classical.choose_spec (hs d))
  let w' := fun d => Classical.choose (Classical.choose_spec (Classical.choose_spec (hs d)))
  let es := fun d => Classical.choose (Classical.choose_spec (Classical.choose_spec (Classical.choose_spec (hs d))))
  have sp : ∀ d, ∃ k, stepG P true (G x.1 (x.2.1 ++ bw)) (x.2.2.at d) = .go (G (fr' d) (seg' d ++ bw)) (w' d) (es d) ∧ (∀ e ∈ es d, Fine X e) ∧ St P X s Rtn F (fr' d) (seg' d) (w' d) ∧ (w' d).tape = x.2.2.tape ∧ (w' d).drawn = d + k ∧
      ∀ τ d0, (∀ i q, i < k → τ (d0 + i) q = x.2.2.tape (d + i) q) → step P (lone x.1 (x.2.1 ++ [c0 P]) (pzT X x.2.2 τ d0)) = .next (lone (fr' d) (seg' d ++ [c0 P]) (pzT X (w' d) τ (d0 + k))) :=
    fun d => Classical.choose_spec (Classical.choose_spec (Classical.choose_spec (Classical.choose_spec (hs d))))
  refine .step rfl (fun d => G (fr' d) (seg' d ++ bw)) w' es (fun d => (sp d).choose_spec.1) (fun d => (sp d).choose_spec.2.1) (fun d => ?_)
  refine Classical.byContradiction fun hr => hno ?_
  obtain ⟨k, _, _, a3, a4, _, a6⟩ := sp d
  exact ⟨d, k, (fr' d, seg' d, w' d), ⟨a3, hr⟩, a4, a6⟩

/-- No endless chain of states each of which is one step on from the one ahead of it: its draws, laid together, are a tape. -/
theorem no_chain {B0 : Frame × List Frame × World → Prop} (nxt : ∀ x, B0 x → (x.2.1 = [] → ¬ E x.1) ∧ ∃ (d k : Nat) (y : Frame × List Frame × World), B0 y ∧ y.2.2.tape = x.2.2.tape ∧
      ∀ τ d0, (∀ i q, i < k → τ (d0 + i) q = x.2.2.tape (d + i) q) → step P (lone x.1 (x.2.1 ++ [c0 P]) (pzT X x.2.2 τ d0)) = .next (lone y.1 (y.2.1 ++ [c0 P]) (pzT X y.2.2 τ (d0 + k))))
    {fr : Frame} {seg : List Frame} {w : World} (hb : B0 (fr, seg, w)) (hk : K P X E F fr seg w) : False := by
  -- an endless chain
  let B := { x : Frame × List Frame × World // B0 x }
  have nx : ∀ b : B, ∃ (d k : Nat) (y : B), y.1.2.2.tape = b.1.2.2.tape ∧ ∀ τ d0, (∀ i q, i < k → τ (d0 + i) q = b.1.2.2.tape (d + i) q) → step P (lone b.1.1 (b.1.2.1 ++ [c0 P]) (pzT X b.1.2.2 τ d0)) = .next (lone y.1.1 (y.1.2.1 ++ [c0 P]) (pzT X y.1.2.2 τ (d0 + k))) := fun b => by
    obtain ⟨_, d, k, y, h1, h2, h3⟩ := nxt b.1 b.2
    exact ⟨d, k, ⟨y, h1⟩, h2, h3⟩
  let dd := fun b : B => Classical.choose (nx b)
  let kk := fun b : B => Classical.choose (Classical.choose_spec (nx b))
  let yy := fun b : B => Classical.choose (Classical.choose_spec (Classical.choose_spec (nx b)))
  have sp : ∀ b : B, (yy b).1.2.2.tape = b.1.2.2.tape ∧ ∀ τ d0, (∀ i q, i < kk b → τ (d0 + i) q = b.1.2.2.tape (dd b + i) q) → step P (lone b.1.1 (b.1.2.1 ++ [c0 P]) (pzT X b.1.2.2 τ d0)) = .next (lone (yy b).1.1 ((yy b).1.2.1 ++ [c0 P]) (pzT X (yy b).1.2.2 τ (d0 + kk b))) :=
    fun b => Classical.choose_spec (Classical.choose_spec (Classical.choose_spec (nx b)))
  let f : Nat → B := fun i => Nat.rec (⟨(fr, seg, w), hb⟩ : B) (fun _ b => yy b) i
  have f0 : f 0 = ⟨(fr, seg, w), hb⟩ := rfl
  have fs : ∀ i, f (i + 1) = yy (f i) := fun i => rfl
  let c : Nat → Nat := fun i => Nat.rec (0 : Nat) (fun i a => a + kk (f i)) i
  have cs : ∀ i, c (i + 1) = c i + kk (f i) := fun i => rfl
  have tp : ∀ i, (f i).1.2.2.tape = w.tape := fun i => by
    induction i with
    | zero => rfl
    | succ i ih => rw [fs, (sp (f i)).1, ih]
  have cm : ∀ i j, i ≤ j → c i ≤ c j := fun i j hij => by
    induction hij with
    | refl => exact Nat.le_refl _
    | step _ ih => rw [cs]; exact Nat.le_trans ih (Nat.le_add_right _ _)
  -- its draws, laid together
  let τ : Nat → Question → Nat := fun p q => open Classical in if hx : ∃ ij : Nat × Nat, ij.2 < kk (f ij.1) ∧ p = c ij.1 + ij.2 then w.tape (dd (f hx.choose.1) + hx.choose.2) q else 0
  have hτ : ∀ i j q, j < kk (f i) → τ (c i + j) q = w.tape (dd (f i) + j) q := fun i j q hj => by
    have hx : ∃ ij : Nat × Nat, ij.2 < kk (f ij.1) ∧ c i + j = c ij.1 + ij.2 := ⟨(i, j), hj, rfl⟩
    have e : τ (c i + j) q = w.tape (dd (f hx.choose.1) + hx.choose.2) q := dif_pos hx
    rw [e]
    obtain ⟨h1, h2⟩ := hx.choose_spec
    have hi : hx.choose.1 = i := by
      rcases Nat.lt_trichotomy hx.choose.1 i with hl | hl | hl
      · have := cm _ _ hl
        rw [Nat.succ_eq_add_one, cs] at this
        omega
      · exact hl
      · have := cm _ _ hl
        rw [Nat.succ_eq_add_one, cs] at this
        omega
    have hj' : hx.choose.2 = j := by rw [hi] at h2; omega
    rw [hi, hj']
  have runs : ∀ i, runN P i (lone fr (seg ++ [c0 P]) (pzT X w τ 0)) = .next (lone (f i).1.1 ((f i).1.2.1 ++ [c0 P]) (pzT X (f i).1.2.2 τ (c i))) := fun i => by
    induction i with
    | zero => rfl
    | succ i ih =>
      rw [runN_add, ih]
      simp only [runN]
      rw [(sp (f i)).2 τ (c i) (fun j q hj => by rw [tp]; exact hτ i j q hj)]
  obtain ⟨N, fe, ue, hr, hm, _⟩ := hk τ 0
  rw [runs N, Stepped.next.injEq] at hr
  obtain ⟨e1, e2, _⟩ := lone_inj hr
  have hg := (nxt (f N).1 (f N).2).1
  have hseg : (f N).1.2.1 = [] := by
    cases hs : (f N).1.2.1 with
    | nil => rfl
    | cons a t => rw [hs] at e2; have := congrArg List.length e2; simp at this
  exact hg hseg (e1 ▸ hm)
theorem run_of_st (S : SetOk P s) (hF : ∀ fe u v, Full (fun _ => False) u v → F fe u → F fe v) (bw : List Frame) {fr : Frame} {seg : List Frame} {w : World} (h : St P X s Rtn F fr seg w) : Run P X (Left P X s F bw) (G fr (seg ++ bw)) w :=
  Classical.byContradiction fun hn => no_chain (B0 := Bad P X s F bw) (fun _ hx => bad_next S hF hx) ⟨h, hn⟩ h.ends
end
end Go.Proofs.Ytafgabakhaipnaa

/- Runs carried over, 14: the machine: goroutine 0 beside others who only leave. -/
namespace Go.Proofs.Ytafgabakhaipnaa
open Go.Conc
open Go.ConcN (sumTo upd sumTo_upd upd_ne upd_same)

section
variable {P : Program} {X : Nat → Prop} {Shun : Loc → Prop} {B : Nat}

theorem fine_low {e : Event} (h : Fine X e) : ∃ B, (MemAct.ofEvent e).low B := by
  obtain ⟨l, wr, sy⟩ := e
  cases l with
  | cell a => exact ⟨a.block + 1, Nat.lt_succ_self _⟩
  | obj r => exact ⟨r + 1, by cases wr <;> cases sy <;> exact Nat.lt_succ_self _⟩
  | mark m => cases m <;> first | exact ⟨0, trivial⟩ | exact (h : False).elim
  | _ => exact (h : False).elim
theorem fine_evL (hX : ∀ l, Shun l → ∃ a, l = .cell a ∧ X a.block) {e : Event} (h : Fine X e) (hl : (MemAct.ofEvent e).low B) : EvL Shun B e := by
  obtain ⟨l, wr, sy⟩ := e
  cases l with
  | cell a =>
    refine ⟨fun x hx hs => ?_, by simp, by simp, hl⟩
    obtain ⟨a', e, ha⟩ := hX _ hs
    simp only [MemAct.ofEvent, MemAct.touch?, Option.some.injEq] at hx
    subst hx
    cases e
    exact absurd ha h
  | obj r =>
    refine ⟨fun x hx hs => ?_, by simp, by simp, hl⟩
    obtain ⟨a', e, ha⟩ := hX _ hs
    cases wr <;> cases sy <;> simp [MemAct.ofEvent, MemAct.touch?] at hx <;> (subst hx; cases e)
  | mark m => cases m <;> first | exact (h : False).elim | exact ⟨fun x hx => by simp [MemAct.ofEvent, MemAct.touch?] at hx, by simp, by simp, hl⟩
  | _ => exact (h : False).elim
theorem fine_allS (hX : ∀ l, Shun l → ∃ a, l = .cell a ∧ X a.block) (es : Array Event) (h : ∀ e ∈ es, Fine X e) (B : Nat) : ∃ B', B ≤ B' ∧ ∀ e ∈ es, EvL Shun B' e := by
  have key : ∀ l : List Event, (∀ e ∈ l, Fine X e) → ∃ B', B ≤ B' ∧ ∀ e ∈ l, (MemAct.ofEvent e).low B' := fun l => by
    induction l with
    | nil => exact fun _ => ⟨B, Nat.le_refl _, by simp⟩
    | cons x l ih =>
      intro hl
      obtain ⟨b1, h1, h2⟩ := ih (fun e he => hl e (by simp [he]))
      obtain ⟨b2, h3⟩ := fine_low (hl x (by simp))
      refine ⟨max b1 b2, Nat.le_trans h1 (Nat.le_max_left _ _), fun e he => ?_⟩
      rcases List.mem_cons.1 he with rfl | he
      · exact MemAct.low_mono (Nat.le_max_right _ _) h3
      · exact MemAct.low_mono (Nat.le_max_left _ _) (h2 e he)
  obtain ⟨B', h1, h2⟩ := key es.toList (fun e he => h e (by simpa using he))
  exact ⟨B', h1, fun e he => fine_evL hX (h e he) (h2 e (by simpa using he))⟩

/-- Between two phases: goroutine 0 knows whatever was touched, but atomic touches of shunned places. -/
structure Fr (Shun : Loc → Prop) (B : Nat) (t : Trace) : Prop where
  past : Past Shun B t
  known : ∀ i a, touchAt t i = some a → Knows t 0 i ∨ (Shun a.loc ∧ a.kind = .atomic)
theorem Fr.mono {B' : Nat} {t : Trace} (h : Fr Shun B t) (hB : B ≤ B') : Fr Shun B' t := ⟨h.past.mono hB, h.known⟩
theorem Fr.app {B' : Nat} {t u : Trace} (h : Fr Shun B t) (hp : Past Shun B' (t ++ u)) (hu : ∀ op ∈ u, op.g = 0 ∨ op.act.touch? = none) : Fr Shun B' (t ++ u) := by
  refine ⟨hp, fun i a ha => ?_⟩
  obtain ⟨z, hz, hza⟩ := touch_of ha
  rcases getElem?_append_cases hz with ⟨_, hz'⟩ | ⟨_, hzu⟩
  · exact (h.known i a (by rw [touchAt_of hz']; exact hza)).imp (·.app u) id
  · rcases hu z hzu with h0 | h0
    · have := knows_own hz
      rw [h0] at this
      exact .inl this
    · rw [h0] at hza; cases hza
theorem Fr.own {t : Trace} (h : Fr Shun B t) {fn : FuncId} {pos : String} {es : Array Event} (hes : ∀ e ∈ es, EvL Shun B e) : Fr Shun B (t ++ MemOp.ofEvents 0 fn pos es) :=
  h.app (h.past.own hes) fun op hop => by obtain ⟨e, _, rfl⟩ := Go.Conc.mem_ofEvents hop; exact .inl rfl
theorem Fr.mute {t : Trace} (h : Fr Shun B t) {g : Nat} (hg : g ≠ 0) {fn : FuncId} {pos : String} {es : Array Event} (hm : ∀ e ∈ es, e.mute = true) : Fr Shun B (t ++ MemOp.ofEvents g fn pos es) :=
  h.app (h.past.mute hg hm) fun op hop => by obtain ⟨e, he, rfl⟩ := Go.Conc.mem_ofEvents hop; exact .inr (touch_mute (hm e he))
theorem fr_nil : Fr (fun _ => False) 0 #[] := ⟨past_nil, fun i a ha => by simp [touchAt, Trace.act?] at ha⟩

theorem at_self (w : World) : w.at w.drawn = w := rfl
theorem Run.at {Stop : Goroutine → World → Prop} {g : Goroutine} {w : World} (h : Run P X Stop g w) (d : Nat) : Run P X Stop g (w.at d) := by
  cases h with
  | stop h => exact .stop h
  | step hr g' w' es hs hf h => exact .step hr g' w' es hs hf h

theorem own_g {g : Nat} {fn : FuncId} {pos : String} {es : Array Event} : ∀ op ∈ MemOp.ofEvents g fn pos es, op.g = g := fun op hop => by obtain ⟨e, _, rfl⟩ := Go.Conc.mem_ofEvents hop; rfl

/-- One step of the machine's: goroutine 0's own, or one of a leaver's. -/
theorem beside_one {gs : Array Goroutine} {a : Goroutine} {t : Trace} {q : Nat → Nat} (h0 : gs[0]? = some a) (hr : a.status = .running) (hL : Leavers P t gs q) (hP : Fr Shun B t) (w : World) (sl : Option (Nat × Nat)) :
    ∃ d sl', (∀ g' w' es B', stepG P true a (w.at d) = .go g' w' es → (∀ e ∈ es, EvL Shun B' e) → B ≤ B' → ∃ gs' t', runNT P 1 (crowd gs w sl) t = (.next (crowd gs' w' sl'), t') ∧ gs'.size = gs.size ∧ gs'[0]? = some g' ∧ Leavers P t' gs' q ∧ Fr Shun B' t') ∨
      ∃ gs' t' q', runNT P 1 (crowd gs w sl) t = (.next (crowd gs' (w.at d) sl'), t') ∧ gs'.size = gs.size ∧ gs'[0]? = some a ∧ Leavers P t' gs' q' ∧ Fr Shun B t' ∧ sumTo gs.size q' < sumTo gs.size q := by
  have h0lt : 0 < gs.size := (Array.getElem?_eq_some_iff.1 h0).1
  have haw : ∀ g ∈ gs, awake g := fun g hg => by
    obtain ⟨i, hi⟩ := Array.mem_iff_getElem?.1 hg
    cases i with
    | zero => rw [h0] at hi; cases hi; exact awake_of (.inl hr)
    | succ i => exact awake_of ((hL.old (i + 1) g (by omega) hi).status.elim .inl fun x => .inr (.inr x))
  obtain ⟨i, g, d, sl', hi, hg, hst⟩ := crowd_pick (P := P) (w := w) (sl := sl) haw ⟨0, a, h0, hr⟩
  have ilt : i < gs.size := (Array.getElem?_eq_some_iff.1 hi).1
  -- what stands of the others, once goroutine i has gone on to g'
  have others : ∀ (g' : Goroutine) (w' : World) (es : Array Event) (j : Nat) (x : Goroutine), j ≠ i → ((gs.map (woken P g g' w')).setIfInBounds i g')[j]? = some x → ∃ y, gs[j]? = some y ∧ x = woken P g g' w' y := fun g' w' es j x hj hx => by
    rw [Array.getElem?_setIfInBounds_ne (Ne.symm hj), Array.getElem?_map] at hx
    obtain ⟨y, hy, e⟩ := Option.map_eq_some_iff.1 hx
    exact ⟨y, hy, e.symm⟩
  refine ⟨d, sl', ?_⟩
  cases i with
  | zero =>
    rw [h0] at hi
    cases hi
    refine .inl fun g' w' es B' hs hev hB => ?_
    refine ⟨_, _, by simp only [runNT, hst, runT_crowd_go (P := P) (sl := sl') (i := 0) h0 (show stepG P (0 == 0) a (w.at d) = _ from hs)]; rfl, by simp, by simp [h0lt], ⟨fun j x hj hx => ?_, fun j hj => ?_⟩, (hP.mono hB).own hev⟩
    · obtain ⟨y, hy, rfl⟩ := others g' w' es j x (by omega) hx
      have hq := hL.old j y hj hy
      rw [woken_quitsD hq, Deaf_other t (g' := 0) (by omega) _ own_g]
      exact hq
    · rw [Deaf_other t (g' := 0) (by simp at hj; omega) _ own_g]
      exact hL.above j (by simpa using hj)
  | succ i =>
    refine .inr ?_
    have hq := hL.old (i + 1) g (by omega) hi
    cases hqi : q (i + 1) with
    | zero => rw [hqi] at hq; rw [hq.1] at hg; cases hg
    | succ k =>
      rw [hqi] at hq
      rcases hq with ⟨hf, _⟩ | ⟨_, g', es, hm, hstp, hq'⟩
      · rw [hf] at hg; cases hg
      have hsum : sumTo gs.size (upd q (i + 1) k) + (k + 1) = sumTo gs.size q + k := by
        have := sumTo_upd q k id ilt
        simpa [hqi] using this
      refine ⟨_, _, upd q (i + 1) k, by simp only [runNT, hst, runT_crowd_go (P := P) (sl := sl') (i := i + 1) hi (show stepG P (i + 1 == 0) g (w.at d) = _ from hstp (w.at d))]; rfl, by simp, ?_, ⟨fun j x hj hx => ?_, fun j hj => ?_⟩, hP.mute (by omega) hm, by omega⟩
      · rw [Array.getElem?_setIfInBounds_ne (by omega), Array.getElem?_map, h0]
        simp [woken_run hr]
      · by_cases hji : j = i + 1
        · subst hji
          rw [Array.getElem?_setIfInBounds_self_of_lt (by simpa using ilt)] at hx
          cases hx
          rw [upd_same, Deaf_own]
          exact hq'
        · obtain ⟨y, hy, rfl⟩ := others g' (w.at d) es j x hji hx
          have hqj := hL.old j y hj hy
          rw [woken_quitsD hqj, upd_ne q k hji, Deaf_other t (g' := i + 1) (by omega) _ own_g]
          exact hqj
      · rw [Deaf_other t (g' := i + 1) (by simp at hj; omega) _ own_g]
        exact hL.above j (by simpa using hj)

/-- Goroutine 0 comes to its stop beside leavers, on whatever tape. -/
theorem run_beside {Stop : Goroutine → World → Prop} (hX : ∀ l, Shun l → ∃ a, l = .cell a ∧ X a.block) {a : Goroutine} {w : World} (h : Run P X Stop a w) :
    ∀ (M : Nat) (gs : Array Goroutine) (d : Nat) (sl : Option (Nat × Nat)) (t : Trace) (q : Nat → Nat) (B : Nat), sumTo gs.size q ≤ M → gs[0]? = some a → Leavers P t gs q → Fr Shun B t →
      ∃ N gs' a' w' sl' t' q' B', runNT P N (crowd gs (w.at d) sl) t = (.next (crowd gs' w' sl'), t') ∧ gs'.size = gs.size ∧ gs'[0]? = some a' ∧ Stop a' w' ∧ Leavers P t' gs' q' ∧ Fr Shun B' t' ∧ B ≤ B' := by
  induction h with
  | stop h => exact fun M gs d sl t q B _ h0 hL hP => ⟨0, gs, _, _, sl, t, q, B, rfl, rfl, h0, h d, hL, hP, Nat.le_refl _⟩
  | @step g w hr g' w' es hs hf _ ih =>
    intro M
    induction M with
    | zero =>
      intro gs d sl t q B hM h0 hL hP
      obtain ⟨d', sl', h1 | ⟨gs1, t1, q1, _, _, _, _, _, hlt⟩⟩ := beside_one h0 hr hL hP (w.at d) sl
      · obtain ⟨B', hB, hev⟩ := fine_allS hX (es d') (hf d') B
        obtain ⟨gs1, t1, r1, z1, a1, L1, P1⟩ := h1 _ _ _ B' (hs d') hev hB
        obtain ⟨N, gs2, a2, w2, sl2, t2, q2, B2, r2, z2, b2, st2, L2, P2, hB2⟩ := ih d' (sumTo gs1.size q) gs1 (w' d').drawn sl' t1 q B' (Nat.le_refl _) a1 L1 P1
        exact ⟨1 + N, gs2, a2, w2, sl2, t2, q2, B2, by rw [runNT_add, r1]; exact r2, z2.trans z1, b2, st2, L2, P2, Nat.le_trans hB hB2⟩
      · omega
    | succ M ihM =>
      intro gs d sl t q B hM h0 hL hP
      obtain ⟨d', sl', h1 | ⟨gs1, t1, q1, r1, z1, a1, L1, P1, hlt⟩⟩ := beside_one h0 hr hL hP (w.at d) sl
      · obtain ⟨B', hB, hev⟩ := fine_allS hX (es d') (hf d') B
        obtain ⟨gs1, t1, r1, z1, a1, L1, P1⟩ := h1 _ _ _ B' (hs d') hev hB
        obtain ⟨N, gs2, a2, w2, sl2, t2, q2, B2, r2, z2, b2, st2, L2, P2, hB2⟩ := ih d' (sumTo gs1.size q) gs1 (w' d').drawn sl' t1 q B' (Nat.le_refl _) a1 L1 P1
        exact ⟨1 + N, gs2, a2, w2, sl2, t2, q2, B2, by rw [runNT_add, r1]; exact r2, z2.trans z1, b2, st2, L2, P2, Nat.le_trans hB hB2⟩
      · obtain ⟨N, gs2, a2, w2, sl2, t2, q2, B2, r2, z2, b2, st2, L2, P2, hB2⟩ := ihM gs1 d' sl' t1 q1 B (by rw [z1]; omega) a1 L1 P1
        exact ⟨1 + N, gs2, a2, w2, sl2, t2, q2, B2, by rw [runNT_add, r1]; exact r2, z2.trans z1, b2, st2, L2, P2, hB2⟩
end
end Go.Proofs.Ytafgabakhaipnaa

/- Workers who read, add to one sum and leave, 0: the trace. -/
namespace Go.Proofs.Ytafgabakhaipnaa
open Go.Conc Go.ConcN
open Go.ConcR (KK wgBlock WgAt stA smA rd wr mk Payload DC0 g_of_ofEvents ofEvent_mk)

instance payZ : Payload := ⟨3⟩

/-- One phase: the group's block, the sum's, what lies below 'Low' is there when it begins; m0 goroutines stand; n workers are to be started, number i adds 'bit i'. -/
structure Ph where
  P : Program
  ty : TypeId
  tS : TypeId
  Wg : Nat
  S : Nat
  Low : Nat
  m0 : Nat
  n : Nat
  bit : Nat → Nat
  Shun : Loc → Prop
  t0 : Trace

def Ph.Sh (p : Ph) (l : Loc) : Prop := p.Shun l ∨ ShN p.Wg l ∨ ShN p.S l

structure Ph.Ok (p : Ph) : Prop where
  wg : p.Wg < p.Low
  s : p.S < p.Low
  ne : p.Wg ≠ p.S
  m0 : 1 ≤ p.m0
  shun : ∀ l, p.Shun l → ∃ a, l = .cell a ∧ a.block < p.Low ∧ a.block ≠ p.Wg ∧ a.block ≠ p.S
  n : p.n < 2147483648
  bits : sumTo p.n p.bit < 4294967296

theorem Ph.Ok.low {p : Ph} (o : p.Ok) {a : Addr} (h : p.Sh (.cell a)) : a.block < p.Low := by
  rcases h with h | ⟨b, e, hb⟩ | ⟨b, e, hb⟩
  · obtain ⟨b, e, hb, _⟩ := o.shun _ h
    cases e; exact hb
  · cases e; rw [hb]; exact o.wg
  · cases e; rw [hb]; exact o.s

/-- What goroutine g may touch. -/
def OkT (p : Ph) (ow : Nat → Nat) (h g : Nat) (x : Touch) : Prop :=
  ((ShN p.Wg x.loc ∨ ShN p.S x.loc) ∧ x.kind ≠ .plain ∧ (x.kind = .said → g = 0)) ∨
  (x.kind = .plain ∧ ∃ a, x.loc = .cell a ∧ ¬ p.Sh x.loc ∧ ((a.block < p.Low ∧ x.write = false) ∨ (p.Low ≤ a.block ∧ a.block < h ∧ ow a.block = g)))

/-- What is held of a touch in this phase. -/
def TIn (p : Ph) (t : Trace) (ow : Nat → Nat) (h N i : Nat) (op : MemOp) (x : Touch) : Prop :=
  (op.g = 0 ∨ (p.m0 ≤ op.g ∧ op.g < N)) ∧ (((ShN p.Wg x.loc ∨ ShN p.S x.loc) ∧ x.kind ≠ .plain ∧ (x.kind = .said → op.g = 0)) ∨ (x.kind = .plain ∧ ∃ a, x.loc = .cell a ∧ ¬ p.Sh x.loc ∧ ((a.block < p.Low ∧ x.write = false) ∨ (p.Low ≤ a.block ∧ a.block < h ∧ Knows t (ow a.block) i))))

structure TI (p : Ph) (t : Trace) (ow : Nat → Nat) (h N : Nat) : Prop where
  pre : ∃ u, t = p.t0 ++ u
  nr : ∀ said, ¬ Race said t
  k0 : ∀ k, (k = 0 ∨ (p.m0 ≤ k ∧ k < N)) → ∀ i a, i < p.t0.size → touchAt t i = some a → ¬ p.Shun a.loc → Knows t k i
  inn : ∀ i op x, p.t0.size ≤ i → t[i]? = some op → op.act.touch? = some x → TIn p t ow h N i op x

theorem TIn.app {p : Ph} {t : Trace} {ow : Nat → Nat} {h N i : Nat} {op : MemOp} {x : Touch} (u : Trace) (k : TIn p t ow h N i op x) : TIn p (t ++ u) ow h N i op x :=
  ⟨k.1, k.2.imp id fun ⟨h1, a, h2, h3, h4⟩ => ⟨h1, a, h2, h3, h4.imp id fun ⟨h5, h6, h7⟩ => ⟨h5, h6, h7.app u⟩⟩⟩

theorem TI.app {p : Ph} {t u : Trace} {ow : Nat → Nat} {h N g : Nat} (o : p.Ok) (k : TI p t ow h N) (hg : ∀ op ∈ u, op.g = g)
    (hu : ∀ op ∈ u, ∀ x, op.act.touch? = some x → (g = 0 ∨ (p.m0 ≤ g ∧ g < N)) ∧ OkT p ow h g x) : TI p (t ++ u) ow h N := by
  obtain ⟨u0, e0⟩ := k.pre
  have hT0 : p.t0.size ≤ t.size := by rw [e0]; simp
  have old : ∀ {i : Nat} {a : Touch}, i < p.t0.size → touchAt (t ++ u) i = some a → touchAt t i = some a := fun {i a} hi ha => by
    obtain ⟨z, hz, hza⟩ := touch_of ha
    rcases getElem?_append_cases hz with ⟨_, hz'⟩ | ⟨hi', _⟩
    · rw [touchAt_of hz']; exact hza
    · omega
  refine ⟨⟨u0 ++ u, by rw [e0, Array.append_assoc]⟩, fun said => ?_, fun k' hk i a hi ha hs => (k.k0 k' hk i a hi (old hi ha) hs).app u, fun i op x hi ho hx => ?_⟩
  · refine noRace_append (k.nr said) hg (fun i a ha op hop b hb hc => ?_)
    obtain ⟨hgg, h1 | ⟨hpl, ad, hl, hns, hcase⟩⟩ := hu op hop b hb
    · have hns : ¬ p.Shun a.loc := fun hs => by
        obtain ⟨ad, e, _, h2, h3⟩ := o.shun _ hs
        rw [hc.1] at e
        rcases h1.1 with ⟨b', e', hb'⟩ | ⟨b', e', hb'⟩ <;> (rw [e] at e'; cases e'; omega)
      rcases Nat.lt_or_ge i p.t0.size with hi | hi
      · exact k.k0 g hgg i a hi ha hns
      · obtain ⟨z, hz, hza⟩ := touch_of ha
        rcases (k.inn i z a hi hz hza).2 with ⟨_, h2, h3⟩ | ⟨_, ad, hl, hns', _⟩
        · obtain ⟨_, _, _, hcase⟩ := hc
          rcases hcase with x | x | ⟨_, x, y⟩
          · exact absurd x h2
          · exact absurd x h1.2.1
          · have := knows_own hz
            rw [h3 x] at this
            rw [h1.2.2 y]
            exact this
        · exact absurd (.inr (by rw [hc.1]; exact h1.1)) hns'
    · have hal : a.loc = .cell ad := hc.1.trans hl
      have hna : ¬ p.Sh a.loc := by rw [hc.1]; exact hns
      rcases Nat.lt_or_ge i p.t0.size with hi | hi
      · exact k.k0 g hgg i a hi ha fun hs => hna (.inl hs)
      · obtain ⟨z, hz, hza⟩ := touch_of ha
        rcases (k.inn i z a hi hz hza).2 with hs | ⟨_, ad', hl', _, hcase'⟩
        · exact absurd (.inr hs.1) hna
        · rw [hal] at hl'
          cases hl'
          rcases hcase with ⟨hlo, hrd⟩ | ⟨hlo, _, how⟩
          · rcases hcase' with ⟨_, hrd'⟩ | ⟨hlo', _⟩
            · exact absurd hc.2.2.1 (by simp [hrd, hrd'])
            · omega
          · rcases hcase' with ⟨hlo', _⟩ | ⟨_, _, hk⟩
            · omega
            · rw [how] at hk; exact hk
  · rcases getElem?_append_cases ho with ⟨_, ho'⟩ | ⟨_, hou⟩
    · exact (k.inn i op x hi ho' hx).app u
    · obtain ⟨hgg, hok⟩ := hu op hou x hx
      have hop := hg op hou
      refine ⟨by rw [hop]; exact hgg, ?_⟩
      rcases hok with h1 | ⟨hpl, ad, hl, hns, hcase⟩
      · exact .inl ⟨h1.1, h1.2.1, fun e => hop.trans (h1.2.2 e)⟩
      · refine .inr ⟨hpl, ad, hl, hns, hcase.imp id fun ⟨h1, h2, h3⟩ => ⟨h1, h2, ?_⟩⟩
        have := knows_own ho
        rw [hop] at this
        rw [h3]; exact this

/-- A new block: whoever is to have it. -/
theorem TI.fresh {p : Ph} {t : Trace} {ow : Nat → Nat} {h N : Nat} (g : Nat) (k : TI p t ow h N) : TI p t (upd ow h g) (h + 1) N :=
  ⟨k.pre, k.nr, k.k0, fun i op x hi ho hx => by
    obtain ⟨h1, h2⟩ := k.inn i op x hi ho hx
    refine ⟨h1, h2.imp id fun ⟨h3, a, h4, h5, h6⟩ => ⟨h3, a, h4, h5, h6.imp id fun ⟨h7, h8, h9⟩ => ⟨h7, by omega, ?_⟩⟩⟩
    rw [upd_ne ow g (by omega)]; exact h9⟩

/-- A go statement: what the child is to have passes to it. -/
theorem TI.fork {p : Ph} {t : Trace} {ow ow' : Nat → Nat} {h N : Nat} (k : TI p t ow h N) (hm : p.m0 ≤ N) (hN : 1 ≤ N) {x y : MemOp} (hx : x.g = 0 ∧ x.act = .go N) (hy : y.g = N ∧ y.act = .start) (h0 : Deaf t 0 = 0) (hk : Deaf t N = 0)
    (how : ∀ b, ow' b = ow b ∨ (ow b = 0 ∧ ow' b = N)) : TI p (t ++ #[x, y]) ow' h (N + 1) := by
  obtain ⟨u0, e0⟩ := k.pre
  have hT0 : p.t0.size ≤ t.size := by rw [e0]; simp
  have hnt : ∀ op ∈ #[x, y], ∀ b, op.act.touch? = some b → False := by
    intro op hop b hb
    simp only [List.mem_toArray, List.mem_cons, List.not_mem_nil, or_false] at hop
    rcases hop with rfl | rfl
    · rw [hx.2] at hb; cases hb
    · rw [hy.2] at hb; cases hb
  have old : ∀ {i : Nat} {z : MemOp} {a : Touch}, (t ++ #[x, y])[i]? = some z → z.act.touch? = some a → t[i]? = some z := fun {i z a} hz hza => by
    rcases getElem?_append_cases hz with ⟨_, hz'⟩ | ⟨_, hzu⟩
    · exact hz'
    · exact (hnt z hzu a hza).elim
  refine ⟨⟨u0 ++ #[x, y], by rw [e0, Array.append_assoc]⟩, fun said => ?_, fun k' hk' i a hi ha hs => ?_, fun i op z hi ho hz => ?_⟩
  · have e : t ++ #[x, y] = (t ++ #[x]) ++ #[y] := by apply Array.ext'; simp
    rw [e]
    refine noRace_append (g := N) (noRace_append (g := 0) (k.nr said) (fun op hop => by simp at hop; rw [hop]; exact hx.1) (fun i a _ op hop b hb _ => (hnt op (by simp at hop ⊢; exact .inl hop) b hb).elim))
      (fun op hop => by simp at hop; rw [hop]; exact hy.1) (fun i a _ op hop b hb _ => (hnt op (by simp at hop ⊢; exact .inr hop) b hb).elim)
  · obtain ⟨z, hz, hza⟩ := touch_of ha
    have ha' : touchAt t i = some a := by rw [touchAt_of (old hz hza)]; exact hza
    by_cases e : k' = N
    · subst e
      exact fork_knows hx hy h0 hk (k.k0 0 (.inl rfl) i a hi ha' hs)
    · exact (k.k0 k' (by omega) i a hi ha' hs).app _
  · obtain ⟨h1, h2⟩ := k.inn i op z hi (old ho hz) hz
    refine ⟨h1.imp id fun h => ⟨h.1, by omega⟩, h2.imp id fun ⟨h3, a, h4, h5, h6⟩ => ⟨h3, a, h4, h5, h6.imp id fun ⟨h7, h8, h9⟩ => ⟨h7, h8, ?_⟩⟩⟩
    rcases how a.block with e | ⟨e1, e2⟩
    · rw [e]; exact h9.app _
    · rw [e1] at h9; rw [e2]; exact fork_knows hx hy h0 hk h9

/-- The phase begins. -/
theorem TI.start {p : Ph} {B h N : Nat} (hf : Fr p.Shun B p.t0) (hN : N ≤ p.m0) : TI p p.t0 (fun _ => 0) h N := by
  refine ⟨⟨#[], by simp⟩, hf.past.clean, fun k hk i a hi ha hs => ?_, fun i op x hi ho _ => ?_⟩
  · have e : k = 0 := by omega
    subst e
    exact (hf.known i a ha).elim id fun h => absurd h.1 hs
  · have := lt_size_of_getElem? ho; omega
/-- Nobody says a bare 'release' of the group in this phase. -/
def NoRel (p : Ph) (t : Trace) : Prop := ∀ i, p.t0.size ≤ i → t.act? i ≠ some (.mark (.release (stA p.Wg)))
theorem NoRel.app {p : Ph} {t u : Trace} (h : NoRel p t) (hu : ∀ op ∈ u, op.act ≠ .mark (.release (stA p.Wg))) : NoRel p (t ++ u) := by
  intro i hi e
  obtain ⟨op, ho, hoa⟩ := Option.map_eq_some_iff.1 e
  rcases getElem?_append_cases ho with ⟨_, ho'⟩ | ⟨_, hou⟩
  · exact h i hi (by rw [act?_of ho', hoa])
  · exact hu op hou hoa

theorem low_some (x : MemAct) : ∃ B, x.low B := by
  cases x with
  | access e =>
    obtain ⟨l, wr, sy⟩ := e
    cases l with
    | cell a => exact ⟨a.block + 1, Nat.lt_succ_self _⟩
    | obj r => exact ⟨r + 1, Nat.lt_succ_self _⟩
    | _ => exact ⟨0, trivial⟩
  | mark m => cases m <;> first | exact ⟨0, trivial⟩ | exact ⟨_, Nat.lt_succ_self _⟩
  | go _ | start => exact ⟨0, trivial⟩
  | send _ _ | sendDone _ _ | recv _ _ _ | recvDone _ _ | close _ | recvClosed _ => exact ⟨_, Nat.lt_succ_self _⟩
theorem low_all (B : Nat) (t : Trace) : ∃ B', B ≤ B' ∧ ∀ op ∈ t, op.act.low B' := by
  have key : ∀ l : List MemOp, ∃ B', B ≤ B' ∧ ∀ op ∈ l, op.act.low B' := fun l => by
    induction l with
    | nil => exact ⟨B, Nat.le_refl _, by simp⟩
    | cons x l ih =>
      obtain ⟨b1, h1, h2⟩ := ih
      obtain ⟨b2, h3⟩ := low_some x.act
      refine ⟨max b1 b2, Nat.le_trans h1 (Nat.le_max_left _ _), fun e he => ?_⟩
      rcases List.mem_cons.1 he with rfl | he
      · exact MemAct.low_mono (Nat.le_max_right _ _) h3
      · exact MemAct.low_mono (Nat.le_max_left _ _) (h2 e he)
  obtain ⟨B', h1, h2⟩ := key t.toList
  exact ⟨B', h1, fun op hop => h2 op (by simpa using hop)⟩

/-- The phase ends: goroutine 0 says 'acquire', hearing, behind every worker's release. -/
theorem TI.close {p : Ph} {t : Trace} {ow : Nat → Nat} {h N B : Nat} (o : p.Ok) (k : TI p t ow h N) (hf : Fr p.Shun B p.t0) (hn : NoRel p t) (hd : Deaf t 0 = 0)
    (rel : ∀ g, p.m0 ≤ g → g < N → ∃ r, RelBy (stA p.Wg) t g r ∧ p.t0.size ≤ r) {y : MemOp} (hy0 : y.g = 0) (hya : y.act = .mark (.acquire (stA p.Wg))) : ∃ B', B ≤ B' ∧ Fr p.Sh B' (t ++ #[y]) := by
  obtain ⟨u0, e0⟩ := k.pre
  have hT0 : p.t0.size ≤ t.size := by rw [e0]; simp
  have hlast : (t ++ #[y])[t.size]? = some y := by rw [Array.getElem?_append_right (Nat.le_refl _)]; simp
  have hq : (t ++ #[y]).act? t.size = some (.mark (.acquire (stA p.Wg))) := by rw [act?_of hlast, hya]
  have hqg : (t ++ #[y]).g? t.size = some 0 := by simp [Trace.g?, hy0]
  have hqh : (t ++ #[y]).heard t.size := ⟨0, hqg, by rw [deaf_old (Nat.le_refl _)]; exact hd⟩
  have hn' : NoRel p (t ++ #[y]) := hn.app fun op hop => by simp at hop; subst hop; rw [hya]; simp
  have hnt : ∀ b, y.act.touch? = some b → False := fun b hb => by rw [hya] at hb; cases hb
  have old : ∀ {i : Nat} {z : MemOp} {a : Touch}, (t ++ #[y])[i]? = some z → z.act.touch? = some a → t[i]? = some z := fun {i z a} hz hza => by
    rcases getElem?_append_cases hz with ⟨_, hz'⟩ | ⟨_, hzu⟩
    · exact hz'
    · simp at hzu; subst hzu; exact (hnt a hza).elim
  -- what a worker did ahead of its release is known; what it did behind it is atomic
  have wk : ∀ {i g : Nat} {x : Touch}, (t ++ #[y]).g? i = some g → touchAt (t ++ #[y]) i = some x → p.m0 ≤ g → g < N → (∃ r, HappensBefore (t ++ #[y]) i t.size ∧ i ≤ r) ∨ ¬ (t ++ #[y]).counts i := fun {i g x} hgi hx h1 h2 => by
    obtain ⟨r, hr, hrT⟩ := rel g h1 h2
    obtain ⟨z, hz, hza⟩ := touch_of hx
    have hz' := old hz hza
    have hi := lt_size_of_getElem? hz'
    have hrs : r < t.size := lt_of_act? hr.act
    have edge : HappensBefore (t ++ #[y]) r t.size := .single (.inr ⟨.marked hrs (.inr (by rw [act?_old hrs]; exact hr.act)) hq (fun k hk _ => hn' k (by omega)), (heard_old hrs).2 hr.heard, hqh⟩)
    rcases Nat.lt_trichotomy i r with hlt | rfl | hgt
    · exact .inl ⟨r, .trans (.single (.inl ⟨hlt, g, hgi, by rw [g?_old hrs]; exact hr.g⟩)) edge, by omega⟩
    · exact .inl ⟨i, edge, Nat.le_refl _⟩
    · refine .inr ?_
      rw [counts_old hi]
      exact hr.after i hgt (by rw [← g?_old (u := #[y]) hi]; exact hgi)
  have known : ∀ i a, touchAt (t ++ #[y]) i = some a → Knows (t ++ #[y]) 0 i ∨ (p.Sh a.loc ∧ a.kind = .atomic) := fun i a ha => by
    obtain ⟨z, hz, hza⟩ := touch_of ha
    have hz' := old hz hza
    rcases Nat.lt_or_ge i p.t0.size with hi | hi
    · have hz0 : p.t0[i]? = some z := by rw [e0, getElem?_append_old hi] at hz'; exact hz'
      rcases hf.known i a (by rw [touchAt_of hz0]; exact hza) with h1 | h1
      · refine .inl ?_
        rw [e0, Array.append_assoc]
        exact h1.app _
      · exact .inr ⟨.inl h1.1, h1.2⟩
    · obtain ⟨hg, hin⟩ := k.inn i z a hi hz' hza
      rcases hg with hg | ⟨hg1, hg2⟩
      · have := knows_own hz
        rw [hg] at this
        exact .inl this
      · rcases wk (g := z.g) (by unfold Trace.g?; rw [hz]; rfl) ha hg1 hg2 with ⟨_, hb, _⟩ | hc
        · exact .inl ⟨t.size, y, hlast, hy0, .inr hb⟩
        · have hat : p.Sh a.loc → a.kind = .atomic := fun hs => by
            by_cases e : a.kind = .atomic
            · exact e
            · refine absurd ⟨a, by simpa [touchAt] using ha, ?_, .inl e⟩ hc
              rcases hs with hs | ⟨_, e1, _⟩ | ⟨_, e1, _⟩
              · obtain ⟨_, e1, _⟩ := o.shun _ hs
                rw [e1]; rfl
              · rw [e1]; rfl
              · rw [e1]; rfl
          rcases hin with hs | ⟨hp, ad, hl, _⟩
          · exact .inr ⟨.inr hs.1, hat (.inr hs.1)⟩
          · exact absurd ⟨a, by simpa [touchAt] using ha, by rw [hl]; rfl, .inl (by rw [hp]; simp)⟩ hc
  obtain ⟨B', hB, hlow⟩ := low_all B (t ++ #[y])
  refine ⟨B', hB, ⟨fun said => noRace_append (g := 0) (k.nr said) (fun op hop => by simp at hop; subst hop; exact hy0) (fun i a _ op hop b hb _ => by simp at hop; subst hop; exact (hnt b hb).elim), fun i a ha _ => known i a ha, fun i g hgi hne hc => ?_, ?_, hlow⟩, known⟩
  · obtain ⟨x, hx, hmem, hk⟩ := hc
    have hx' : touchAt (t ++ #[y]) i = some x := by simpa [touchAt] using hx
    obtain ⟨z, hz, hza⟩ := touch_of hx'
    have hz' := old hz hza
    have hzg : z.g = g := by unfold Trace.g? at hgi; rw [hz] at hgi; exact Option.some.inj hgi
    rcases Nat.lt_or_ge i p.t0.size with hi | hi
    · have e1 : t ++ #[y] = p.t0 ++ (u0 ++ #[y]) := by rw [e0, Array.append_assoc]
      rw [e1] at hgi hx hk ⊢
      obtain ⟨j, hj, hb⟩ := hf.past.over i g (by rw [← g?_old (u := u0 ++ #[y]) hi]; exact hgi) hne ((counts_old hi).1 ⟨x, hx, hmem, hk⟩)
      have hjl : j < p.t0.size := by
        unfold Trace.g? at hj
        obtain ⟨z, hz, _⟩ := Option.map_eq_some_iff.1 hj
        exact lt_size_of_getElem? hz
      exact ⟨j, by rw [g?_old hjl]; exact hj, hb_app _ hb⟩
    · obtain ⟨hg, _⟩ := k.inn i z x hi hz' hza
      rcases wk hgi hx' (by omega) (by omega) with ⟨_, hb, _⟩ | hc
      · exact ⟨t.size, hqg, hb⟩
      · exact absurd ⟨x, hx, hmem, hk⟩ hc
  · have e := Deaf_still t 0 #[y] (fun op hop => by simp at hop; subst hop; rw [hya]; exact ⟨by simp, by simp⟩)
    exact e.trans hd
end Go.Proofs.Ytafgabakhaipnaa
