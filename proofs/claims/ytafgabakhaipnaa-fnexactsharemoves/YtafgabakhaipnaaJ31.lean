/- A book, a list of texts that can be read: opened. -/
import Derived.Test.YtafgabakhaipnaaJ14
import Derived.Test.YtafgabakhaipnaaJ26
namespace Go.Proofs.Ytafgabakhaipnaa
open Go.ChangeShapes Go.WideShapes Go.ChangeAt Go.RowKit

theorem cellsBatch : Try.prog.cellsOf 52 = 3 := by kernel_rfl
theorem cellsBook : Try.prog.cellsOf 25 = 2 := by kernel_rfl
theorem cellsBatchS : Try.prog.cellsOf 23 = 1 := by kernel_rfl

theorem ba_of_trod {H : Type} {enc : TypeId × Value → H} {w : World} {base : Nat} {sp : Nat → Bool} {held : Bool} {fuel : Nat} {cs : List Value} {x : DataW H × List MemPlace}
    (h : DataW.trod enc Try.prog w base sp held fuel 52 cs = some x) : ∃ (y : Ba) (hv nv : Value), cs = [.string y.nm, hv, nv] ∧ Ls w hv y.has ∧ Ls w nv y.needs ∧ y.nm.size ≤ maxLen := by
  obtain ⟨xs, m, _, rfl, hl, hlen, hf⟩ := DataW.trod_struct Try.underlying52 h
  rw [cellsBatch] at hl
  obtain ⟨c0, c1, c2, rfl⟩ := list3 hl
  obtain ⟨y0, y1, y2, rfl⟩ := list3 (hlen.trans rfl : xs.length = 3)
  have h0 : DataW.trod enc Try.prog w base sp held m 9 (([c0, c1, c2].drop 0).take (Try.prog.cellsOf 9)) = some y0 := hf 0 { name := "Name", type := 9, offset := 0, embedded := false, tag := "", pkgPath := "", byteOffset := 0 } rfl
  have h1 : DataW.trod enc Try.prog w base sp held m 22 (([c0, c1, c2].drop 1).take (Try.prog.cellsOf 22)) = some y1 := hf 1 { name := "Has", type := 22, offset := 1, embedded := false, tag := "", pkgPath := "", byteOffset := 16 } rfl
  have h2 : DataW.trod enc Try.prog w base sp held m 22 (([c0, c1, c2].drop 2).take (Try.prog.cellsOf 22)) = some y2 := hf 2 { name := "Needs", type := 22, offset := 2, embedded := false, tag := "", pkgPath := "", byteOffset := 40 } rfl
  clear hf h
  rw [cellsString] at h0
  rw [cellsStrS] at h1 h2
  simp only [List.drop_succ_cons, List.drop_zero, List.take_succ_cons, List.take_zero] at h0 h1 h2
  obtain ⟨nm, rfl, rfl, z0⟩ := str_of_trod h0
  obtain ⟨has, l1⟩ := ls_of_trod h1
  obtain ⟨needs, l2⟩ := ls_of_trod h2
  exact ⟨⟨nm, has, needs⟩, c1, c2, rfl, l1, l2, z0⟩

theorem bs_of_trod {H : Type} {enc : TypeId × Value → H} {W : World} {base : Nat} {sp : Nat → Bool} {held : Bool} {fuel : Nat} {v : Value} {x : DataW H × List MemPlace}
    (h : DataW.trod enc Try.prog W base sp held fuel 23 [v] = some x) : ∃ bs, Bs W v bs := by
  rcases DataW.trod_slice Try.underlying23 h with ⟨hcs, _⟩ | ⟨a, len, cap, elems, rest, n, _, hcs, _, hb, hl, hm, hlen, hel, _, _⟩
  · obtain rfl : v = .slice none 0 0 := by simpa using hcs
    exact ⟨[], _, _, rfl, by simp, fun h => by simp at h⟩
  · obtain rfl : v = .slice (some a) len cap := by simpa using hcs
    clear hcs h
    rw [cellsBatch] at hel
    have each : ∀ i, i < len → ∃ y : Ba, ∃ hv nv : Value, W.cells? base (a.add (i * 3)) 3 = some [.string y.nm, hv, nv] ∧ Ls W hv y.has ∧ Ls W nv y.needs ∧ y.nm.size ≤ maxLen := by
      intro i hi
      have h1 := hel i hi
      rw [List.getElem?_eq_getElem (by omega)] at h1
      obtain ⟨cs, hc, ht⟩ := Option.bind_eq_some_iff.1 h1
      obtain ⟨y, hv, nv, rfl, r⟩ := ba_of_trod ht
      exact ⟨y, hv, nv, hc, r⟩
    obtain ⟨bs, hpl, hps⟩ := list_of len _ each
    rcases Nat.eq_zero_or_pos len with h0 | h0
    · subst h0
      exact ⟨[], _, _, rfl, by simp, fun h => by simp at h⟩
    · obtain ⟨b, o, spot⟩ := a
      have hs : spot = none := by
        obtain ⟨q, hv, nv, hq, _⟩ := each 0 h0
        simpa [Addr.add] using spot_none (by omega) hq
      subst hs
      have hra : BsAt W b o bs := by
        intro i q hq
        obtain ⟨hv, nv, this, r⟩ := hps i q hq
        rw [Addr.add_mid] at this
        exact ⟨hv, nv, rangeAt_of_cells this, r⟩
      subst hpl
      refine ⟨bs, _, cap, rfl, by omega, fun _ => ⟨b, o, rfl, hra, ?_⟩⟩
      obtain ⟨hv, nv, hr, -⟩ := hra 0 bs[0] (by simp [h0])
      exact World.block_lt_of_cell? W _ (hr 0 _ rfl)

theorem bk_of_trod {H : Type} {enc : TypeId × Value → H} {w : World} {base : Nat} {sp : Nat → Bool} {held : Bool} {fuel : Nat} {cs : List Value} {x : DataW H × List MemPlace}
    (h : DataW.trod enc Try.prog w base sp held fuel 25 cs = some x) : ∃ (b : Bk), BkV w (.agg cs.toArray) b := by
  obtain ⟨xs, m, _, rfl, hl, hlen, hf⟩ := DataW.trod_struct Try.underlying25 h
  rw [cellsBook] at hl
  obtain ⟨c0, c1, rfl⟩ := list2 hl
  obtain ⟨y0, y1, rfl⟩ := list2 (hlen.trans rfl : xs.length = 2)
  have h0 : DataW.trod enc Try.prog w base sp held m 22 (([c0, c1].drop 0).take (Try.prog.cellsOf 22)) = some y0 := hf 0 { name := "Things", type := 22, offset := 0, embedded := false, tag := "", pkgPath := "", byteOffset := 0 } rfl
  have h1 : DataW.trod enc Try.prog w base sp held m 23 (([c0, c1].drop 1).take (Try.prog.cellsOf 23)) = some y1 := hf 1 { name := "Batches", type := 23, offset := 1, embedded := false, tag := "", pkgPath := "", byteOffset := 24 } rfl
  clear hf h
  rw [cellsStrS] at h0
  rw [cellsBatchS] at h1
  simp only [List.drop_succ_cons, List.drop_zero, List.take_succ_cons, List.take_zero] at h0 h1
  obtain ⟨ts, l0⟩ := ls_of_trod h0
  obtain ⟨bs, l1⟩ := bs_of_trod h1
  exact ⟨⟨ts, bs⟩, c0, c1, rfl, l0, l1⟩
end Go.Proofs.Ytafgabakhaipnaa

/- Runs carried over, 19: a run to the place where a frame is cut off. -/
namespace Go.Proofs.Ytafgabakhaipnaa
open Go.Conc

/-- The last frame has more to do behind. -/
def extL (k : List Item) : List Frame → List Frame
  | [] => []
  | [r] => [ext k r]
  | a :: b :: t => a :: extL k (b :: t)
theorem extL_app (k : List Item) (c : Frame) (t : List Frame) : ∀ new : List Frame, extL k (new ++ c :: t) = new ++ extL k (c :: t)
  | [] => rfl
  | [a] => rfl
  | a :: b :: n => by
    have := extL_app k c t (b :: n)
    simp only [List.cons_append] at this ⊢
    rw [extL, this]
/-- The goroutine whose frames are these above the base. -/
def gx (k : List Item) (fr : Frame) (seg bw : List Frame) : Goroutine :=
  match seg with
  | [] => G (ext k fr) bw
  | c :: t => G fr (extL k (c :: t) ++ bw)

section
variable {P : Program} {X : Nat → Prop} {s : Nat → Bool} {F : Frame → World → Prop}

theorem gx_step (S : SetOk P s) (k : List Item) {fr : Frame} {seg bw : List Frame} (h : FrOk P s fr) (hg : Going fr seg) (hne : seg = [] → fr.todo ≠ []) (hne' : ∀ c ∈ seg, c.todo ≠ []) {w : World} (hw : Full (fun _ => False) w w)
    {fr' : Frame} {seg' : List Frame} {w' : World} {es : Array Event} (hst : stepG P true (G fr (seg ++ bw)) w = .go (G fr' (seg' ++ bw)) w' es) :
    stepG P true (gx k fr seg bw) w = .go (gx k fr' seg' bw) w' es ∧ ∀ c ∈ seg', c.todo ≠ [] := by
  have gi : ∀ {a b : Frame} {l l' : List Frame}, G a l = G b l' → a = b ∧ l = l' := fun e => ⟨congrArg (·.frame) e, congrArg (·.callers) e⟩
  cases hm : fr.mode with
  | run =>
    rcases top_step S h hm hw hst with ⟨f1, a1, a2, a3⟩ | ⟨f1, a1, a2, a3, a4⟩
    · obtain ⟨rfl, e⟩ := gi a1
      have e := List.append_cancel_right e
      subst e
      refine ⟨?_, hne'⟩
      cases seg' with
      | nil => exact a3 (hne rfl) k bw
      | cons c t => exact a2 _
    · obtain ⟨rfl, e⟩ := gi a1
      rw [show fr :: (seg ++ bw) = (fr :: seg) ++ bw from rfl] at e
      have e := List.append_cancel_right e
      subst e
      refine ⟨?_, fun c hc => (List.mem_cons.1 hc).elim (fun e => e ▸ a2) (hne' c)⟩
      cases seg with
      | nil => exact a4 k bw
      | cons c t => exact a3 _
  | returning =>
    cases seg with
    | nil => rcases hg with hg | hg; · rw [hm] at hg; cases hg
             · exact absurd rfl hg
    | cons c t =>
      obtain ⟨fn, hf⟩ := h.fn
      generalize hu : (results fn fr.tmps).runT P w #[] = ru
      have step : ∀ (c : Frame) (cs : List Frame), stepG P true (G fr (c :: cs)) w = GStep.after (seen P fr.fn ru.2) (match ru.1 with
          | .ok v w => doReturn P true fr (c :: cs) none v w
          | .halt k w => (match k with | .stuck x => .ended (.stuck x (fr.pos P)) w | .unsupported x => .ended (.unsupported x (fr.pos P)) w | _ => .ended (.stuck "" (fr.pos P)) w)) ∨ ∃ o x es, stepG P true (G fr (c :: cs)) w = .ended o x es := fun c cs => by
        match ru, hu with
        | (.ok v u1, eu), hu => exact .inl (by simp only [stepG, G, hm, unwind, h.defers, hf, hu])
        | (.halt k u1, eu), hu => exact .inr (by cases k <;> exact ⟨_, _, _, by simp only [stepG, G, hm, unwind, h.defers, hf, hu, GStep.after]; rfl⟩)
      match ru, hu, step with
      | (.halt k u1, eu), hu, step =>
        exfalso
        rcases step c (t ++ bw) with e | ⟨o, x, es1, e⟩
        · rw [List.cons_append, e] at hst
          cases k <;> (simp only [GStep.after] at hst; cases hst)
        · rw [List.cons_append, e] at hst; cases hst
      | (.ok v u1, eu), hu, step =>
        have go : ∀ (c : Frame) (cs : List Frame), stepG P true (G fr (c :: cs)) w = .go (G (c.finish v) cs) u1 (seen P fr.fn eu ++ #[]) := fun c cs => by
          simp only [stepG, G, hm, unwind, h.defers, hf, hu, doReturn, h.kind, GStep.after]
        rw [List.cons_append, go] at hst
        rw [GStep.go.injEq] at hst
        obtain ⟨e1, rfl, rfl⟩ := hst
        obtain ⟨rfl, e2⟩ := gi e1
        have e3 := List.append_cancel_right e2
        subst e3
        refine ⟨?_, fun x hx => hne' x (by simp [hx])⟩
        cases t with
        | nil =>
          have := go (ext k c) bw
          rw [finish_ext k (hne' c (by simp))] at this
          exact this
        | cons d t => exact go c _
  | panicking ch =>
    cases seg with
    | nil => rcases hg with hg | hg; · rw [hm] at hg; cases hg
             · exact absurd rfl hg
    | cons c t =>
      obtain ⟨fn, hf⟩ := h.fn
      have hcat : fr.catches P = false := by unfold Frame.catches; rw [hf]
      have go : ∀ (c : Frame) (cs : List Frame), stepG P true (G fr (c :: cs)) w = .go (G (c.raise ch) cs) w #[] := fun c cs => by
        simp only [stepG, G, hm, unwind, h.defers, hcat, Bool.false_eq_true, if_false]
      rw [List.cons_append, go] at hst
      rw [GStep.go.injEq] at hst
      obtain ⟨e1, rfl, rfl⟩ := hst
      obtain ⟨rfl, e2⟩ := gi e1
      have e3 := List.append_cancel_right e2
      subst e3
      refine ⟨?_, fun x hx => hne' x (by simp [hx])⟩
      cases t with
      | nil =>
        have := go (ext k c) bw
        rw [raise_ext] at this
        exact this
      | cons d t => exact go c _

/-- Nothing is left to do. -/
abbrev OutE (fr : Frame) : Prop := fr.mode = .run ∧ fr.todo = []
/-- The cut-off frame has come to its end. -/
def AtCut (P : Program) (X : Nat → Prop) (s : Nat → Bool) (F : Frame → World → Prop) (k : List Item) (bw : List Frame) (g : Goroutine) (w : World) : Prop :=
  ∃ fe, g = G (ext k fe) bw ∧ FrOk P s fe ∧ Base X w ∧ OutE fe ∧ ∀ τ d, F fe (pzT X w τ d)

theorem cut_of (S : SetOk P s) {fr : Frame} {w : World} (h : St P X s OutE F fr [] w) (hc : fr.mode ≠ .run ∨ fr.todo = []) (k : List Item) (bw : List Frame) (d : Nat) : AtCut P X s F k bw (gx k fr [] bw) (w.at d) := by
  have key : ∀ τ d, OutE fr ∧ F fr (pzT X w τ d) := fun τ d => by
    obtain ⟨N, fe, ue, hr, hmo, hF⟩ := h.ends τ d
    have rest : ∀ {f : Frame} {N : Nat}, FrOk P s f → f.mode ≠ .run → runN P N (lone f [c0 P] (pzT X w τ d)) = .next (lone fe [c0 P] ue) → f = fe := fun {f N} hf hm hr => by
      have hN := root_last S hf (fun hh => hh.elim hm (fun h => h rfl)) hr
      subst hN
      simp only [runN, Stepped.next.injEq] at hr
      exact (lone_inj hr).1
    simp only [List.nil_append] at hr
    by_cases hm : fr.mode = .run
    · have ht : fr.todo = [] := hc.resolve_left fun h => h hm
      have hstep : step P (lone fr [c0 P] (pzT X w τ d)) = .next (lone { fr with mode := .returning } [c0 P] (pzT X w τ d)) := lone_next (es := #[]) (by simp [stepG, stepG.exec, G, hm, ht, h.top.round])
      cases N with
      | zero =>
        simp only [runN, Stepped.next.injEq] at hr
        obtain ⟨e1, _, e3⟩ := lone_inj hr
        subst e1 e3
        exact ⟨hmo, hF⟩
      | succ N =>
        simp only [runN, hstep] at hr
        have e := rest (mode_ok h.top .returning) (by simp) hr
        rw [← e] at hmo
        exact absurd hmo.1 (by simp)
    · have e := rest h.top hm hr
      rw [← e] at hmo
      exact absurd hmo.1 hm
  exact ⟨fr, rfl, h.top, h.base.at d, (key (fun _ _ => 0) 0).1, fun τ d => (key τ d).2⟩

def BadC (P : Program) (X : Nat → Prop) (s : Nat → Bool) (F : Frame → World → Prop) (k : List Item) (bw : List Frame) (x : Frame × List Frame × World) : Prop :=
  St P X s OutE F x.1 x.2.1 x.2.2 ∧ (∀ c ∈ x.2.1, c.todo ≠ []) ∧ ¬ Run P X (AtCut P X s F k bw) (gx k x.1 x.2.1 bw) x.2.2

theorem badC_next (S : SetOk P s) (hF : ∀ fe u v, Full (fun _ => False) u v → F fe u → F fe v) {k0 : List Item} {bw : List Frame} {x : Frame × List Frame × World} (h : BadC P X s F k0 bw x) :
    (x.2.1 = [] → ¬ OutE x.1) ∧ ∃ (d k : Nat) (y : Frame × List Frame × World), BadC P X s F k0 bw y ∧ y.2.2.tape = x.2.2.tape ∧
      ∀ τ d0, (∀ i q, i < k → τ (d0 + i) q = x.2.2.tape (d + i) q) → step P (lone x.1 (x.2.1 ++ [c0 P]) (pzT X x.2.2 τ d0)) = .next (lone y.1 (y.2.1 ++ [c0 P]) (pzT X y.2.2 τ (d0 + k))) := by
  obtain ⟨hst, hmid, hn⟩ := h
  have hcut : x.2.1 = [] → x.1.mode = .run ∧ x.1.todo ≠ [] := fun e => by
    refine Classical.byContradiction fun hno => hn (.stop fun d => ?_)
    obtain ⟨fr, seg, w⟩ := x
    simp only at e
    subst e
    exact cut_of S hst (Classical.byContradiction fun hh => hno ⟨Classical.byContradiction fun h1 => hh (.inl h1), fun h1 => hh (.inr h1)⟩) k0 bw d
  have hg : Going x.1 x.2.1 := by
    by_cases e : x.2.1 = []
    · exact .inl (hcut e).1
    · exact .inr e
  have hE : x.2.1 = [] → ¬ OutE x.1 := fun e h => (hcut e).2 h.2
  refine ⟨hE, Classical.byContradiction fun hno => hn ?_⟩
  have hs := fun d => step_st S hF hst hg hE bw d
  let fr' := fun d => Classical.choose (hs d)
  let seg' := fun d => Classical.choose (Classical.choose_spec (hs d))
  let w' := fun d => Classical.choose (Classical.choose_spec (Classical.choose_spec (hs d)))
  let es := fun d => Classical.choose (Classical.choose_spec (Classical.choose_spec (Classical.choose_spec (hs d))))
  have sp : ∀ d, ∃ k, stepG P true (G x.1 (x.2.1 ++ bw)) (x.2.2.at d) = .go (G (fr' d) (seg' d ++ bw)) (w' d) (es d) ∧ (∀ e ∈ es d, Fine X e) ∧ St P X s OutE F (fr' d) (seg' d) (w' d) ∧ (w' d).tape = x.2.2.tape ∧ (w' d).drawn = d + k ∧
      ∀ τ d0, (∀ i q, i < k → τ (d0 + i) q = x.2.2.tape (d + i) q) → step P (lone x.1 (x.2.1 ++ [c0 P]) (pzT X x.2.2 τ d0)) = .next (lone (fr' d) (seg' d ++ [c0 P]) (pzT X (w' d) τ (d0 + k))) :=
    fun d => Classical.choose_spec (Classical.choose_spec (Classical.choose_spec (Classical.choose_spec (hs d))))
  have self : ∀ d, Full (fun _ => False) (x.2.2.at d) (x.2.2.at d) := fun d n => ⟨rfl, fun _ h => h.elim, fun _ _ => rfl, fun _ h => h.elim, hst.base.pend, rfl, rfl, fun _ _ _ => rfl⟩
  have gs := fun d => gx_step S k0 hst.top hg (fun e => (hcut e).2) hmid (self d) (sp d).choose_spec.1
  refine .step (by unfold gx; split <;> rfl) (fun d => gx k0 (fr' d) (seg' d) bw) w' es (fun d => (gs d).1) (fun d => (sp d).choose_spec.2.1) (fun d => ?_)
  refine Classical.byContradiction fun hr => hno ?_
  obtain ⟨k, _, _, a3, a4, _, a6⟩ := sp d
  exact ⟨d, k, (fr' d, seg' d, w' d), ⟨a3, (gs d).2, hr⟩, a4, a6⟩

/-- A lone run of a frame that is cut off, carried over to the whole frame. -/
theorem run_to_cut (S : SetOk P s) (hF : ∀ fe u v, Full (fun _ => False) u v → F fe u → F fe v) (k : List Item) (bw : List Frame) {fr : Frame} {w : World} (h : St P X s OutE F fr [] w) : Run P X (AtCut P X s F k bw) (G (ext k fr) bw) w :=
  Classical.byContradiction fun hn => no_chain (B0 := BadC P X s F k bw) (fun _ hx => badC_next S hF hx) ⟨h, by simp, hn⟩ h.ends
end
end Go.Proofs.Ytafgabakhaipnaa
