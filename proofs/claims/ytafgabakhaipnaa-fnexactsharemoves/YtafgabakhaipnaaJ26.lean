/- Runs carried over, 18: a frame cut off: what comes behind is not looked at. -/
import Derived.Test.YtafgabakhaipnaaJ9
import Derived.Test.YtafgabakhaipnaaJ21
import Derived.Test.YtafgabakhaipnaaJ12
namespace Go.Proofs.Ytafgabakhaipnaa
open Go.Conc

/-- More is to be done behind. -/
def ext (k : List Item) (fr : Frame) : Frame := { fr with todo := fr.todo ++ k }

section
variable {P : Program} {X : Nat → Prop} {s : Nat → Bool}

theorem exitTo_app {id : Nat} (k : List Item) : ∀ {l l' : List Item}, exitTo id l = some l' → exitTo id (l ++ k) = some (l' ++ k)
  | [], _, h => by cases h
  | it :: l, l', h => by
    cases it with
    | inBlock id' =>
      simp only [List.cons_append, exitTo] at h ⊢
      split at h
      · rename_i hc
        rw [if_pos hc]
        cases h; rfl
      · rename_i hc
        rw [if_neg hc]
        exact exitTo_app k h
    | _ => simp only [List.cons_append, exitTo] at h ⊢; exact exitTo_app k h
theorem finish_ext {fr : Frame} (k : List Item) (hne : fr.todo ≠ []) (v : Value) : (ext k fr).finish v = ext k (fr.finish v) := by
  obtain ⟨fn, tmps, todo, defers, mode, kind, rO⟩ := fr
  cases todo with
  | nil => exact absurd rfl hne
  | cons it l =>
    cases it with
    | inRegion ops ord => cases ord <;> rfl
    | _ => rfl
theorem raise_ext (k : List Item) (fr : Frame) (c : List PanicEntry) : (ext k fr).raise c = ext k (fr.raise c) := by
  obtain ⟨fn, tmps, todo, defers, mode, kind, rO⟩ := fr
  cases mode <;> rfl

theorem apply_top (S : SetOk P s) {fr : Frame} (h : FrOk P s fr) {ops : Array Oper} {l : List Nat} {k0 : List Item} (ht : fr.todo = .inRegion ops l :: k0) {q : Sem Next} (he : Ends P (fun n => Plain n ∨ ∃ f args, s f = true ∧ n = .enter f args) q)
    (hq : Sound P (fun _ => False) q) {cu : List Frame} {w : World} (hw : Full (fun _ => False) w w) {g' : Goroutine} {w' : World} {es : Array Event} (hst : stepG.apply P true fr cu none q w = .go g' w' es) :
    (∃ fr', g' = G fr' cu ∧ (∀ cw, stepG.apply P true fr cw none q w = .go (G fr' cw) w' es) ∧ ∀ k cw, stepG.apply P true (ext k fr) cw none q w = .go (G (ext k fr') cw) w' es) ∨
    (∃ fr', g' = G fr' (fr :: cu) ∧ (∀ cw, stepG.apply P true fr cw none q w = .go (G fr' (fr :: cw)) w' es) ∧ ∀ k cw, stepG.apply P true (ext k fr) cw none q w = .go (G fr' (ext k fr :: cw)) w' es) := by
  have hk : (fr.kind == CallKind.early) = false := by rw [h.kind]; rfl
  have hne : fr.todo ≠ [] := by rw [ht]; simp
  have hx : ∀ k, (ext k fr).todo = .inRegion ops l :: (k0 ++ k) := fun k => by simp [ext, ht]
  have hxk : ∀ k, ((ext k fr).kind == CallKind.early) = false := fun k => hk
  have hxf : ∀ k, (ext k fr).fn = fr.fn := fun k => rfl
  have sane := fun k w1 es => Sound.sane hq (hw 0) (k := k) (w1 := w1) (es := es)
  unfold stepG.apply at hst ⊢
  generalize hu : q.runT P w #[] = ru at hst
  simp only [hk, ht, if_true, Bool.false_eq_true, if_false] at hst
  match ru, hu, hst with
  | (.ok n u1, eu), hu, hst =>
    rcases he _ _ _ _ _ hu with (⟨v, rfl⟩ | rfl) | ⟨f, args, hf, rfl⟩ <;> simp only [GStep.after] at hst <;> cases hst
    · refine .inl ⟨fr.finish v, rfl, fun cw => ?_, fun k cw => ?_⟩
      · simp only [hk, if_true, Bool.false_eq_true, if_false, GStep.after]; rfl
      · simp only [hxk, hxf, if_true, Bool.false_eq_true, if_false, GStep.after, finish_ext k hne]; rfl
    · refine .inl ⟨fr.finish undef, rfl, fun cw => ?_, fun k cw => ?_⟩
      · simp only [hk, if_true, Bool.false_eq_true, if_false, GStep.after]; rfl
      · simp only [hxk, hxf, if_true, Bool.false_eq_true, if_false, GStep.after, finish_ext k hne]; rfl
    · refine .inr ⟨Frame.enter P f args .normal, rfl, fun cw => ?_, fun k cw => ?_⟩
      · simp only [hk, ht, if_true, Bool.false_eq_true, if_false, GStep.after]; rfl
      · simp only [hxk, hx, hxf, if_true, Bool.false_eq_true, if_false, GStep.after]; rfl
  | (.halt k u1, eu), hu, hst =>
    have h0 := sane k u1 eu hu
    cases k with
    | panic v =>
      simp only [GStep.after] at hst
      cases hst
      refine .inl ⟨fr.raise [{ v, recovered := false }], rfl, fun cw => ?_, fun k cw => ?_⟩
      · simp only [hk, if_true, Bool.false_eq_true, if_false, GStep.after]; rfl
      · simp only [hxk, hxf, if_true, Bool.false_eq_true, if_false, GStep.after, raise_ext]; rfl
    | stuck x => simp only [GStep.after] at hst; cases hst
    | unsupported x =>
      cases x with
      | initOrder g =>
        have hg : gN ≤ g := by simpa [early?] using h0
        rcases early_cases (fr := fr) S hg cu u1 with ⟨o, x, es, e⟩ | ⟨c, t, hp, hfo, e⟩
        · simp only [e, GStep.after] at hst; cases hst
        · simp only [e, GStep.after] at hst
          cases hst
          have ew : ∀ (fr : Frame) (cw : List Frame), early P fr cw none g u1 = .go (G fr cw) { u1 with heap := u1.heap.setIfInBounds g (.cells c t) } #[] := fun fr cw => by
            unfold early
            simp only [hfo, Bool.not_false, if_true, hp]
            rfl
          refine .inl ⟨fr, rfl, fun cw => ?_, fun k cw => ?_⟩
          · simp only [hk, if_true, Bool.false_eq_true, if_false, GStep.after, ew]
          · simp only [hxk, hxf, if_true, Bool.false_eq_true, if_false, GStep.after, ew]
      | _ => first | (cases h0; done) | (simp only [GStep.after] at hst; cases hst)
    | _ => cases h0

/-- One step of a frame at work does not look at its callers, nor at what is to be done far behind. -/
theorem top_step (S : SetOk P s) {fr : Frame} (h : FrOk P s fr) (hm : fr.mode = .run) {cu : List Frame} {w : World} (hw : Full (fun _ => False) w w) {g' : Goroutine} {w' : World} {es : Array Event} (hst : stepG P true (G fr cu) w = .go g' w' es) :
    (∃ fr', g' = G fr' cu ∧ (∀ cw, stepG P true (G fr cw) w = .go (G fr' cw) w' es) ∧ (fr.todo ≠ [] → ∀ k cw, stepG P true (G (ext k fr) cw) w = .go (G (ext k fr') cw) w' es)) ∨
    (∃ fr', g' = G fr' (fr :: cu) ∧ fr.todo ≠ [] ∧ (∀ cw, stepG P true (G fr cw) w = .go (G fr' (fr :: cw)) w' es) ∧ ∀ k cw, stepG P true (G (ext k fr) cw) w = .go (G fr' (ext k fr :: cw)) w' es) := by
  have hr := h.round
  have ht := h.todo
  have hmx : ∀ k, (ext k fr).mode = .run := fun k => hm
  have hrx : ∀ k, (ext k fr).roundOf = none := fun k => hr
  have still : ∀ {fr' : Frame}, (∀ cs x, stepG P true (G fr cs) x = .go (G fr' cs) x #[]) → (fr.todo ≠ [] → ∀ k cs x, stepG P true (G (ext k fr) cs) x = .go (G (ext k fr') cs) x #[]) →
      (∃ fr', g' = G fr' cu ∧ (∀ cw, stepG P true (G fr cw) w = .go (G fr' cw) w' es) ∧ (fr.todo ≠ [] → ∀ k cw, stepG P true (G (ext k fr) cw) w = .go (G (ext k fr') cw) w' es)) := fun e1 e2 => by
    rw [e1] at hst
    cases hst
    exact ⟨_, rfl, fun cw => e1 cw w, fun hne k cw => e2 hne k cw w⟩
  cases hto : fr.todo with
  | nil => exact .inl (by
      have := still (fr' := { fr with mode := .returning }) (fun cs x => by simp [stepG, stepG.exec, G, hm, hto, hr]) (fun hne => absurd hto hne)
      rwa [hto] at this)
  | cons it l =>
    rw [hto] at ht
    have hi : itemOk P s it := ht it (by simp)
    have htx : ∀ k, (ext k fr).todo = it :: (l ++ k) := fun k => by simp [ext, hto]
    rw [hto] at still
    have go1 : ∀ (l' : List Item), (∀ cs x, stepG P true (G fr cs) x = .go (G { fr with todo := l' } cs) x #[]) → (∀ k cs x, stepG P true (G (ext k fr) cs) x = .go (G { fr with todo := l' ++ k } cs) x #[]) →
        (∃ fr', g' = G fr' cu ∧ (∀ cw, stepG P true (G fr cw) w = .go (G fr' cw) w' es) ∧ (it :: l ≠ [] → ∀ k cw, stepG P true (G (ext k fr) cw) w = .go (G (ext k fr') cw) w' es)) := fun l' e1 e2 => still e1 (fun _ => e2)
    cases it with
    | inBlock id => exact .inl (go1 l (fun cs x => by simp [stepG, stepG.exec, G, hm, hto]) (fun k cs x => by simp [stepG, stepG.exec, G, ext, hm, hto]))
    | inScope b => exact .inl (go1 l (fun cs x => by simp [stepG, stepG.exec, G, hm, hto]) (fun k cs x => by simp [stepG, stepG.exec, G, ext, hm, hto]))
    | inLoop b => exact .inl (go1 (.code b :: .inLoop b :: l) (fun cs x => by simp [stepG, stepG.exec, G, hm, hto]) (fun k cs x => by simp [stepG, stepG.exec, G, ext, hm, hto]))
    | inRegion ops ord =>
      cases ord with
      | nil => exact .inl (go1 l (fun cs x => by simp [stepG, stepG.exec, G, hm, hto]) (fun k cs x => by simp [stepG, stepG.exec, G, ext, hm, hto]))
      | cons i rest =>
        have hne : fr.todo ≠ [] := by rw [hto]; simp
        cases ho : ops[i]? with
        | none => exact .inl (still (fr' := fr.finish undef) (fun cs x => by simp [stepG, stepG.exec, G, hm, hto, ho]) (fun _ k cs x => by simp [stepG, stepG.exec, G, hmx, htx, ho, finish_ext k hne]))
        | some o =>
          cases hwt : Region.wanted o (yielded ops fr.tmps) with
          | false => exact .inl (still (fr' := fr.finish undef) (fun cs x => by simp [stepG, stepG.exec, G, hm, hto, ho, hwt]) (fun _ k cs x => by
              have : Region.wanted o (yielded ops (ext k fr).tmps) = false := hwt
              simp [stepG, stepG.exec, G, hmx, htx, ho, this, finish_ext k hne]))
          | true =>
            have hoo : opOk P s o.op = true := hi i (by simp) o ho
            obtain ⟨q1, q2⟩ := ok_op (X := fun _ => False) S fr o hoo
            have e : ∀ cs x, stepG P true (G fr cs) x = stepG.apply P true fr cs none (execOp fr.eval o) x := fun cs x => by
              simp [stepG, stepG.exec, G, hm, hto, ho, hwt, stepG.oper, Frame.oper?, hr]
            have ex : ∀ k cs x, stepG P true (G (ext k fr) cs) x = stepG.apply P true (ext k fr) cs none (execOp fr.eval o) x := fun k cs x => by
              have e1 : Region.wanted o (yielded ops (ext k fr).tmps) = true := hwt
              have e2 : (ext k fr).eval = fr.eval := rfl
              simp [stepG, stepG.exec, G, hmx, htx, ho, e1, stepG.oper, Frame.oper?, hrx, e2]
            rw [e] at hst
            rcases apply_top S h hto q2 q1 hw hst with ⟨fr', a1, a2, a3⟩ | ⟨fr', a1, a2, a3⟩
            · exact .inl ⟨fr', a1, fun cw => (e cw w).trans (a2 cw), fun _ k cw => (ex k cw w).trans (a3 k cw)⟩
            · exact .inr ⟨fr', a1, by simp, fun cw => (e cw w).trans (a2 cw), fun k cw => (ex k cw w).trans (a3 k cw)⟩
    | code c =>
      have hc : codeOk P s c = true := hi
      cases c with
      | skip => exact .inl (go1 l (fun cs x => by simp [stepG, stepG.exec, G, hm, hto]) (fun k cs x => by simp [stepG, stepG.exec, G, ext, hm, hto]))
      | label b => exact .inl (go1 l (fun cs x => by simp [stepG, stepG.exec, G, hm, hto]) (fun k cs x => by simp [stepG, stepG.exec, G, ext, hm, hto]))
      | seq a b => exact .inl (go1 (.code a :: .code b :: l) (fun cs x => by simp [stepG, stepG.exec, G, hm, hto]) (fun k cs x => by simp [stepG, stepG.exec, G, ext, hm, hto]))
      | block id b => exact .inl (go1 (.code b :: .inBlock id :: l) (fun cs x => by simp [stepG, stepG.exec, G, hm, hto]) (fun k cs x => by simp [stepG, stepG.exec, G, ext, hm, hto]))
      | loop b => exact .inl (go1 (.code b :: .inLoop b :: l) (fun cs x => by simp [stepG, stepG.exec, G, hm, hto]) (fun k cs x => by simp [stepG, stepG.exec, G, ext, hm, hto]))
      | scope b => exact .inl (go1 (.code b :: .inScope b :: l) (fun cs x => by simp [stepG, stepG.exec, G, hm, hto]) (fun k cs x => by simp [stepG, stepG.exec, G, ext, hm, hto]))
      | cond c a b =>
        cases hv : fr.eval c with
        | bool t =>
          have hvx : ∀ k, (ext k fr).eval c = .bool t := fun k => hv
          exact .inl (go1 (.code (if t then a else b) :: l) (fun cs x => by simp only [stepG, stepG.exec, G, hm, hto, hv]) (fun k cs x => by simp only [stepG, stepG.exec, G, hmx, htx, hvx]; simp [ext, hm]))
        | _ => exact absurd hst (by simp only [stepG, stepG.exec, G, hm, hto, hv]; intro e; cases e)
      | ret => exact .inl (still (fr' := { fr with mode := .returning }) (fun cs x => by simp [stepG, stepG.exec, G, hm, hto, hr]) (fun _ k cs x => by simp [stepG, stepG.exec, G, ext, hm, hto, hr]))
      | exit id =>
        cases hx : exitTo id l with
        | some l' =>
          have hxx : ∀ k, exitTo id (l ++ k) = some (l' ++ k) := fun k => exitTo_app k hx
          exact .inl (go1 l' (fun cs x => by simp [stepG, stepG.exec, G, hm, hto, hx]) (fun k cs x => by simp [stepG, stepG.exec, G, ext, hm, hto, hxx]))
        | none => exact absurd hst (by simp [stepG, stepG.exec, G, hm, hto, hx, hr])
      | region id ops d =>
        cases d with
        | false => exact .inl (go1 (.inRegion ops (List.range ops.size) :: l) (fun cs x => by simp [stepG, stepG.exec, G, hm, hto]) (fun k cs x => by simp [stepG, stepG.exec, G, ext, hm, hto]))
        | true =>
          have e : ∀ cs x, stepG P true (G fr cs) x = .go (G { fr with todo := .inRegion ops (Region.schedule (P.follows .mixedOrders) ops (x.tape x.drawn (.order fr.fn id))) :: l } cs) { x with drawn := x.drawn + 1 } #[] := fun cs x => by
            simp [stepG, stepG.exec, G, hm, hto, choose, Sem.run, Question.forced, Question.cut]
          have ex : ∀ k cs x, stepG P true (G (ext k fr) cs) x = .go (G { fr with todo := .inRegion ops (Region.schedule (P.follows .mixedOrders) ops (x.tape x.drawn (.order fr.fn id))) :: (l ++ k) } cs) { x with drawn := x.drawn + 1 } #[] := fun k cs x => by
            simp [stepG, stepG.exec, G, ext, hm, hto, choose, Sem.run, Question.forced, Question.cut]
          rw [e] at hst
          cases hst
          exact .inl ⟨_, rfl, fun cw => e cw w, fun _ k cw => ex k cw w⟩
      | rangeFunc => cases hc
      | goto => cases hc
      | refuse => cases hc
    | _ => exact hi.elim
end
end Go.Proofs.Ytafgabakhaipnaa

/- The laws' copies of lists of texts and books. -/
namespace Go.Proofs.Ytafgabakhaipnaa
open Go.RowKit

theorem sizeBat : (Try.prog.info? 41).map (·.size) = some 3 := by kernel_rfl
theorem sizeBk : (Try.prog.info? 30).map (·.size) = some 2 := by kernel_rfl

set_option maxHeartbeats 1000000 in
theorem toBatch_any (x : Ba) (hv nv : Value) (w : World) (h1 : Ls w hv x.has) (h2 : Ls w nv x.needs) (hn : x.has.length ≤ 1048576) (hn2 : x.needs.length ≤ 1048576) :
    Calls Try.prog 32 #[.agg #[.string x.nm, hv, nv]] w fun e w' => (∃ hu nu, e = .returned (.agg #[.string x.nm, hu, nu]) ∧ LsO w' w.heap.size hu x.has ∧ LsO w' w.heap.size nu x.needs) ∧ Below w.heap.size w w' := by
  obtain ⟨a1, c1, rfl, -⟩ := id h1
  obtain ⟨a2, c2, rfl, -⟩ := id h2
  go_enter Try.func32, Try.ntmps32
  go_upto_region 2 with fail
  obtain ⟨W1, hW1, kP, kR, kO, hB1, hs1⟩ : ∃ W1, ((w.alloc (.cells #[.string x.nm, .slice a1 x.has.length c1, .slice a2 x.needs.length c2] 52)).alloc (.cells #[.string ⟨#[]⟩, .slice none 0 0, .slice none 0 0] 41)).alloc (.cells #[.string ⟨#[]⟩, .slice none 0 0, .slice none 0 0] 41) = W1 ∧ CB W1 w.heap.size [.string x.nm, .slice a1 x.has.length c1, .slice a2 x.needs.length c2] ∧ CB W1 (w.heap.size + 1) [.string ⟨#[]⟩, .slice none 0 0, .slice none 0 0] ∧ CB W1 (w.heap.size + 2) [.string ⟨#[]⟩, .slice none 0 0, .slice none 0 0] ∧ Below w.heap.size w W1 ∧ W1.heap.size = w.heap.size + 3 := ⟨_, rfl, cb3 w _ _ _ _ _ _⟩
  rw [hW1]
  clear hW1
  obtain ⟨W2, hW2, kP2, kR2, kO2, hB2, hs2⟩ : ∃ W2, W1.setCell ⟨w.heap.size + 2, 0, none⟩ (.string x.nm) = W2 ∧ CB W2 w.heap.size [.string x.nm, .slice a1 x.has.length c1, .slice a2 x.needs.length c2] ∧ CB W2 (w.heap.size + 1) [.string ⟨#[]⟩, .slice none 0 0, .slice none 0 0] ∧ CB W2 (w.heap.size + 2) [.string x.nm, .slice none 0 0, .slice none 0 0] ∧ Below w.heap.size w W2 ∧ W2.heap.size = w.heap.size + 3 := ⟨_, rfl, kP.other (by omega), kR.other (by omega), kO.set (j := 0) (by simp), below_set1 hB1 (by omega) _, by simpa using hs1⟩
  obtain ⟨⟨p0, p1, p2⟩, -⟩ := kP.c3
  obtain ⟨⟨o0, o1, o2⟩, f0, f1, f2⟩ := kO.c3
  go_upto_region 3 with fail
  try rw [hW2]
  clear hW2 p0 p1 p2 o0 o1 o2 f0 f1 f2 kP kR kO hB1 hs1
  obtain ⟨⟨p0, p1, p2⟩, -⟩ := kP2.c3
  go_wp2_with fail
  refine (toStr_any x.has _ _ (h1.up hB2) hn).mono ?_
  rintro e w3 ⟨⟨hu, rfl, ho1⟩, hb3⟩
  rw [hs2] at ho1
  have hz3 := hb3.size
  have kP3 := kP2.up hb3 (by omega)
  have kR3 := kR2.up hb3 (by omega)
  have kO3 := kO2.up hb3 (by omega)
  have hB3 := up_trans hB2 hb3
  obtain ⟨b1, hb1⟩ := ho1.shape
  subst hb1
  clear p0 p1 p2 kP2 kR2 kO2 hB2 hb3
  obtain ⟨W4, hW4, kP4, kR4, kO4, ho4, hB4, hs4⟩ : ∃ W4, w3.setCell ⟨w.heap.size + 2, 1, none⟩ (.slice (some ⟨b1, 0, none⟩) x.has.length x.has.length) = W4 ∧ CB W4 w.heap.size [.string x.nm, .slice a1 x.has.length c1, .slice a2 x.needs.length c2] ∧ CB W4 (w.heap.size + 1) [.string ⟨#[]⟩, .slice none 0 0, .slice none 0 0] ∧ CB W4 (w.heap.size + 2) [.string x.nm, .slice (some ⟨b1, 0, none⟩) x.has.length x.has.length, .slice none 0 0] ∧ LsO W4 (w.heap.size + 3) (.slice (some ⟨b1, 0, none⟩) x.has.length x.has.length) x.has ∧ Below w.heap.size w W4 ∧ W4.heap.size = w3.heap.size := ⟨_, rfl, kP3.other (by omega), kR3.other (by omega), kO3.set (j := 1) (by simp), ho1.set (by omega), below_set1 hB3 (by omega) _, by simp⟩
  obtain ⟨⟨o0, o1, o2⟩, f0, f1, f2⟩ := kO3.c3
  go_upto_region 4 with fail
  try rw [hW4]
  clear hW4 o0 o1 o2 f0 f1 f2 kP3 kR3 kO3 ho1 hB3
  obtain ⟨⟨p0, p1, p2⟩, -⟩ := kP4.c3
  go_wp2_with fail
  refine (toStr_any x.needs _ _ (h2.up hB4) hn2).mono ?_
  rintro e w5 ⟨⟨nu, rfl, ho2⟩, hb5⟩
  have hz5 := hb5.size
  have kR5 := kR4.up hb5 (by omega)
  have kO5 := kO4.up hb5 (by omega)
  have ho5 := ho4.up hb5
  have ho6 := ho2.low (base' := w.heap.size + 3) (by omega)
  have hB5 := up_trans hB4 hb5
  obtain ⟨b2, hb2⟩ := ho2.shape
  subst hb2
  clear p0 p1 p2 kP4 kR4 kO4 hB4 hb5 ho4 ho2
  obtain ⟨⟨o0, o1, o2⟩, f0, f1, f2⟩ := kO5.c3
  obtain ⟨⟨r0, r1, r2⟩, g0, g1, g2⟩ := kR5.c3
  have hR6 := kR5.other (q := w.heap.size + 2) (j := 2) (u := .slice (some ⟨b2, 0, none⟩) x.needs.length x.needs.length) (by omega)
  go_wp2_with fail
  refine end_cb3 Try.results32 Try.underlying41 rfl sizeBat hR6 rfl ?_
  refine ⟨⟨_, _, rfl, ?_, ?_⟩, below_set3 (below_set1 hB5 (by omega) _) (by omega) _ _ _⟩
  · exact ((((ho5.set (by omega)).set (by omega)).set (by omega)).set (by omega)).low (by omega)
  · exact ((((ho6.set (by omega)).set (by omega)).set (by omega)).set (by omega)).low (by omega)
end Go.Proofs.Ytafgabakhaipnaa
