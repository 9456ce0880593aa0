/- Runs carried over, 18: a frame cut off: what comes behind is not looked at. -/
import Derived.Test.YtmkpaciaollcbaaJ25
import Derived.Test.YtmkpaciaollcbaaJ0
import Derived.Laws.IdiomStrings
namespace Go.Proofs.Ytmkpaciaollcbaa
open Go.Conc

/-- More is to be done behind. -/
def ext (k : List Item) (fr : Frame) : Frame := { fr with todo := fr.todo ++ k }

section
variable {P : Program} {X : Nat → Prop} {s : Nat → Bool}

theorem exitTo_app {id : Nat} (k : List Item) : ∀ {l l' : List Item}, exitTo id l = some l' → exitTo id (l ++ k) = some (l' ++ k)
  | [], _, h => by cases h
  | it :: l, l', h => by
    cases it with
    | inBlock id' =>
      simp only [List.cons_append, exitTo] at h ⊢
      split at h
      · rename_i hc
        rw [if_pos hc]
        cases h; rfl
      · rename_i hc
        rw [if_neg hc]
        exact exitTo_app k h
    | _ => simp only [List.cons_append, exitTo] at h ⊢; exact exitTo_app k h
theorem finish_ext {fr : Frame} (k : List Item) (hne : fr.todo ≠ []) (v : Value) : (ext k fr).finish v = ext k (fr.finish v) := by
  obtain ⟨fn, tmps, todo, defers, mode, kind, rO⟩ := fr
  cases todo with
  | nil => exact absurd rfl hne
  | cons it l =>
    cases it with
    | inRegion ops ord => cases ord <;> rfl
    | _ => rfl
theorem raise_ext (k : List Item) (fr : Frame) (c : List PanicEntry) : (ext k fr).raise c = ext k (fr.raise c) := by
  obtain ⟨fn, tmps, todo, defers, mode, kind, rO⟩ := fr
  cases mode <;> rfl

theorem apply_top (S : SetOk P s) {fr : Frame} (h : FrOk P s fr) {ops : Array Oper} {l : List Nat} {k0 : List Item} (ht : fr.todo = .inRegion ops l :: k0) {q : Sem Next} (he : Ends P (fun n => Plain n ∨ ∃ f args, s f = true ∧ n = .enter f args) q)
    (hq : Sound P (fun _ => False) q) {cu : List Frame} {w : World} (hw : Full (fun _ => False) w w) {g' : Goroutine} {w' : World} {es : Array Event} (hst : stepG.apply P true fr cu none q w = .go g' w' es) :
    (∃ fr', g' = G fr' cu ∧ (∀ cw, stepG.apply P true fr cw none q w = .go (G fr' cw) w' es) ∧ ∀ k cw, stepG.apply P true (ext k fr) cw none q w = .go (G (ext k fr') cw) w' es) ∨
    (∃ fr', g' = G fr' (fr :: cu) ∧ (∀ cw, stepG.apply P true fr cw none q w = .go (G fr' (fr :: cw)) w' es) ∧ ∀ k cw, stepG.apply P true (ext k fr) cw none q w = .go (G fr' (ext k fr :: cw)) w' es) := by
  have hk : (fr.kind == CallKind.early) = false := by rw [h.kind]; rfl
  have hne : fr.todo ≠ [] := by rw [ht]; simp
  have hx : ∀ k, (ext k fr).todo = .inRegion ops l :: (k0 ++ k) := fun k => by simp [ext, ht]
  have hxk : ∀ k, ((ext k fr).kind == CallKind.early) = false := fun k => hk
  have hxf : ∀ k, (ext k fr).fn = fr.fn := fun k => rfl
  have sane := fun k w1 es => Sound.sane hq (hw 0) (k := k) (w1 := w1) (es := es)
  unfold stepG.apply at hst ⊢
  generalize hu : q.runT P w #[] = ru at hst
  simp only [hk, ht, if_true, Bool.false_eq_true, if_false] at hst
  match ru, hu, hst with
  | (.ok n u1, eu), hu, hst =>
    rcases he _ _ _ _ _ hu with (⟨v, rfl⟩ | rfl) | ⟨f, args, hf, rfl⟩ <;> simp only [GStep.after] at hst <;> cases hst
    · refine .inl ⟨fr.finish v, rfl, fun cw => ?_, fun k cw => ?_⟩
      · simp only [hk, if_true, Bool.false_eq_true, if_false, GStep.after]; rfl
      · simp only [hxk, hxf, if_true, Bool.false_eq_true, if_false, GStep.after, finish_ext k hne]; rfl
    · refine .inl ⟨fr.finish undef, rfl, fun cw => ?_, fun k cw => ?_⟩
      · simp only [hk, if_true, Bool.false_eq_true, if_false, GStep.after]; rfl
      · simp only [hxk, hxf, if_true, Bool.false_eq_true, if_false, GStep.after, finish_ext k hne]; rfl
    · refine .inr ⟨Frame.enter P f args .normal, rfl, fun cw => ?_, fun k cw => ?_⟩
      · simp only [hk, ht, if_true, Bool.false_eq_true, if_false, GStep.after]; rfl
      · simp only [hxk, hx, hxf, if_true, Bool.false_eq_true, if_false, GStep.after]; rfl
  | (.halt k u1, eu), hu, hst =>
    have h0 := sane k u1 eu hu
    cases k with
    | panic v =>
      simp only [GStep.after] at hst
      cases hst
      refine .inl ⟨fr.raise [{ v, recovered := false }], rfl, fun cw => ?_, fun k cw => ?_⟩
      · simp only [hk, if_true, Bool.false_eq_true, if_false, GStep.after]; rfl
      · simp only [hxk, hxf, if_true, Bool.false_eq_true, if_false, GStep.after, raise_ext]; rfl
    | stuck x => simp only [GStep.after] at hst; cases hst
    | unsupported x =>
      cases x with
      | initOrder g =>
        have hg : gN ≤ g := by simpa [early?] using h0
        rcases early_cases (fr := fr) S hg cu u1 with ⟨o, x, es, e⟩ | ⟨c, t, hp, hfo, e⟩
        · simp only [e, GStep.after] at hst; cases hst
        · simp only [e, GStep.after] at hst
          cases hst
          have ew : ∀ (fr : Frame) (cw : List Frame), early P fr cw none g u1 = .go (G fr cw) { u1 with heap := u1.heap.setIfInBounds g (.cells c t) } #[] := fun fr cw => by
            unfold early
            simp only [hfo, Bool.not_false, if_true, hp]
            rfl
          refine .inl ⟨fr, rfl, fun cw => ?_, fun k cw => ?_⟩
          · simp only [hk, if_true, Bool.false_eq_true, if_false, GStep.after, ew]
          · simp only [hxk, hxf, if_true, Bool.false_eq_true, if_false, GStep.after, ew]
      | _ => first | (cases h0; done) | (simp only [GStep.after] at hst; cases hst)
    | _ => cases h0

/-- One step of a frame at work does not look at its callers, nor at what is to be done far behind. -/
theorem top_step (S : SetOk P s) {fr : Frame} (h : FrOk P s fr) (hm : fr.mode = .run) {cu : List Frame} {w : World} (hw : Full (fun _ => False) w w) {g' : Goroutine} {w' : World} {es : Array Event} (hst : stepG P true (G fr cu) w = .go g' w' es) :
    (∃ fr', g' = G fr' cu ∧ (∀ cw, stepG P true (G fr cw) w = .go (G fr' cw) w' es) ∧ (fr.todo ≠ [] → ∀ k cw, stepG P true (G (ext k fr) cw) w = .go (G (ext k fr') cw) w' es)) ∨
    (∃ fr', g' = G fr' (fr :: cu) ∧ fr.todo ≠ [] ∧ (∀ cw, stepG P true (G fr cw) w = .go (G fr' (fr :: cw)) w' es) ∧ ∀ k cw, stepG P true (G (ext k fr) cw) w = .go (G fr' (ext k fr :: cw)) w' es) := by
  have hr := h.round
  have ht := h.todo
  have hmx : ∀ k, (ext k fr).mode = .run := fun k => hm
  have hrx : ∀ k, (ext k fr).roundOf = none := fun k => hr
  have still : ∀ {fr' : Frame}, (∀ cs x, stepG P true (G fr cs) x = .go (G fr' cs) x #[]) → (fr.todo ≠ [] → ∀ k cs x, stepG P true (G (ext k fr) cs) x = .go (G (ext k fr') cs) x #[]) →
      (∃ fr', g' = G fr' cu ∧ (∀ cw, stepG P true (G fr cw) w = .go (G fr' cw) w' es) ∧ (fr.todo ≠ [] → ∀ k cw, stepG P true (G (ext k fr) cw) w = .go (G (ext k fr') cw) w' es)) := fun e1 e2 => by
    rw [e1] at hst
    cases hst
    exact ⟨_, rfl, fun cw => e1 cw w, fun hne k cw => e2 hne k cw w⟩
  cases hto : fr.todo with
  | nil => exact .inl (by
      have := still (fr' := { fr with mode := .returning }) (fun cs x => by simp [stepG, stepG.exec, G, hm, hto, hr]) (fun hne => absurd hto hne)
      rwa [hto] at this)
  | cons it l =>
    rw [hto] at ht
    have hi : itemOk P s it := ht it (by simp)
    have htx : ∀ k, (ext k fr).todo = it :: (l ++ k) := fun k => by simp [ext, hto]
    rw [hto] at still
    have go1 : ∀ (l' : List Item), (∀ cs x, stepG P true (G fr cs) x = .go (G { fr with todo := l' } cs) x #[]) → (∀ k cs x, stepG P true (G (ext k fr) cs) x = .go (G { fr with todo := l' ++ k } cs) x #[]) →
        (∃ fr', g' = G fr' cu ∧ (∀ cw, stepG P true (G fr cw) w = .go (G fr' cw) w' es) ∧ (it :: l ≠ [] → ∀ k cw, stepG P true (G (ext k fr) cw) w = .go (G (ext k fr') cw) w' es)) := fun l' e1 e2 => still e1 (fun _ => e2)
    cases it with
    | inBlock id => exact .inl (go1 l (fun cs x => by simp [stepG, stepG.exec, G, hm, hto]) (fun k cs x => by simp [stepG, stepG.exec, G, ext, hm, hto]))
    | inScope b => exact .inl (go1 l (fun cs x => by simp [stepG, stepG.exec, G, hm, hto]) (fun k cs x => by simp [stepG, stepG.exec, G, ext, hm, hto]))
    | inLoop b => exact .inl (go1 (.code b :: .inLoop b :: l) (fun cs x => by simp [stepG, stepG.exec, G, hm, hto]) (fun k cs x => by simp [stepG, stepG.exec, G, ext, hm, hto]))
    | inRegion ops ord =>
      cases ord with
      | nil => exact .inl (go1 l (fun cs x => by simp [stepG, stepG.exec, G, hm, hto]) (fun k cs x => by simp [stepG, stepG.exec, G, ext, hm, hto]))
      | cons i rest =>
        have hne : fr.todo ≠ [] := by rw [hto]; simp
        cases ho : ops[i]? with
        | none => exact .inl (still (fr' := fr.finish undef) (fun cs x => by simp [stepG, stepG.exec, G, hm, hto, ho]) (fun _ k cs x => by simp [stepG, stepG.exec, G, hmx, htx, ho, finish_ext k hne]))
        | some o =>
          cases hwt : Region.wanted o (yielded ops fr.tmps) with
          | false => exact .inl (still (fr' := fr.finish undef) (fun cs x => by simp [stepG, stepG.exec, G, hm, hto, ho, hwt]) (fun _ k cs x => by
              have : Region.wanted o (yielded ops (ext k fr).tmps) = false := hwt
              simp [stepG, stepG.exec, G, hmx, htx, ho, this, finish_ext k hne]))
          | true =>
            have hoo : opOk P s o.op = true := hi i (by simp) o ho
            obtain ⟨q1, q2⟩ := ok_op (X := fun _ => False) S fr o hoo
            have e : ∀ cs x, stepG P true (G fr cs) x = stepG.apply P true fr cs none (execOp fr.eval o) x := fun cs x => by
              simp [stepG, stepG.exec, G, hm, hto, ho, hwt, stepG.oper, Frame.oper?, hr]
            have ex : ∀ k cs x, stepG P true (G (ext k fr) cs) x = stepG.apply P true (ext k fr) cs none (execOp fr.eval o) x := fun k cs x => by
              have e1 : Region.wanted o (yielded ops (ext k fr).tmps) = true := hwt
              have e2 : (ext k fr).eval = fr.eval := rfl
              simp [stepG, stepG.exec, G, hmx, htx, ho, e1, stepG.oper, Frame.oper?, hrx, e2]
            rw [e] at hst
            rcases apply_top S h hto q2 q1 hw hst with ⟨fr', a1, a2, a3⟩ | ⟨fr', a1, a2, a3⟩
            · exact .inl ⟨fr', a1, fun cw => (e cw w).trans (a2 cw), fun _ k cw => (ex k cw w).trans (a3 k cw)⟩
            · exact .inr ⟨fr', a1, by simp, fun cw => (e cw w).trans (a2 cw), fun k cw => (ex k cw w).trans (a3 k cw)⟩
    | code c =>
      have hc : codeOk P s c = true := hi
      cases c with
      | skip => exact .inl (go1 l (fun cs x => by simp [stepG, stepG.exec, G, hm, hto]) (fun k cs x => by simp [stepG, stepG.exec, G, ext, hm, hto]))
      | label b => exact .inl (go1 l (fun cs x => by simp [stepG, stepG.exec, G, hm, hto]) (fun k cs x => by simp [stepG, stepG.exec, G, ext, hm, hto]))
      | seq a b => exact .inl (go1 (.code a :: .code b :: l) (fun cs x => by simp [stepG, stepG.exec, G, hm, hto]) (fun k cs x => by simp [stepG, stepG.exec, G, ext, hm, hto]))
      | block id b => exact .inl (go1 (.code b :: .inBlock id :: l) (fun cs x => by simp [stepG, stepG.exec, G, hm, hto]) (fun k cs x => by simp [stepG, stepG.exec, G, ext, hm, hto]))
      | loop b => exact .inl (go1 (.code b :: .inLoop b :: l) (fun cs x => by simp [stepG, stepG.exec, G, hm, hto]) (fun k cs x => by simp [stepG, stepG.exec, G, ext, hm, hto]))
      | scope b => exact .inl (go1 (.code b :: .inScope b :: l) (fun cs x => by simp [stepG, stepG.exec, G, hm, hto]) (fun k cs x => by simp [stepG, stepG.exec, G, ext, hm, hto]))
      | cond c a b =>
        cases hv : fr.eval c with
        | bool t =>
          have hvx : ∀ k, (ext k fr).eval c = .bool t := fun k => hv
          exact .inl (go1 (.code (if t then a else b) :: l) (fun cs x => by simp only [stepG, stepG.exec, G, hm, hto, hv]) (fun k cs x => by simp only [stepG, stepG.exec, G, hmx, htx, hvx]; simp [ext, hm]))
        | _ => exact absurd hst (by simp only [stepG, stepG.exec, G, hm, hto, hv]; intro e; cases e)
      | ret => exact .inl (still (fr' := { fr with mode := .returning }) (fun cs x => by simp [stepG, stepG.exec, G, hm, hto, hr]) (fun _ k cs x => by simp [stepG, stepG.exec, G, ext, hm, hto, hr]))
      | exit id =>
        cases hx : exitTo id l with
        | some l' =>
          have hxx : ∀ k, exitTo id (l ++ k) = some (l' ++ k) := fun k => exitTo_app k hx
          exact .inl (go1 l' (fun cs x => by simp [stepG, stepG.exec, G, hm, hto, hx]) (fun k cs x => by simp [stepG, stepG.exec, G, ext, hm, hto, hxx]))
        | none => exact absurd hst (by simp [stepG, stepG.exec, G, hm, hto, hx, hr])
      | region id ops d =>
        cases d with
        | false => exact .inl (go1 (.inRegion ops (List.range ops.size) :: l) (fun cs x => by simp [stepG, stepG.exec, G, hm, hto]) (fun k cs x => by simp [stepG, stepG.exec, G, ext, hm, hto]))
        | true =>
          have e : ∀ cs x, stepG P true (G fr cs) x = .go (G { fr with todo := .inRegion ops (Region.schedule (P.follows .mixedOrders) ops (x.tape x.drawn (.order fr.fn id))) :: l } cs) { x with drawn := x.drawn + 1 } #[] := fun cs x => by
            simp [stepG, stepG.exec, G, hm, hto, choose, Sem.run, Question.forced, Question.cut]
          have ex : ∀ k cs x, stepG P true (G (ext k fr) cs) x = .go (G { fr with todo := .inRegion ops (Region.schedule (P.follows .mixedOrders) ops (x.tape x.drawn (.order fr.fn id))) :: (l ++ k) } cs) { x with drawn := x.drawn + 1 } #[] := fun k cs x => by
            simp [stepG, stepG.exec, G, ext, hm, hto, choose, Sem.run, Question.forced, Question.cut]
          rw [e] at hst
          cases hst
          exact .inl ⟨_, rfl, fun cw => e cw w, fun _ k cw => ex k cw w⟩
      | rangeFunc => cases hc
      | goto => cases hc
      | refuse => cases hc
    | _ => exact hi.elim
end
end Go.Proofs.Ytmkpaciaollcbaa

/- The laws' marks: a text of a number. -/
namespace Go.Proofs.Ytmkpaciaollcbaa
open Go.RowKit

def mkD (k : Nat) (out : ByteArray) : ByteArray := if k = 0 then out else mkD (k / 10) (⟨#[48 + UInt8.ofNat (k % 10)]⟩ ++ out)
termination_by k
decreasing_by omega
def mkB (k : Int) : ByteArray := if k ≤ 0 then ⟨#[109, 48]⟩ else ⟨#[109]⟩ ++ mkD k.toNat ⟨#[]⟩
theorem mkD_size : ∀ (k : Nat) (out : ByteArray), (mkD k out).size ≤ out.size + k := by
  intro k
  induction k using Nat.strongRecOn with
  | ind k ih =>
    intro out
    unfold mkD
    split
    · omega
    · have := ih (k / 10) (by omega) (⟨#[48 + UInt8.ofNat (k % 10)]⟩ ++ out)
      rw [ByteArray.size_append] at this
      have h1 : (⟨#[48 + UInt8.ofNat (k % 10)]⟩ : ByteArray).size = 1 := rfl
      omega
theorem byte_str (w : World) (x : Int) (h0 : 0 ≤ x) (h1 : x < 256) :
    (convert 80 9 (.slice (some ⟨w.heap.size, 0, none⟩) 1 1)).run Try.prog (w.alloc (.cells #[.int .u8 x] 5)) = .ok (.string ⟨#[UInt8.ofNat x.toNat]⟩) (w.alloc (.cells #[.int .u8 x] 5)) := by
  refine run_convert_bytes_back (P := Try.prog) (w.alloc (.cells #[.int .u8 x] 5)) 80 9 5 ⟨w.heap.size, 0, none⟩ 1 [UInt8.ofNat x.toNat] Try.underlying80 Try.underlying5 Try.underlying9 (fun j hj => ?_)
  obtain rfl : j = 0 := by simpa using hj
  have e : ((UInt8.ofNat x.toNat).toNat : Int) = x := by
    rw [UInt8.toNat_ofNat']; omega
  simp only [List.getElem_cons_zero, e]
  simp [go_sem, Addr.add]

set_option maxRecDepth 20000 in
set_option maxHeartbeats 1000000 in
theorem mark_any (k : Int) (w : World) (hk : k ≤ 9000000000000000000) :
    Calls Try.prog 28 #[.int .i64 k] w fun e w' => e = .returned (.string (mkB k)) ∧ Below w.heap.size w w' := by
  by_cases h0 : k ≤ 0
  · have HV : Hid (mkB k = ⟨#[109, 48]⟩) := by show _ = _; rw [mkB, if_pos h0]
    go_enter Try.func28, Try.ntmps28
    go_wp2_with fail
    go_ret
    exact ⟨by rw [HV.out]; rfl, Below.refl _ _⟩
  obtain ⟨K, rfl⟩ : ∃ K : Nat, k = (K : Int) := ⟨k.toNat, by omega⟩
  have HV : Hid (mkB K = ⟨#[109]⟩ ++ mkD K ⟨#[]⟩) := by show _ = _; rw [mkB, if_neg h0]; rfl
  go_enter Try.func28, Try.ntmps28
  go_wp2_with fail
  go_loopw [0, 3] (fun kk o w' => ∃ (n j : Nat) (s : ByteArray), kk = .int .i64 (n : Int) ∧ o = .string s ∧ mkD n s = mkD K ⟨#[]⟩ ∧ n < 10 ^ j ∧ s.size + j ≤ 19 ∧ n ≤ K ∧ Below w.heap.size w w') (fun kk _ _ => (intOf kk).toNat)
  case atStart => exact ⟨K, 19, ⟨#[]⟩, rfl, rfl, rfl, by omega, Nat.le_refl _, Nat.le_refl _, Below.refl _ _⟩
  case round =>
    obtain ⟨n, j, s, rfl, rfl, hm, hj, hs, hnK, hB⟩ := hrel
    have Hj : Hid (n < 10 ^ j) := hj
    clear hj
    have Hm : Hid (mkD n s = mkD K ⟨#[]⟩) := hm
    clear hm
    by_cases hn : n = 0
    · subst hn
      go_wp2_with fail
      go_ret
      have h9 := Hm.out
      unfold mkD at h9
      rw [if_pos rfl] at h9
      refine ⟨?_, hB⟩
      rw [HV.out]
      unfold mkD
      rw [← h9]; rfl
    · have hcv := byte_str wr (48 + (n : Int) % 10) (by omega) (by omega)
      have He : Hid (mkD n s = mkD (n / 10) (⟨#[48 + UInt8.ofNat (n % 10)]⟩ ++ s)) := by
        show _ = _
        rw [mkD, if_neg hn]
      have Hj2 : Hid (∃ i, j = i + 1 ∧ n / 10 < 10 ^ i) := by
        have h := Hj.out
        rcases j with _ | i
        · rw [Nat.pow_zero] at h; omega
        · rw [Nat.pow_succ] at h
          refine ⟨i, rfl, ?_⟩
          generalize 10 ^ i = q at h ⊢
          omega
      go_wp2_with fail
      obtain ⟨i, rfl, hi⟩ := Hj2.out
      refine ⟨⟨n / 10, i, ⟨#[48 + UInt8.ofNat (n % 10)]⟩ ++ s, by rw [Int.natCast_ediv]; rfl, rfl, by rw [← He.out]; exact Hm.out, hi, ?_, by omega, hB.alloc hB.size _⟩, by simp only [intOf]; omega⟩
      rw [ByteArray.size_append]
      have h1 : (⟨#[48 + UInt8.ofNat (n % 10)]⟩ : ByteArray).size = 1 := rfl
      omega
end Go.Proofs.Ytmkpaciaollcbaa
