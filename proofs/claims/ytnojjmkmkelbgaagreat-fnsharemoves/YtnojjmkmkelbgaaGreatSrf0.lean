/- A loop over a function, step by step: what a goroutine does, what it lists. -/
import Derived.Test.YtnojjmkmkelbgaaGreatJ26
import Derived.RangeFuncRecord
import Derived.AtR
import Derived.Conc.CrowdRun
import Derived.Conc.Walk
namespace Go.Proofs.YtnojjmkmkelbgaaGreat
open Go.Conc

/-- Of an object alone. -/
def OfObj (l : Nat) (es : Array Event) : Prop := ∀ e ∈ es, e.loc = .obj l
theorem mem_seenO {P : Program} {f : FuncId} {es : Array Event} {l : Nat} (h : OfObj l es) : OfObj l (seen P f es) := fun e he => h e (mem_seen he)

section
variable {P : Program} {l : Nat} {α β : Type}
/-- A term that lists that object alone. -/
def EvO (P : Program) (l : Nat) (q : Sem α) : Prop := ∀ w es, ∀ e ∈ q.events P w es, e ∈ es ∨ e.loc = .obj l
theorem evO_pure (a : α) : EvO P l (Pure.pure a : Sem α) := fun _ _ _ h => .inl h
theorem evO_halt (k : Halt) : EvO P l (Sem.halt k : Sem α) := fun _ _ _ h => .inl h
theorem evO_bind {q : Sem α} {f : α → Sem β} (h : EvO P l q) (hf : ∀ a, EvO P l (f a)) : EvO P l (q >>= f) := fun w es e he => by
  have he : e ∈ ((q.bind f).runT P w es).2 := he
  rw [Sem.runT_bind'] at he
  have hq := h w es
  unfold Sem.events at hq
  generalize q.runT P w es = r at he hq
  match r, he, hq with
  | (.ok a w1, e1), he, hq => exact (hf a w1 e1 e he).elim (hq e) .inr
  | (.halt k w1, e1), he, hq => exact hq e he
theorem evO_get {k : Obj → Sem α} (hk : ∀ o, EvO P l (k o)) : EvO P l (Sem.getObj l k) := fun w es e he => by
  unfold Sem.events at he
  simp only [Sem.runT] at he
  split at he
  · exact .inl he
  · rcases hk _ _ _ e he with h | h
    · rcases Array.mem_push.1 h with h | rfl
      · exact .inl h
      · exact .inr rfl
    · exact .inr h
  · exact .inl he
theorem evO_set {o : Obj} {k : Sem α} (hk : EvO P l k) : EvO P l (Sem.setObj l o k) := fun w es e he => by
  unfold Sem.events at he
  simp only [Sem.runT] at he
  split at he
  · exact .inl he
  · rcases hk _ _ e he with h | h
    · rcases Array.mem_push.1 h with h | rfl
      · exact .inl h
      · exact .inr rfl
    · exact .inr h
  · exact .inl he
theorem evO_program {k : Program → Sem α} (hk : EvO P l (k P)) : EvO P l (Sem.program k) := fun w es e he => hk w es e he
theorem evO_panic (m : String) : EvO P l (runtimePanic (.error m) : Sem α) := evO_program (k := fun p => goPanic (.iface p.rt.errorString (strVal m))) (evO_halt _)
theorem evO_loop : EvO P l (Instr.getLoop l) := by
  unfold Instr.getLoop
  refine evO_bind (evO_get fun o => evO_pure o) fun o => ?_
  cases o <;> first | exact evO_pure _ | exact evO_halt _
theorem evO_setO (o : Obj) : EvO P l (setObj l o) := evO_set (evO_pure ())
theorem evO_getO : EvO P l (getObj l) := evO_get fun o => evO_pure o
theorem evO_begin : EvO P l (Instr.beginRound l) := by
  unfold Instr.beginRound
  refine evO_bind evO_loop fun r => evO_bind (evO_setO _) fun _ => ?_
  split <;> first | exact evO_pure _ | exact evO_panic _
theorem evO_over : EvO P l (Instr.endLoop l) := by
  unfold Instr.endLoop
  refine evO_bind evO_loop fun r => ?_
  split
  · exact evO_bind (evO_panic _) fun _ => evO_bind (evO_setO _) fun _ => evO_pure _
  · exact evO_bind (evO_setO _) fun _ => evO_pure _
theorem evO_end (j : Option Code) : EvO P l (Instr.endRound l j) := evO_bind evO_loop fun _ => evO_bind (evO_setO _) fun _ => evO_pure _
theorem evO_take : EvO P l (Instr.takeDeferred l) := by
  unfold Instr.takeDeferred
  refine evO_bind evO_getO fun o => ?_
  cases o <;> first | exact evO_halt _ | skip
  rename_i x
  cases x <;> first | exact evO_halt _ | exact evO_bind (evO_setO _) fun _ => evO_pure _
theorem evO_yield (args : Array Value) : EvO P l (Instr.yield l args) := by
  unfold Instr.yield
  refine evO_bind evO_loop fun r => ?_
  split
  · exact evO_bind (evO_halt _) fun _ => evO_pure _
  · exact evO_pure _
theorem evO_of {q : Sem α} (h : EvO P l q) (w : World) : OfObj l (q.events P w #[]) := fun e he => (h w #[] e he).elim (fun h => by simp at h) id
end

section
variable {P : Program} {main : Bool} {b : Frame} {a : Act} {k : List Item} {cs : List Frame} {w : World} {l : Nat}
theorem rnd_seq {x y : Code} : stepG P main (G (b.atR a (.code (.seq x y) :: k)) cs) w = .go (G (b.atR a (.code x :: .code y :: k)) cs) w #[] := by simp [G, stepG, stepG.exec, Frame.atR]
theorem rnd_region {id : Nat} {ops : Array Oper} : stepG P main (G (b.atR a (.code (.region id ops false) :: k)) cs) w = .go (G (b.atR a (.inRegion ops (List.range ops.size) :: k)) cs) w #[] := by simp [G, stepG, stepG.exec, Frame.atR]
theorem rnd_region_end {ops : Array Oper} : stepG P main (G (b.atR a (.inRegion ops [] :: k)) cs) w = .go (G (b.atR a k) cs) w #[] := by simp [G, stepG, stepG.exec, Frame.atR]
theorem rnd_block {id : Nat} {c : Code} : stepG P main (G (b.atR a (.code (.block id c) :: k)) cs) w = .go (G (b.atR a (.code c :: .inBlock id :: k)) cs) w #[] := by simp [G, stepG, stepG.exec, Frame.atR]
theorem rnd_inBlock {id : Nat} : stepG P main (G (b.atR a (.inBlock id :: k)) cs) w = .go (G (b.atR a k) cs) w #[] := by simp [G, stepG, stepG.exec, Frame.atR]
theorem rnd_skip : stepG P main (G (b.atR a (.code .skip :: k)) cs) w = .go (G (b.atR a k) cs) w #[] := by simp [G, stepG, stepG.exec, Frame.atR]
theorem rnd_cond {c : Operand} {x y : Code} {t : Bool} (h : a.eval c = .bool t) : stepG P main (G (b.atR a (.code (.cond c x y) :: k)) cs) w = .go (G (b.atR a (.code (if t then x else y) :: k)) cs) w #[] := by
  have he := Frame.eval_atR b a (.code (.cond c x y) :: k)
  simp only [Frame.atR] at he
  simp [G, stepG, stepG.exec, Frame.atR, he, h]

theorem rnd_oper {ops : Array Oper} {i : Nat} {rest : List Nat} {o : Oper} (ho : ops[i]? = some o) (hw : Region.wanted o (yielded ops a.tmps) = true) (hd : ∀ c, o.op ≠ .defer c) :
    stepG P main (G (b.atR a (.inRegion ops (i :: rest) :: k)) cs) w = stepG.apply P true (b.atR a (.inRegion ops (i :: rest) :: k)) cs none (execOp a.eval o) w := by
  have he := Frame.eval_atR b a (.inRegion ops (i :: rest) :: k)
  simp only [Frame.atR] at he
  simp only [G, stepG, stepG.exec, stepG.oper, Frame.oper?, Frame.atR, ho, Option.map_some, Option.getD_some, hw, if_true, he]
  cases b.roundOf with
  | none => rfl
  | some l =>
    cases hop : o.op <;> first | rfl | exact absurd hop (hd _)
theorem rnd_finish {ops : Array Oper} {i : Nat} {rest : List Nat} {o : Oper} (ho : ops[i]? = some o) (v : Value) : (b.atR a (.inRegion ops (i :: rest) :: k)).finish v = b.atR (a.put o.dst v) (.inRegion ops rest :: k) := by
  simp only [Frame.finish, Frame.atR, ho, Option.bind_some]
  cases o.dst <;> simp [Act.put]
theorem goes_rnd_k {ops : Array Oper} {i : Nat} {rest : List Nat} {o : Oper} {K : Goroutine → World → Array Event → Prop}
    (ho : ops[i]? = some o) (hw : Region.wanted o (yielded ops a.tmps) = true) (hk : b.kind ≠ .early) (hd : ∀ c, o.op ≠ .defer c)
    (h : ∀ K' : Act → World → Prop, (∀ a' w', K (G (b.atR a' (.inRegion ops rest :: k)) cs) w' (listed P b.fn a o w) → K' a' w') → uponK o a K' ((execOp a.eval o).run P w)) :
    (stepG P main (G (b.atR a (.inRegion ops (i :: rest) :: k)) cs) w).goes K := by
  have := h (fun a' w' => K (G (b.atR a' (.inRegion ops rest :: k)) cs) w' (listed P b.fn a o w)) (fun _ _ x => x)
  have hk' : (b.kind == CallKind.early) = false := by simpa using hk
  generalize hr : (execOp a.eval o).run P w = r at this
  rw [rnd_oper ho hw hd]
  match r, this with
  | .ok (.value v) w', h =>
    have hf := rnd_finish (b := b) (a := a) (k := k) (rest := rest) ho v
    simp only [uponK_value] at h
    rw [← hf] at h
    simpa [stepG.apply, hr, G, Frame.atR, hk', GStep.after, listed, GStep.goes] using h
  | .ok .skip w', h =>
    have hf := rnd_finish (b := b) (a := a) (k := k) (rest := rest) ho undef
    simp only [uponK_skip] at h
    rw [← hf] at h
    simpa [stepG.apply, hr, G, Frame.atR, hk', GStep.after, listed, GStep.goes] using h


theorem rnd_begin (hb : b.roundOf = some l) (hk : b.kind = .normal) {r : Loop} (h : w.heap[l]? = some (.loop r)) (hr : r.state = .ready) :
    ∃ es, stepG P main (G (b.atR a (.beginRound :: k)) cs) w = .go (G (b.atR a k) cs) (w.putObj l (.loop { r with state := .busy })) es ∧ OfObj l es := by
  have hrun := run_beginRound (P := P) h hr
  refine ⟨seen P b.fn ((do Instr.beginRound l; pure .skip : Sem Next).events P w #[]), ?_, mem_seenO (evO_of (evO_bind evO_begin fun _ => evO_pure _) w)⟩
  simp [G, stepG, stepG.exec, stepG.apply, Frame.atR, hb, hk, hrun, GStep.after, Frame.finish, Result.andThen]
theorem rnd_end (hb : b.roundOf = some l) (hk : b.kind = .normal) {r : Loop} (h : w.heap[l]? = some (.loop r)) {c : Frame} :
    ∃ es, stepG P main (G (b.atR a []) (c :: cs)) w = .go (G (c.finish (.bool true)) cs) (w.putObj l (.loop { r with state := .ready, pending := none })) es ∧ OfObj l es := by
  have hrun := run_endRound (P := P) none h
  refine ⟨seen P b.fn ((Instr.endRound l none).events P w #[]), ?_, mem_seenO (evO_of (evO_end none) w)⟩
  simp at hrun
  simp [G, stepG, stepG.exec, Frame.atR, hb, hk, hrun, GStep.after, doReturn]
theorem over_step {r : Loop} (h : w.heap[l]? = some (.loop r)) (hr : r.state ≠ .busy) (hp : r.pending = none) :
    ∃ es, stepG P main (G (b.at a (.endRangeFunc l :: k)) cs) w = .go (G (b.at a k) cs) (w.putObj l (.loop { r with state := .exhausted })) es ∧ OfObj l es := by
  have hrun := run_endLoop (P := P) h hr
  refine ⟨seen P b.fn ((Instr.endLoop l).events P w #[]), ?_, mem_seenO (evO_of evO_over w)⟩
  simp [G, stepG, stepG.exec, Frame.at, hrun, hp, GStep.after]
theorem taken_step {todo : List Item} {ds : List Deferred} {args : Array Value} (h : w.heap[l]? = some (.deferred (some []))) (hd : a.defers = { target := .collected l, args } :: ds) :
    ∃ es, stepG P main (G { b.at a todo with mode := .returning } cs) w = .go (G { b.at { a with defers := ds } todo with mode := .returning } cs) (w.putObj l (.deferred none)) es ∧ OfObj l es := by
  have hrun := run_takeDeferred (P := P) h
  refine ⟨seen P b.fn ((Instr.takeDeferred l).events P w #[]), ?_, mem_seenO (evO_of evO_take w)⟩
  simp [G, stepG, unwind, Frame.at, hd, hrun, GStep.after]
theorem yield_step {ops : Array Oper} {i : Nat} {rest : List Nat} {o : Oper} {x : Operand} {xs : Array Operand} {ats : Array TypeId} {vs : Array Value} {r : Loop} (ho : ops[i]? = some o) (hw : Region.wanted o (yielded ops a.tmps) = true) (hk : b.kind = .normal)
    (hop : o.op = .call { callee := .value x, args := xs, argTypes := ats }) (hx : a.eval x = .func (.yield l) #[] #[]) (hv : xs.map a.eval = vs) (h : w.heap[l]? = some (.loop r)) (hs : vs.size = r.params.size) :
    ∃ es, stepG P main (G (b.at a (.inRegion ops (i :: rest) :: k)) cs) w = .go (G (Frame.round l r.fn ((r.params.zip vs).foldl (fun tmps (t, a) => tmps.setIfInBounds t a) r.tmps) r.assign r.body .normal) (b.at a (.inRegion ops (i :: rest) :: k) :: cs)) w es ∧ OfObj l es := by
  have hrun := run_yield (P := P) h hs
  have he : execOp a.eval o = Instr.yield l vs := by
    unfold execOp
    rw [hop]
    simp [resolve, hx, hv, Deferred.ofValue, invoke]
  refine ⟨seen P b.fn ((Instr.yield l vs).events P w #[]), ?_, mem_seenO (evO_of (evO_yield vs) w)⟩
  rw [stepG_oper ho hw, he]
  simp [stepG.apply, hrun, G, Frame.at, hk, GStep.after]
theorem range_step {f : Operand} {ps : Array Tmp} {ag bd : Code} {gf : FuncId} {lb : Array Value} {fn : Func} (hx : a.eval f = .func (.func gf) #[] lb) (hf : P.funcs[gf]? = some fn) (hn : (fn.name == "runtime.NumGoroutine") = false) (hb : fn.body.isNone = false) (hk : b.kind = .normal) :
    stepG P main (G (b.at a (.code (.rangeFunc f ps ag bd) :: k)) cs) w = .go (G (Frame.enter P gf (#[.func (.yield (w.heap.size + 1)) #[] #[]] ++ lb) .normal) (b.at { a with defers := { target := .collected w.heap.size, args := #[] } :: a.defers } (.inRangeFunc (w.heap.size + 1) :: k) :: cs))
      ((w.alloc (.deferred (some []))).alloc (.loop { state := .ready, pending := none, fn := b.fn, tmps := a.tmps, params := ps, assign := ag, body := bd, defers := w.heap.size })) #[] := by
  have hrun := run_enterLoop_outer (P := P) (w := w) b.fn a.tmps ps ag bd
  have hev : (Instr.enterLoop b.fn a.tmps ps ag bd none).events P w #[] = #[] := rfl
  have hn' : ¬ fn.name = "runtime.NumGoroutine" := by simpa using hn
  have hb' : ¬ fn.body = none := by cases hq : fn.body <;> simp_all
  have hx' : ∀ (todo : List Item) (ds : List Deferred), Frame.eval { fn := b.fn, tmps := a.tmps, todo, defers := ds, mode := .run, kind := .normal } f = .func (.func gf) #[] lb := fun todo ds => by
    rw [← hx]; cases f <;> rfl
  have hcst : ∀ (fr : Frame) (v : Value), fr.eval (.const v) = v := fun _ _ => rfl
  simp [G, stepG, stepG.exec, Frame.at, hrun, hev, GStep.after, stepG.apply, resolve, hx', hcst, Deferred.ofValue, invoke, callFunc, hf, hn', hb', hk, seen_none]
end
end Go.Proofs.YtnojjmkmkelbgaaGreat
