/- Runs carried over, 0: a run takes answers off the tape, never back. -/
import Derived.Conc.Beside
import Derived.Conc.Events
namespace Go.Proofs.Ytafgabakhaipnaa
open Go.Conc

def rdr {α : Type} : Result α → Nat
  | .ok _ w => w.drawn
  | .halt _ w => w.drawn

theorem ask_drawn {α : Type} (a : Ask α) (w : World) : w.drawn ≤ (w.ask a).2.drawn := by
  induction a generalizing w with
  | done a => exact Nat.le_refl _
  | ask what r k ih =>
    simp only [World.ask]
    split
    · exact ih 0 w
    · have h := ih ((Question.extern what r).cut (w.tape w.drawn (Question.extern what r))) { w with drawn := w.drawn + 1 }
      exact Nat.le_trans (Nat.le_add_right w.drawn 1) h
theorem sys_drawn (c : Sys) (w : World) : w.drawn ≤ (w.sys c).2.drawn := by
  have h := ask_drawn (Kernel.perform c w.os) w
  unfold World.sys
  split
  · exact Nat.le_refl _
  · rename_i r os w' e
    rw [e] at h
    exact h
theorem viewStore_drawn {p : Program} {w w' : World} {a k : Addr} {u : TypeId} {v : Value} {b : Bool} {l : List Addr} (h : w.viewStore p a u k v b = .ok (w', l)) : w'.drawn = w.drawn := by
  simp only [World.viewStore, bind, Except.bind, pure, Except.pure] at h
  repeat' split at h
  all_goals first | (cases h; rfl) | cases h
theorem farStore_drawn {p : Program} {w w' : World} {a : Addr} {v : Value} {b : Bool} {l : List Addr} (h : w.farStore p a v b = .ok (w', l)) : w'.drawn = w.drawn := by
  unfold World.farStore at h
  split at h
  · split at h
    · rename_i r hr; cases h; exact viewStore_drawn hr
    · cases h
  · cases h
theorem runT_drawn {α : Type} (P : Program) (s : Sem α) : ∀ (w : World) (es : Array Event), w.drawn ≤ rdr (s.runT P w es).1 := by
  induction s with
  | pure a => intro w es; exact Nat.le_refl _
  | load m a k ih =>
    intro w es
    simp only [Sem.runT]
    split
    · exact ih _ _ _
    · split
      · exact ih _ _ _
      · exact Nat.le_refl _
  | store m a v k ih =>
    intro w es
    cases v <;> simp only [Sem.runT] <;> first | exact Nat.le_refl _ | (
      split
      · split
        · exact Nat.le_refl _
        · exact ih (w.setCell a _) _
      · split
        · rename_i w1 l h
          have h1 := ih w1 (es ++ l.toArray.map (⟨.cell ·, true, m == Mode.atomic⟩))
          rw [farStore_drawn h] at h1
          exact h1
        · exact Nat.le_refl _)
  | new o k ih => intro w es; simp only [Sem.runT]; exact ih _ { w with heap := w.heap.push o } es
  | shape r k ih => intro w es; simp only [Sem.runT]; exact ih _ _ _
  | freeze a n k ih =>
    intro w es
    simp only [Sem.runT]
    have h := ih (w.freeze a n) es
    have e : (w.freeze a n).drawn = w.drawn := by unfold World.freeze; split <;> rfl
    rw [e] at h; exact h
  | frozen a k ih => intro w es; simp only [Sem.runT]; exact ih _ _ _
  | getObj r k ih =>
    intro w es
    simp only [Sem.runT]
    split
    · exact Nat.le_refl _
    · exact ih _ _ _
    · exact Nat.le_refl _
  | setObj r o k ih =>
    intro w es
    simp only [Sem.runT]
    split
    · exact Nat.le_refl _
    · exact ih { w with heap := w.heap.setIfInBounds r o } _
    · exact Nat.le_refl _
  | choose q k ih =>
    intro w es
    simp only [Sem.runT]
    split
    · exact ih _ _ _
    · exact Nat.le_trans (Nat.le_add_right w.drawn 1) (ih _ { w with drawn := w.drawn + 1 } es)
  | sys c k ih => intro w es; simp only [Sem.runT]; exact Nat.le_trans (sys_drawn c w) (ih _ _ _)
  | program k ih => intro w es; simp only [Sem.runT]; exact ih _ _ _
  | mark m k ih => intro w es; simp only [Sem.runT]; exact ih _ _
  | halt h => intro w es; exact Nat.le_refl _
end Go.Proofs.Ytafgabakhaipnaa

/- Runs carried over, 1: two worlds that part in some blocks alone, which the second one holds without cells; a term of the model that does the same in both. -/
namespace Go.Proofs.Ytafgabakhaipnaa
open Go.Conc

/-- How many package-level variables there are. -/
def gN : Nat := 0
structure Sim (X : Nat → Prop) (n : Nat) (w u : World) : Prop where
  size : u.heap.size = w.heap.size
  old : ∀ b, X b → b < w.heap.size
  same : ∀ b, ¬ X b → u.heap[b]? = w.heap[b]?
  cov : ∀ b, X b → ∃ c e, w.heap[b]? = some (Obj.cells c e (0, 0)) ∧ u.heap[b]? = some (Obj.cells #[] e (0, 0))
  pend : ∀ (b : Nat) (c : Array Value) (t : TypeId), w.heap[b]? = some (Obj.pending c t) → gN ≤ b
  os : u.os = w.os
  output : u.output = w.output
  tape : ∀ i q, i < n → u.tape (u.drawn + i) q = w.tape (w.drawn + i) q

def Fine (X : Nat → Prop) (e : Event) : Prop :=
  match e.loc with
  | .cell a => ¬ X a.block
  | .obj r => ¬ X r
  | .mark .noRoom => True
  | .mark (.extern _) => True
  | _ => False

structure On (X : Nat → Prop) (n : Nat) (w u w' u' : World) : Prop where
  tw : w'.tape = w.tape
  tu : u'.tape = u.tape
  drew : ∃ k, k ≤ n ∧ w'.drawn = w.drawn + k ∧ u'.drawn = u.drawn + k ∧ Sim X (n - k) w' u'

theorem On.mk0 {X : Nat → Prop} {n : Nat} {w u w' u' : World} (h : Sim X n w' u') (tw : w'.tape = w.tape) (tu : u'.tape = u.tape) (dw : w'.drawn = w.drawn) (du : u'.drawn = u.drawn) : On X n w u w' u' := ⟨tw, tu, 0, Nat.zero_le _, dw, du, h⟩
theorem On.refl {X : Nat → Prop} {n : Nat} {w u : World} (h : Sim X n w u) : On X n w u w u := .mk0 h rfl rfl rfl rfl
/-- Turned without a draw. -/
structure On0 (X : Nat → Prop) (n : Nat) (w u w' u' : World) : Prop where
  sim : Sim X n w' u'
  tw : w'.tape = w.tape
  tu : u'.tape = u.tape
  dw : w'.drawn = w.drawn
  du : u'.drawn = u.drawn
theorem On0.on {X : Nat → Prop} {n : Nat} {w u w' u' : World} (h : On0 X n w u w' u') : On X n w u w' u' := .mk0 h.sim h.tw h.tu h.dw h.du

/-- Ends that tell nothing: a lone run does not come to them. -/
def free : Halt → Bool
  | .stuck _ => true
  | .unsupported (.initOrder _) => false
  | .unsupported _ => true
  | _ => false
/-- Ends that never come. -/
def early? : Halt → Bool
  | .unsupported (.initOrder g) => decide (g < gN)
  | .unsupported _ => false
  | .stuck _ => false
  | .panic _ => false
  | _ => true

def AlikeR (X : Nat → Prop) (n : Nat) (w u : World) (es : Array Event) {α : Type} (rw ru : Result α × Array Event) : Prop :=
  match ru with
  | (.ok a u', eu) => (∀ e ∈ eu, e ∈ es ∨ Fine X e) ∧ ∃ w', rw = (.ok a w', eu) ∧ On X n w u w' u'
  | (.halt h u', eu) => early? h = false ∧ (free h = false → (∀ e ∈ eu, e ∈ es ∨ Fine X e) ∧ ∃ w', rw = (.halt h w', eu) ∧ On X n w u w' u')
/-- Asked if one of the two takes no more answers than are known to be the same. -/
def Alike (X : Nat → Prop) (n : Nat) (w u : World) (es : Array Event) {α : Type} (rw ru : Result α × Array Event) : Prop :=
  (rdr rw.1 ≤ w.drawn + n ∨ rdr ru.1 ≤ u.drawn + n) → AlikeR X n w u es rw ru

def Sound (P : Program) (X : Nat → Prop) {α : Type} (s : Sem α) : Prop := ∀ n w u es, Sim X n w u → Alike X n w u es (s.runT P w es) (s.runT P u es)

section
variable {P : Program} {X : Nat → Prop} {n : Nat} {α β : Type} {w u w1 u1 : World} {es es1 : Array Event}

theorem On.trans {k : Nat} {w2 u2 : World} (hk : k ≤ n) (tw : w1.tape = w.tape) (tu : u1.tape = u.tape) (dw : w1.drawn = w.drawn + k) (du : u1.drawn = u.drawn + k) (h : On X (n - k) w1 u1 w2 u2) : On X n w u w2 u2 := by
  obtain ⟨m, hm, a, b, hs⟩ := h.drew
  exact ⟨h.tw.trans tw, h.tu.trans tu, k + m, by omega, by omega, by omega, by rw [← Nat.sub_sub]; exact hs⟩
/-- What is asked of the rest, once k answers are taken. -/
theorem Alike.after {k : Nat} {rw ru : Result α × Array Event} (hk : k ≤ n) (tw : w1.tape = w.tape) (tu : u1.tape = u.tape) (dw : w1.drawn = w.drawn + k) (du : u1.drawn = u.drawn + k) (h : Alike X (n - k) w1 u1 es1 rw ru) (he : ∀ e ∈ es1, e ∈ es ∨ Fine X e) : Alike X n w u es rw ru := by
  intro hd
  have hev : ∀ {eu : Array Event}, (∀ e ∈ eu, e ∈ es1 ∨ Fine X e) → ∀ e ∈ eu, e ∈ es ∨ Fine X e := fun h1 e hx => (h1 e hx).elim (he e) .inr
  have h := h (by rcases hd with h | h; · exact .inl (by omega)
                  · exact .inr (by omega))
  match ru, h with
  | (.ok a u', eu), ⟨h1, w', h2, h3⟩ => exact ⟨hev h1, w', h2, On.trans hk tw tu dw du h3⟩
  | (.halt k u', eu), ⟨h0, h⟩ => exact ⟨h0, fun hf => by obtain ⟨h1, w', h2, h3⟩ := h hf; exact ⟨hev h1, w', h2, On.trans hk tw tu dw du h3⟩⟩
theorem Alike.on {rw ru : Result α × Array Event} (h : Alike X n w1 u1 es1 rw ru) (ho : On0 X n w u w1 u1) (he : ∀ e ∈ es1, e ∈ es ∨ Fine X e) : Alike X n w u es rw ru :=
  Alike.after (k := 0) (Nat.zero_le _) ho.tw ho.tu ho.dw ho.du h he
theorem Alike.step {rw ru : Result α × Array Event} (h : Alike X n w u es1 rw ru) (he : ∀ e ∈ es1, e ∈ es ∨ Fine X e) : Alike X n w u es rw ru :=
  Alike.after (k := 0) (Nat.zero_le _) rfl rfl rfl rfl h he

theorem mem_push_fine {x : Event} (hx : Fine X x) : ∀ e ∈ es.push x, e ∈ es ∨ Fine X e := fun e he => by
  rcases Array.mem_push.1 he with h | rfl
  · exact .inl h
  · exact .inr hx

theorem Sim.cell (h : Sim X n w u) {a : Addr} (ha : ¬ X a.block) : u.cell? a = w.cell? a := by simp only [World.cell?, h.same _ ha]
theorem Sim.cellX (h : Sim X n w u) {a : Addr} (ha : X a.block) : u.cell? a = none := by
  obtain ⟨c, e, -, hu⟩ := h.cov _ ha
  simp only [World.cell?, hu]; split <;> simp
theorem Sim.frozen (h : Sim X n w u) (a : Addr) : u.frozen? a = w.frozen? a := by
  by_cases ha : X a.block
  · obtain ⟨c, e, hw, hu⟩ := h.cov _ ha
    simp only [World.frozen?, hw, hu]
  · simp only [World.frozen?, h.same _ ha]
theorem Sim.pendU (h : Sim X n w u) (b : Nat) (c : Array Value) (t : TypeId) (hp : u.heap[b]? = some (Obj.pending c t)) : gN ≤ b := by
  by_cases hb : X b
  · obtain ⟨c, e, hw, hu⟩ := h.cov _ hb
    rw [hu] at hp; cases hp
  · exact h.pend b c t (by rw [← h.same b hb]; exact hp)

/-- The heap turned at one place in the same way. -/
theorem Sim.turn (h : Sim X n w u) {hw hu : Array Obj} (sw : hw.size = w.heap.size) (su : hu.size = u.heap.size) (same : ∀ b, ¬ X b → hu[b]? = hw[b]?)
    (cov : ∀ b, X b → ∃ c e, hw[b]? = some (Obj.cells c e (0, 0)) ∧ hu[b]? = some (Obj.cells #[] e (0, 0))) (np : ∀ (b : Nat) (c : Array Value) (t : TypeId), hw[b]? = some (Obj.pending c t) → gN ≤ b) : On0 X n w u { w with heap := hw } { u with heap := hu } :=
  ⟨⟨by show hu.size = hw.size; rw [su, sw, h.size], fun b hb => by show b < hw.size; rw [sw]; exact h.old b hb, same, cov, np, h.os, h.output, h.tape⟩, rfl, rfl, rfl, rfl⟩
end
end Go.Proofs.Ytafgabakhaipnaa

/- Runs carried over, 1a: memory seen as another type. -/
namespace Go.Proofs.Ytafgabakhaipnaa
open Go.Conc

theorem le_bytes : ∀ (s n : Nat), (leBytes s n).length = s
  | 0, _ => rfl
  | s + 1, n => by simp [leBytes, le_bytes s]
theorem bytes_pos {v : Value} {bs : List UInt8} (h : v.bytes? = some bs) : 0 < bs.length := by
  cases v <;> simp only [Value.bytes?] at h <;> first | (cases h; done) | (cases h; simp; done) | skip
  · rename_i k n
    cases h
    rw [le_bytes]
    cases k <;> simp [IntKind.bits]
  · rename_i k n
    cases h
    rw [le_bytes]
    cases k <;> simp [FloatKind.bytes]
  · rename_i k a b
    cases h
    rw [List.length_append, le_bytes, le_bytes]
    cases k <;> simp [FloatKind.bytes]

section
variable {P : Program} {at_ k : Addr} {t : TypeId} {atomic : Bool} {w u : World}
theorem seen_congr (h : u.heap[at_.block]? = w.heap[at_.block]?) : u.seen P at_ t k atomic = w.seen P at_ t k atomic := by
  unfold World.seen
  rw [h]
theorem seenCells_none (e : TypeId) (f x n : Nat) (hn : 0 < n) (r : List (Nat × Nat × List UInt8)) : seenCells P #[] e (f + 1) x (x + n) ≠ .ok r := by
  unfold seenCells
  intro h
  rw [if_neg (by omega)] at h
  simp only at h
  split at h
  · cases h
  · split at h
    · cases h
    · simp at h
theorem seen_empty {e : TypeId} {f : Nat × Nat} (h : u.heap[at_.block]? = some (.cells #[] e f)) (r : Array Value × TypeId × (Nat × Nat) × Nat × Value × List (Nat × Nat × List UInt8)) : u.seen P at_ t k atomic ≠ .ok r := by
  unfold World.seen
  rw [h]
  intro hr
  simp only [bind, Except.bind, pure, Except.pure] at hr
  have pos : ∀ {v : Value} {n : Nat}, Option.map (fun x => x.length) v.bytes? = some n → 0 < n := fun {v n} h => by
    cases hb : v.bytes? with
    | none => rw [hb] at h; cases h
    | some bs => rw [hb] at h; cases h; exact bytes_pos hb
  repeat' (split at hr)
  all_goals first
    | (cases hr; done)
    | exact absurd ‹seenCells P #[] e _ _ _ = Except.ok _› (seenCells_none e _ _ _ (pos ‹Option.map (fun x : List UInt8 => x.length) (Value.bytes? _) = some _›) _)

theorem viewLoad_congr (h : u.heap[at_.block]? = w.heap[at_.block]?) : u.viewLoad P at_ t k atomic = w.viewLoad P at_ t k atomic := by
  unfold World.viewLoad
  rw [seen_congr h]
theorem viewLoad_ok {v : Value} {l : List Addr} (h : u.viewLoad P at_ t k atomic = .ok (v, l)) : (∀ a ∈ l, a.block = at_.block) ∧ ∀ e f, u.heap[at_.block]? ≠ some (.cells #[] e f) := by
  unfold World.viewLoad at h
  cases hs : u.seen P at_ t k atomic with
  | error m => rw [hs] at h; cases h
  | ok r =>
    rw [hs] at h
    obtain ⟨c, e, f, first, like, cells⟩ := r
    simp only [bind, Except.bind, pure, Except.pure] at h
    refine ⟨fun a ha => ?_, fun e' f' he => seen_empty he _ hs⟩
    split at h
    · cases h
      obtain ⟨x, _, rfl⟩ := List.mem_map.1 ha
      rfl
    · cases h
theorem viewStore_ok {v : Value} {u' : World} {l : List Addr} (h : u.viewStore P at_ t k v atomic = .ok (u', l)) :
    ∃ c e f, u' = { u with heap := u.heap.setIfInBounds at_.block (.cells c e f) } ∧ (∀ a ∈ l, a.block = at_.block) ∧ (∀ e f, u.heap[at_.block]? ≠ some (.cells #[] e f)) ∧
      ∀ w : World, u.heap[at_.block]? = w.heap[at_.block]? → w.viewStore P at_ t k v atomic = .ok ({ w with heap := w.heap.setIfInBounds at_.block (.cells c e f) }, l) := by
  have he : ∀ w : World, u.heap[at_.block]? = w.heap[at_.block]? → w.seen P at_ t k atomic = u.seen P at_ t k atomic := fun w h => (seen_congr h).symm
  unfold World.viewStore at h ⊢
  cases hs : u.seen P at_ t k atomic with
  | error m =>
    rw [hs] at h
    simp only [bind, Except.bind] at h
    split at h
    · cases h
    · cases h
  | ok r =>
    rw [hs] at h he
    obtain ⟨c, e, f, first, like, cells⟩ := r
    simp only [bind, Except.bind, pure, Except.pure] at h ⊢
    repeat' (split at h)
    all_goals first
      | (cases h; done)
      | (cases h
         refine ⟨_, _, _, rfl, fun a ha => ?_, fun e' f' he => seen_empty he _ hs, fun w hw => ?_⟩
         · obtain ⟨x, _, rfl⟩ := List.mem_map.1 ha
           rfl
         · rw [he w hw]
           simp_all)
end
end Go.Proofs.Ytafgabakhaipnaa
