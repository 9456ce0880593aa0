/- Runs carried over, 0: a run takes answers off the tape, never back. -/
import Derived.Conc.Beside
import Derived.Conc.Events
namespace Go.Proofs.YtnojjmkmkelbgaaGreat
open Go.Conc

def rdr {α : Type} : Result α → Nat
  | .ok _ w => w.drawn
  | .halt _ w => w.drawn

theorem ask_drawn {α : Type} (a : Ask α) (w : World) : w.drawn ≤ (w.ask a).2.drawn := by
  induction a generalizing w with
  | done a => exact Nat.le_refl _
  | ask what r k ih =>
    simp only [World.ask]
    split
    · exact ih 0 w
    · have h := ih ((Question.extern what r).cut (w.tape w.drawn (Question.extern what r))) { w with drawn := w.drawn + 1 }
      exact Nat.le_trans (Nat.le_add_right w.drawn 1) h
theorem sys_drawn (c : Sys) (w : World) : w.drawn ≤ (w.sys c).2.drawn := by
  have h := ask_drawn (Kernel.perform c w.os) w
  unfold World.sys
  split
  · exact Nat.le_refl _
  · rename_i r os w' e
    rw [e] at h
    exact h
theorem viewStore_drawn {p : Program} {w w' : World} {a k : Addr} {u : TypeId} {v : Value} {b : Bool} {l : List Addr} (h : w.viewStore p a u k v b = .ok (w', l)) : w'.drawn = w.drawn := by
  simp only [World.viewStore, bind, Except.bind, pure, Except.pure] at h
  repeat' split at h
  all_goals first | (cases h; rfl) | cases h
theorem farStore_drawn {p : Program} {w w' : World} {a : Addr} {v : Value} {b : Bool} {l : List Addr} (h : w.farStore p a v b = .ok (w', l)) : w'.drawn = w.drawn := by
  unfold World.farStore at h
  split at h
  · split at h
    · rename_i r hr; cases h; exact viewStore_drawn hr
    · cases h
  · cases h
theorem runT_drawn {α : Type} (P : Program) (s : Sem α) : ∀ (w : World) (es : Array Event), w.drawn ≤ rdr (s.runT P w es).1 := by
  induction s with
  | pure a => intro w es; exact Nat.le_refl _
  | load m a k ih =>
    intro w es
    simp only [Sem.runT]
    split
    · exact ih _ _ _
    · split
      · exact ih _ _ _
      · exact Nat.le_refl _
  | store m a v k ih =>
    intro w es
    cases v <;> simp only [Sem.runT] <;> first | exact Nat.le_refl _ | (
      split
      · split
        · exact Nat.le_refl _
        · exact ih (w.setCell a _) _
      · split
        · rename_i w1 l h
          have h1 := ih w1 (es ++ l.toArray.map (⟨.cell ·, true, m == Mode.atomic⟩))
          rw [farStore_drawn h] at h1
          exact h1
        · exact Nat.le_refl _)
  | new o k ih => intro w es; simp only [Sem.runT]; exact ih _ { w with heap := w.heap.push o } es
  | shape r k ih => intro w es; simp only [Sem.runT]; exact ih _ _ _
  | freeze a n k ih =>
    intro w es
    simp only [Sem.runT]
    have h := ih (w.freeze a n) es
    have e : (w.freeze a n).drawn = w.drawn := by unfold World.freeze; split <;> rfl
    rw [e] at h; exact h
  | frozen a k ih => intro w es; simp only [Sem.runT]; exact ih _ _ _
  | getObj r k ih =>
    intro w es
    simp only [Sem.runT]
    split
    · exact Nat.le_refl _
    · exact ih _ _ _
    · exact Nat.le_refl _
  | setObj r o k ih =>
    intro w es
    simp only [Sem.runT]
    split
    · exact Nat.le_refl _
    · exact ih { w with heap := w.heap.setIfInBounds r o } _
    · exact Nat.le_refl _
  | choose q k ih =>
    intro w es
    simp only [Sem.runT]
    split
    · exact ih _ _ _
    · exact Nat.le_trans (Nat.le_add_right w.drawn 1) (ih _ { w with drawn := w.drawn + 1 } es)
  | sys c k ih => intro w es; simp only [Sem.runT]; exact Nat.le_trans (sys_drawn c w) (ih _ _ _)
  | program k ih => intro w es; simp only [Sem.runT]; exact ih _ _ _
  | mark m k ih => intro w es; simp only [Sem.runT]; exact ih _ _
  | halt h => intro w es; exact Nat.le_refl _
end Go.Proofs.YtnojjmkmkelbgaaGreat

/- Runs carried over, 1: two worlds that part in some blocks alone, which the second one holds without cells; a term of the model that does the same in both. -/
namespace Go.Proofs.YtnojjmkmkelbgaaGreat
open Go.Conc

/-- How many package-level variables there are. -/
def gN : Nat := 0
structure Sim (X : Nat → Prop) (n : Nat) (w u : World) : Prop where
  size : u.heap.size = w.heap.size
  old : ∀ b, X b → b < w.heap.size
  same : ∀ b, ¬ X b → u.heap[b]? = w.heap[b]?
  cov : ∀ b, X b → ∃ c e, w.heap[b]? = some (Obj.cells c e (0, 0)) ∧ u.heap[b]? = some (Obj.cells #[] e (0, 0))
  pend : ∀ (b : Nat) (c : Array Value) (t : TypeId), w.heap[b]? = some (Obj.pending c t) → gN ≤ b
  os : u.os = w.os
  output : u.output = w.output
  tape : ∀ i q, i < n → u.tape (u.drawn + i) q = w.tape (w.drawn + i) q

def Fine (X : Nat → Prop) (e : Event) : Prop :=
  match e.loc with
  | .cell a => ¬ X a.block
  | .obj r => ¬ X r
  | .mark .noRoom => True
  | .mark (.extern _) => True
  | _ => False

structure On (X : Nat → Prop) (n : Nat) (w u w' u' : World) : Prop where
  tw : w'.tape = w.tape
  tu : u'.tape = u.tape
  drew : ∃ k, k ≤ n ∧ w'.drawn = w.drawn + k ∧ u'.drawn = u.drawn + k ∧ Sim X (n - k) w' u'

theorem On.mk0 {X : Nat → Prop} {n : Nat} {w u w' u' : World} (h : Sim X n w' u') (tw : w'.tape = w.tape) (tu : u'.tape = u.tape) (dw : w'.drawn = w.drawn) (du : u'.drawn = u.drawn) : On X n w u w' u' := ⟨tw, tu, 0, Nat.zero_le _, dw, du, h⟩
theorem On.refl {X : Nat → Prop} {n : Nat} {w u : World} (h : Sim X n w u) : On X n w u w u := .mk0 h rfl rfl rfl rfl
/-- Turned without a draw. -/
structure On0 (X : Nat → Prop) (n : Nat) (w u w' u' : World) : Prop where
  sim : Sim X n w' u'
  tw : w'.tape = w.tape
  tu : u'.tape = u.tape
  dw : w'.drawn = w.drawn
  du : u'.drawn = u.drawn
theorem On0.on {X : Nat → Prop} {n : Nat} {w u w' u' : World} (h : On0 X n w u w' u') : On X n w u w' u' := .mk0 h.sim h.tw h.tu h.dw h.du

/-- Ends that tell nothing: a lone run does not come to them. -/
def free : Halt → Bool
  | .stuck _ => true
  | .unsupported (.initOrder _) => false
  | .unsupported _ => true
  | _ => false
/-- Ends that never come. -/
def early? : Halt → Bool
  | .unsupported (.initOrder g) => decide (g < gN)
  | .unsupported _ => false
  | .stuck _ => false
  | .panic _ => false
  | _ => true

def AlikeR (X : Nat → Prop) (n : Nat) (w u : World) (es : Array Event) {α : Type} (rw ru : Result α × Array Event) : Prop :=
  match ru with
  | (.ok a u', eu) => (∀ e ∈ eu, e ∈ es ∨ Fine X e) ∧ ∃ w', rw = (.ok a w', eu) ∧ On X n w u w' u'
  | (.halt h u', eu) => early? h = false ∧ (free h = false → (∀ e ∈ eu, e ∈ es ∨ Fine X e) ∧ ∃ w', rw = (.halt h w', eu) ∧ On X n w u w' u')
/-- Asked if one of the two takes no more answers than are known to be the same. -/
def Alike (X : Nat → Prop) (n : Nat) (w u : World) (es : Array Event) {α : Type} (rw ru : Result α × Array Event) : Prop :=
  (rdr rw.1 ≤ w.drawn + n ∨ rdr ru.1 ≤ u.drawn + n) → AlikeR X n w u es rw ru

def Sound (P : Program) (X : Nat → Prop) {α : Type} (s : Sem α) : Prop := ∀ n w u es, Sim X n w u → Alike X n w u es (s.runT P w es) (s.runT P u es)

section
variable {P : Program} {X : Nat → Prop} {n : Nat} {α β : Type} {w u w1 u1 : World} {es es1 : Array Event}

theorem On.trans {k : Nat} {w2 u2 : World} (hk : k ≤ n) (tw : w1.tape = w.tape) (tu : u1.tape = u.tape) (dw : w1.drawn = w.drawn + k) (du : u1.drawn = u.drawn + k) (h : On X (n - k) w1 u1 w2 u2) : On X n w u w2 u2 := by
  obtain ⟨m, hm, a, b, hs⟩ := h.drew
  exact ⟨h.tw.trans tw, h.tu.trans tu, k + m, by omega, by omega, by omega, by rw [← Nat.sub_sub]; exact hs⟩
/-- What is asked of the rest, once k answers are taken. -/
theorem Alike.after {k : Nat} {rw ru : Result α × Array Event} (hk : k ≤ n) (tw : w1.tape = w.tape) (tu : u1.tape = u.tape) (dw : w1.drawn = w.drawn + k) (du : u1.drawn = u.drawn + k) (h : Alike X (n - k) w1 u1 es1 rw ru) (he : ∀ e ∈ es1, e ∈ es ∨ Fine X e) : Alike X n w u es rw ru := by
  intro hd
  have hev : ∀ {eu : Array Event}, (∀ e ∈ eu, e ∈ es1 ∨ Fine X e) → ∀ e ∈ eu, e ∈ es ∨ Fine X e := fun h1 e hx => (h1 e hx).elim (he e) .inr
  have h := h (by rcases hd with h | h; · exact .inl (by omega)
                  · exact .inr (by omega))
  match ru, h with
  | (.ok a u', eu), ⟨h1, w', h2, h3⟩ => exact ⟨hev h1, w', h2, On.trans hk tw tu dw du h3⟩
  | (.halt k u', eu), ⟨h0, h⟩ => exact ⟨h0, fun hf => by obtain ⟨h1, w', h2, h3⟩ := h hf; exact ⟨hev h1, w', h2, On.trans hk tw tu dw du h3⟩⟩
theorem Alike.on {rw ru : Result α × Array Event} (h : Alike X n w1 u1 es1 rw ru) (ho : On0 X n w u w1 u1) (he : ∀ e ∈ es1, e ∈ es ∨ Fine X e) : Alike X n w u es rw ru :=
  Alike.after (k := 0) (Nat.zero_le _) ho.tw ho.tu ho.dw ho.du h he
theorem Alike.step {rw ru : Result α × Array Event} (h : Alike X n w u es1 rw ru) (he : ∀ e ∈ es1, e ∈ es ∨ Fine X e) : Alike X n w u es rw ru :=
  Alike.after (k := 0) (Nat.zero_le _) rfl rfl rfl rfl h he

theorem mem_push_fine {x : Event} (hx : Fine X x) : ∀ e ∈ es.push x, e ∈ es ∨ Fine X e := fun e he => by
  rcases Array.mem_push.1 he with h | rfl
  · exact .inl h
  · exact .inr hx

theorem Sim.cell (h : Sim X n w u) {a : Addr} (ha : ¬ X a.block) : u.cell? a = w.cell? a := by simp only [World.cell?, h.same _ ha]
theorem Sim.cellX (h : Sim X n w u) {a : Addr} (ha : X a.block) : u.cell? a = none := by
  obtain ⟨c, e, -, hu⟩ := h.cov _ ha
  simp only [World.cell?, hu]; split <;> simp
theorem Sim.frozen (h : Sim X n w u) (a : Addr) : u.frozen? a = w.frozen? a := by
  by_cases ha : X a.block
  · obtain ⟨c, e, hw, hu⟩ := h.cov _ ha
    simp only [World.frozen?, hw, hu]
  · simp only [World.frozen?, h.same _ ha]
theorem Sim.pendU (h : Sim X n w u) (b : Nat) (c : Array Value) (t : TypeId) (hp : u.heap[b]? = some (Obj.pending c t)) : gN ≤ b := by
  by_cases hb : X b
  · obtain ⟨c, e, hw, hu⟩ := h.cov _ hb
    rw [hu] at hp; cases hp
  · exact h.pend b c t (by rw [← h.same b hb]; exact hp)

/-- The heap turned at one place in the same way. -/
theorem Sim.turn (h : Sim X n w u) {hw hu : Array Obj} (sw : hw.size = w.heap.size) (su : hu.size = u.heap.size) (same : ∀ b, ¬ X b → hu[b]? = hw[b]?)
    (cov : ∀ b, X b → ∃ c e, hw[b]? = some (Obj.cells c e (0, 0)) ∧ hu[b]? = some (Obj.cells #[] e (0, 0))) (np : ∀ (b : Nat) (c : Array Value) (t : TypeId), hw[b]? = some (Obj.pending c t) → gN ≤ b) : On0 X n w u { w with heap := hw } { u with heap := hu } :=
  ⟨⟨by show hu.size = hw.size; rw [su, sw, h.size], fun b hb => by show b < hw.size; rw [sw]; exact h.old b hb, same, cov, np, h.os, h.output, h.tape⟩, rfl, rfl, rfl, rfl⟩
end
end Go.Proofs.YtnojjmkmkelbgaaGreat

/- Runs carried over, 1a: memory seen as another type. -/
namespace Go.Proofs.YtnojjmkmkelbgaaGreat
open Go.Conc

theorem le_bytes : ∀ (s n : Nat), (leBytes s n).length = s
  | 0, _ => rfl
  | s + 1, n => by simp [leBytes, le_bytes s]
theorem bytes_pos {v : Value} {bs : List UInt8} (h : v.bytes? = some bs) : 0 < bs.length := by
  cases v <;> simp only [Value.bytes?] at h <;> first | (cases h; done) | (cases h; simp; done) | skip
  · rename_i k n
    cases h
    rw [le_bytes]
    cases k <;> simp [IntKind.bits]
  · rename_i k n
    cases h
    rw [le_bytes]
    cases k <;> simp [FloatKind.bytes]
  · rename_i k a b
    cases h
    rw [List.length_append, le_bytes, le_bytes]
    cases k <;> simp [FloatKind.bytes]

section
variable {P : Program} {at_ k : Addr} {t : TypeId} {atomic : Bool} {w u : World}
theorem seen_congr (h : u.heap[at_.block]? = w.heap[at_.block]?) : u.seen P at_ t k atomic = w.seen P at_ t k atomic := by
  unfold World.seen
  rw [h]
theorem seenCells_none (e : TypeId) (f x n : Nat) (hn : 0 < n) (r : List (Nat × Nat × List UInt8)) : seenCells P #[] e (f + 1) x (x + n) ≠ .ok r := by
  unfold seenCells
  intro h
  rw [if_neg (by omega)] at h
  simp only at h
  split at h
  · cases h
  · split at h
    · cases h
    · simp at h
theorem seen_empty {e : TypeId} {f : Nat × Nat} (h : u.heap[at_.block]? = some (.cells #[] e f)) (r : Array Value × TypeId × (Nat × Nat) × Nat × Value × List (Nat × Nat × List UInt8)) : u.seen P at_ t k atomic ≠ .ok r := by
  unfold World.seen
  rw [h]
  intro hr
  simp only [bind, Except.bind, pure, Except.pure] at hr
  have pos : ∀ {v : Value} {n : Nat}, Option.map (fun x => x.length) v.bytes? = some n → 0 < n := fun {v n} h => by
    cases hb : v.bytes? with
    | none => rw [hb] at h; cases h
    | some bs => rw [hb] at h; cases h; exact bytes_pos hb
  repeat' (split at hr)
  all_goals first
    | (cases hr; done)
    | exact absurd ‹seenCells P #[] e _ _ _ = Except.ok _› (seenCells_none e _ _ _ (pos ‹Option.map (fun x : List UInt8 => x.length) (Value.bytes? _) = some _›) _)

theorem viewLoad_congr (h : u.heap[at_.block]? = w.heap[at_.block]?) : u.viewLoad P at_ t k atomic = w.viewLoad P at_ t k atomic := by
  unfold World.viewLoad
  rw [seen_congr h]
theorem viewLoad_ok {v : Value} {l : List Addr} (h : u.viewLoad P at_ t k atomic = .ok (v, l)) : (∀ a ∈ l, a.block = at_.block) ∧ ∀ e f, u.heap[at_.block]? ≠ some (.cells #[] e f) := by
  unfold World.viewLoad at h
  cases hs : u.seen P at_ t k atomic with
  | error m => rw [hs] at h; cases h
  | ok r =>
    rw [hs] at h
    obtain ⟨c, e, f, first, like, cells⟩ := r
    simp only [bind, Except.bind, pure, Except.pure] at h
    refine ⟨fun a ha => ?_, fun e' f' he => seen_empty he _ hs⟩
    split at h
    · cases h
      obtain ⟨x, _, rfl⟩ := List.mem_map.1 ha
      rfl
    · cases h
theorem viewStore_ok {v : Value} {u' : World} {l : List Addr} (h : u.viewStore P at_ t k v atomic = .ok (u', l)) :
    ∃ c e f, u' = { u with heap := u.heap.setIfInBounds at_.block (.cells c e f) } ∧ (∀ a ∈ l, a.block = at_.block) ∧ (∀ e f, u.heap[at_.block]? ≠ some (.cells #[] e f)) ∧
      ∀ w : World, u.heap[at_.block]? = w.heap[at_.block]? → w.viewStore P at_ t k v atomic = .ok ({ w with heap := w.heap.setIfInBounds at_.block (.cells c e f) }, l) := by
  have he : ∀ w : World, u.heap[at_.block]? = w.heap[at_.block]? → w.seen P at_ t k atomic = u.seen P at_ t k atomic := fun w h => (seen_congr h).symm
  unfold World.viewStore at h ⊢
  cases hs : u.seen P at_ t k atomic with
  | error m =>
    rw [hs] at h
    simp only [bind, Except.bind] at h
    split at h
    · cases h
    · cases h
  | ok r =>
    rw [hs] at h he
    obtain ⟨c, e, f, first, like, cells⟩ := r
    simp only [bind, Except.bind, pure, Except.pure] at h ⊢
    repeat' (split at h)
    all_goals first
      | (cases h; done)
      | (cases h
         refine ⟨_, _, _, rfl, fun a ha => ?_, fun e' f' he => seen_empty he _ hs, fun w hw => ?_⟩
         · obtain ⟨x, _, rfl⟩ := List.mem_map.1 ha
           rfl
         · rw [he w hw]
           simp_all)
end
end Go.Proofs.YtnojjmkmkelbgaaGreat

/- Runs carried over, 2: the requests of the model, one by one. -/
namespace Go.Proofs.YtnojjmkmkelbgaaGreat
open Go.Conc

section
variable {P : Program} {X : Nat → Prop} {α β : Type}

theorem Sound.pure (a : α) : Sound P X (Sem.pure a) := fun _ w _ _ h _ => ⟨fun _ he => .inl he, w, rfl, On.refl h⟩
theorem Sound.pure' (a : α) : Sound P X (Pure.pure a : Sem α) := Sound.pure a
theorem Sound.halt (h : Halt) (hh : early? h = false := by rfl) : Sound P X (Sem.halt h : Sem α) := fun _ w _ _ hs _ => ⟨hh, fun _ => ⟨fun _ he => .inl he, w, rfl, On.refl hs⟩⟩

theorem noCell_X {u : World} {a : Addr} {e : TypeId} (hu : u.heap[a.block]? = some (.cells #[] e (0, 0))) (s : String) (es : Array Event) (n : Nat) (w0 u0 : World) (rw : Result α × Array Event) : Alike X n w0 u0 es rw (.halt (u.noCell a s) u, es) := by
  intro _
  unfold World.noCell
  rw [hu]
  exact ⟨rfl, fun h => by cases h⟩
theorem noCell_same {n : Nat} {w u : World} (h : Sim X n w u) {a : Addr} (ha : ¬ X a.block) (s : String) (es : Array Event) : Alike X n w u es ((.halt (w.noCell a s) w, es) : Result α × Array Event) (.halt (u.noCell a s) u, es) := by
  intro _
  have hp := h.pend a.block
  unfold World.noCell
  rw [h.same _ ha]
  split
  · rename_i c t ho
    exact ⟨by simpa [early?] using hp c t ho, fun _ => ⟨fun _ he => .inl he, w, rfl, On.refl h⟩⟩
  · exact ⟨rfl, fun h => by cases h⟩
  · exact ⟨rfl, fun h => by cases h⟩
theorem fine_all {es : Array Event} {l : List Addr} {b : Nat} (hl : ∀ a ∈ l, a.block = b) (hb : ¬ X b) (wr at_ : Bool) : ∀ e ∈ es ++ l.toArray.map (fun a => (⟨.cell a, wr, at_⟩ : Event)), e ∈ es ∨ Fine X e := fun e he => by
  rcases Array.mem_append.1 he with h | h
  · exact .inl h
  · obtain ⟨a, ha, rfl⟩ := Array.mem_map.1 h
    refine .inr ?_
    show ¬ X a.block
    rw [hl a (by simpa using ha)]; exact hb

theorem Sound.load {m : Mode} {a : Addr} {k : Value → Sem α} (hk : ∀ v, Sound P X (k v)) : Sound P X (Sem.load m a k) := fun n w u es h => by
  simp only [Sem.runT]
  by_cases ha : X a.block
  · rw [h.cellX ha]
    obtain ⟨c, e, -, hu⟩ := h.cov _ ha
    simp only [World.farLoad, hu]
    exact noCell_X hu _ _ _ _ _ _
  · rw [h.cell ha]
    cases hc : w.cell? a with
    | some v => exact (hk v n w u _ h).step (mem_push_fine ha)
    | none =>
      have hn := noCell_same (α := α) h ha "load: no such cell" es
      simp only [World.farLoad, h.same _ ha]
      cases ho : w.heap[a.block]? with
      | none => exact hn
      | some o =>
        cases o with
        | view x t =>
          simp only
          cases hv : u.viewLoad P x t a (m == .atomic) with
          | error why => exact fun _ => ⟨rfl, fun h => by cases h⟩
          | ok r =>
            obtain ⟨v, l⟩ := r
            obtain ⟨h1, h2⟩ := viewLoad_ok hv
            have hx : ¬ X x.block := fun hx => by obtain ⟨c, e, -, hu⟩ := h.cov _ hx; exact h2 _ _ hu
            rw [← viewLoad_congr (h.same _ hx), hv]
            exact (hk v n w u _ h).step (fine_all h1 hx _ _)
        | _ => exact hn

theorem setCell_heap (w : World) (a : Addr) (v : Value) (b : Nat) : (w.setCell a v).heap[b]? = (if a.block = b then (w.heap[b]?).map (fun | .cells c elem frozen => .cells (if a.spot.isSome then c else c.setIfInBounds a.off v) elem frozen | o => o) else w.heap[b]?) := by
  simp only [World.setCell, Array.getElem?_modify]
  rfl

theorem Sim.setCell {n : Nat} {w u : World} (h : Sim X n w u) (a : Addr) (v : Value) (ha : ¬ X a.block) : On0 X n w u (w.setCell a v) (u.setCell a v) := by
  refine h.turn (by simp) (by simp) (fun b hb => ?_) (fun b hb => ?_) (fun b x t hx => ?_)
  · show (u.setCell a v).heap[b]? = (w.setCell a v).heap[b]?
    rw [setCell_heap, setCell_heap, h.same b hb]
  · show ∃ c e, (w.setCell a v).heap[b]? = _ ∧ (u.setCell a v).heap[b]? = _
    have hne : ¬ a.block = b := fun e => ha (e ▸ hb)
    rw [setCell_heap, setCell_heap, if_neg hne, if_neg hne]
    exact h.cov b hb
  · have hx' : (w.setCell a v).heap[b]? = _ := hx
    rw [setCell_heap] at hx'
    split at hx'
    · cases ho : w.heap[b]? with
      | none => rw [ho] at hx'; simp at hx'
      | some o =>
        rw [ho] at hx'
        cases o <;> simp at hx'
        exact h.pend b _ _ (by rw [ho])
    · exact h.pend b _ _ hx'

theorem Sim.setCells {n : Nat} {w u : World} (h : Sim X n w u) (r : Nat) (c : Array Value) (e : TypeId) (f : Nat × Nat) (hr : ¬ X r) : On0 X n w u { w with heap := w.heap.setIfInBounds r (.cells c e f) } { u with heap := u.heap.setIfInBounds r (.cells c e f) } := by
  refine h.turn (by simp) (by simp) (fun b hb => ?_) (fun b hb => ?_) (fun b a t hx => ?_)
  · simp only [Array.getElem?_setIfInBounds, h.size, h.same b hb]
  · have hne : ¬ r = b := fun e => hr (e ▸ hb)
    simp only [Array.getElem?_setIfInBounds, if_neg hne]
    exact h.cov b hb
  · simp only [Array.getElem?_setIfInBounds] at hx
    split at hx
    · split at hx <;> cases hx
    · exact h.pend b a t hx

theorem Sound.store {m : Mode} {a : Addr} {v : Value} {k : Sem α} (hk : Sound P X k) : Sound P X (Sem.store m a v k) := fun n w u es h => by
  have main : Alike X n w u es (match w.cell? a with
    | some _ => if w.frozen? a then (.halt (.unsupported (.unsafePointer "a write to bytes that a string shares")) w, es) else k.runT P (w.setCell a v) (es.push ⟨.cell a, true, m == .atomic⟩)
    | none => match w.farStore P a v (m == .atomic) with
      | .ok (w, touched) => k.runT P w (es ++ touched.toArray.map (⟨.cell ·, true, m == .atomic⟩))
      | .error h => (.halt h w, es)) (match u.cell? a with
    | some _ => if u.frozen? a then (.halt (.unsupported (.unsafePointer "a write to bytes that a string shares")) u, es) else k.runT P (u.setCell a v) (es.push ⟨.cell a, true, m == .atomic⟩)
    | none => match u.farStore P a v (m == .atomic) with
      | .ok (w, touched) => k.runT P w (es ++ touched.toArray.map (⟨.cell ·, true, m == .atomic⟩))
      | .error h => (.halt h u, es)) := by
    by_cases ha : X a.block
    · rw [h.cellX ha]
      obtain ⟨c, e, -, hu⟩ := h.cov _ ha
      simp only [World.farStore, hu]
      exact noCell_X hu _ _ _ _ _ _
    · rw [h.cell ha, h.frozen]
      cases hc : w.cell? a with
      | some x =>
        cases hf : w.frozen? a with
        | true => exact fun _ => ⟨rfl, fun h => by cases h⟩
        | false => exact (hk _ _ _ _ (h.setCell a v ha).sim).on (h.setCell a v ha) (mem_push_fine ha)
      | none =>
        have hn := noCell_same (α := α) h ha "store: no such cell" es
        simp only [World.farStore, h.same _ ha]
        cases ho : w.heap[a.block]? with
        | none => exact hn
        | some o =>
          cases o with
          | view x t =>
            simp only
            cases hv : u.viewStore P x t a v (m == .atomic) with
            | error why => exact fun _ => ⟨rfl, fun h => by cases h⟩
            | ok r =>
              obtain ⟨u', l⟩ := r
              obtain ⟨c, e, f, rfl, h1, h2, h3⟩ := viewStore_ok hv
              have hx : ¬ X x.block := fun hx => by obtain ⟨c, e, -, hu⟩ := h.cov _ hx; exact h2 _ _ hu
              rw [h3 w (h.same _ hx)]
              exact (hk _ _ _ _ (h.setCells _ c e f hx).sim).on (h.setCells _ c e f hx) (fine_all h1 hx _ _)
          | _ => exact hn
  cases v <;> first | (simp only [Sem.runT]; exact main) | (simp only [Sem.runT]; exact fun _ => ⟨rfl, fun h => by cases h⟩)

theorem Sound.new {o : Obj} {k : Nat → Sem α} (ho : (∀ a t, o ≠ .view a t) ∧ ∀ c t, o ≠ .pending c t) (hk : ∀ r, Sound P X (k r)) : Sound P X (Sem.new o k) := fun n w u es h => by
  have hon : On0 X n w u { w with heap := w.heap.push o } { u with heap := u.heap.push o } := by
    have hs := h.size
    refine ⟨⟨by simp [hs], fun b hb => by have := h.old b hb; simp; omega, fun b hb => ?_, fun b hb => ?_, fun b a t hx => ?_, h.os, h.output, h.tape⟩, rfl, rfl, rfl, rfl⟩
    · simp only [Array.getElem?_push, hs, h.same b hb]
    · have hne : b ≠ w.heap.size := by have := h.old b hb; omega
      simp only [Array.getElem?_push, hs, if_neg hne]
      exact h.cov b hb
    · simp only [Array.getElem?_push] at hx
      split at hx
      · exact absurd (Option.some.inj hx) (ho.2 a t)
      · exact h.pend b a t hx
  simp only [Sem.runT]
  rw [h.size]
  exact (hk w.heap.size _ _ _ es hon.sim).on hon (fun e he => .inl he)

theorem Sound.frozen {a : Addr} {k : Bool → Sem α} (hk : ∀ b, Sound P X (k b)) : Sound P X (Sem.frozen a k) := fun n w u es h => by
  simp only [Sem.runT, h.frozen]
  exact hk _ _ _ _ _ h
/-- A look at a block's shape that does not hang on how many cells it has. -/
theorem Sound.shape {r : Nat} {k : Option (TypeId × Nat) → Sem α} (hb : ∀ t n m, k (some (t, n)) = k (some (t, m))) (hk : ∀ o, Sound P X (k o)) : Sound P X (Sem.shape r k) := fun n w u es h => by
  simp only [Sem.runT]
  have e : k (u.shape? r) = k (w.shape? r) := by
    by_cases hr : X r
    · obtain ⟨c, e, hw, hu⟩ := h.cov r hr
      simp only [World.shape?, hw, hu]
      exact hb _ _ _
    · simp only [World.shape?, h.same r hr]
  rw [e]
  exact hk _ _ _ _ _ h
theorem Sound.getObj {r : Nat} {k : Obj → Sem α} (hk : ∀ o, Sound P X (k o)) : Sound P X (Sem.getObj r k) := fun n w u es h => by
  simp only [Sem.runT]
  by_cases hr : X r
  · obtain ⟨c, e, hw, hu⟩ := h.cov r hr
    rw [hu]; exact fun _ => ⟨rfl, fun h => by cases h⟩
  · rw [h.same r hr]
    cases ho : w.heap[r]? with
    | none => exact fun _ => ⟨rfl, fun h => by cases h⟩
    | some o =>
      cases o with
      | cells => exact fun _ => ⟨rfl, fun h => by cases h⟩
      | _ => exact (hk _ _ _ _ _ h).step (mem_push_fine hr)
theorem Sound.setObj {r : Nat} {o : Obj} {k : Sem α} (hv : (∀ a t, o ≠ .view a t) ∧ ∀ c t, o ≠ .pending c t) (hk : Sound P X k) : Sound P X (Sem.setObj r o k) := fun n w u es h => by
  simp only [Sem.runT]
  by_cases hr : X r
  · obtain ⟨c, e, hw, hu⟩ := h.cov r hr
    rw [hu]; exact fun _ => ⟨rfl, fun h => by cases h⟩
  · have hon : On0 X n w u { w with heap := w.heap.setIfInBounds r o } { u with heap := u.heap.setIfInBounds r o } := by
      refine h.turn (by simp) (by simp) (fun b hb => ?_) (fun b hb => ?_) (fun b a t hx => ?_)
      · simp only [Array.getElem?_setIfInBounds, h.size, h.same b hb]
      · have hne : ¬ r = b := fun e => hr (e ▸ hb)
        simp only [Array.getElem?_setIfInBounds, if_neg hne]
        exact h.cov b hb
      · simp only [Array.getElem?_setIfInBounds] at hx
        split at hx
        · split at hx
          · exact absurd (Option.some.inj hx) (hv.2 a t)
          · cases hx
        · exact h.pend b a t hx
    rw [h.same r hr]
    cases ho : w.heap[r]? with
    | none => exact fun _ => ⟨rfl, fun h => by cases h⟩
    | some x =>
      cases x with
      | cells => exact fun _ => ⟨rfl, fun h => by cases h⟩
      | _ => exact (hk _ _ _ _ hon.sim).on hon (mem_push_fine hr)
theorem Sim.draw {n : Nat} {w u : World} (h : Sim X (n + 1) w u) : Sim X n { w with drawn := w.drawn + 1 } { u with drawn := u.drawn + 1 } :=
  ⟨h.size, h.old, h.same, h.cov, h.pend, h.os, h.output, fun i q hi => by have := h.tape (1 + i) q (by omega); simp only [← Nat.add_assoc] at this; exact this⟩
theorem Sound.choose {q : Question} {k : Nat → Sem α} (hk : ∀ n, Sound P X (k n)) : Sound P X (Sem.choose q k) := fun n w u es h => by
  simp only [Sem.runT]
  split
  · exact hk _ _ _ _ _ h
  · cases n with
    | zero =>
      intro hd
      exfalso
      have h1 := runT_drawn P (k (q.cut (w.tape w.drawn q))) { w with drawn := w.drawn + 1 } es
      have h2 := runT_drawn P (k (q.cut (u.tape u.drawn q))) { u with drawn := u.drawn + 1 } es
      simp only at h1 h2
      omega
    | succ n =>
      have e : u.tape u.drawn q = w.tape w.drawn q := h.tape 0 q (by omega)
      rw [e]
      exact Alike.after (k := 1) (w1 := { w with drawn := w.drawn + 1 }) (u1 := { u with drawn := u.drawn + 1 }) (by omega) rfl rfl rfl rfl (hk _ n _ _ es h.draw) (fun e he => .inl he)
theorem Sound.program {k : Program → Sem α} (hk : Sound P X (k P)) : Sound P X (Sem.program k) := fun n w u es h => by
  simp only [Sem.runT]; exact hk _ _ _ _ h
theorem Sound.room {k : Sem α} (hk : Sound P X k) : Sound P X (Sem.mark .noRoom k) := fun n w u es h => by
  simp only [Sem.runT]; exact (hk _ _ _ _ h).step (mem_push_fine trivial)
theorem Sound.extern {f : FuncId} {k : Sem α} (hk : Sound P X k) : Sound P X (Sem.mark (.extern f) k) := fun n w u es h => by
  simp only [Sem.runT]; exact (hk _ _ _ _ h).step (mem_push_fine trivial)

theorem Sound.bind {x : Sem α} {f : α → Sem β} (hx : Sound P X x) (hf : ∀ a, Sound P X (f a)) : Sound P X (x >>= f) := fun n w u es h hd => by
  have mono : ∀ v, rdr (x.runT P v es).1 ≤ rdr ((x >>= f).runT P v es).1 := fun v => by
    show _ ≤ rdr ((x.bind f).runT P v es).1
    rw [Sem.runT_bind']
    match x.runT P v es with
    | (.ok a v1, e1) => exact runT_drawn P (f a) v1 e1
    | (.halt k v1, e1) => exact Nat.le_refl _
  have h1 := hx n w u es h (by rcases hd with hd | hd; · exact .inl (Nat.le_trans (mono w) hd)
                               · exact .inr (Nat.le_trans (mono u) hd))
  revert hd
  show Alike X n w u es ((x.bind f).runT P w es) ((x.bind f).runT P u es)
  rw [Sem.runT_bind', Sem.runT_bind']
  generalize x.runT P u es = ru at h1
  match ru, h1 with
  | (.ok a u', eu), ⟨he, w', e, ho⟩ =>
    rw [e]
    obtain ⟨k, hk, dw, du, hs⟩ := ho.drew
    exact Alike.after hk ho.tw ho.tu dw du (hf a _ _ _ _ hs) he
  | (.halt k u', eu), ⟨h0, hh⟩ => exact fun _ => ⟨h0, fun hf => by obtain ⟨he, w', e, ho⟩ := hh hf; rw [e]; exact ⟨he, w', rfl, ho⟩⟩
end
end Go.Proofs.YtnojjmkmkelbgaaGreat

/- Runs carried over, 3: what the operations are made of. -/
namespace Go.Proofs.YtnojjmkmkelbgaaGreat
open Go.Conc

section
variable {P : Program} {X : Nat → Prop} {α β : Type}

theorem s_program {f : Program → Sem α} (h : Sound P X (f P)) : Sound P X (program >>= f) := Sound.program h
theorem s_map {x : Sem α} {f : α → β} (h : Sound P X x) : Sound P X (f <$> x) := Sound.bind (f := fun a => Pure.pure (f a)) h (fun _ => Sound.pure' _)
theorem s_choose (q : Question) : Sound P X (choose q) := Sound.choose (fun _ => Sound.pure _)
theorem s_load (a : Addr) (m : Mode) : Sound P X (load a m) := Sound.load (fun _ => Sound.pure _)
theorem s_store (a : Addr) (v : Value) (m : Mode) : Sound P X (store a v m) := Sound.store (Sound.pure _)
theorem s_unsup (u : Unsupported) (h : early? (.unsupported u) = false) : Sound P X (unsupported u : Sem α) := Sound.halt _ h
theorem s_stuck (s : String) : Sound P X (stuck s : Sem α) := Sound.halt _
theorem s_info (t : TypeId) : Sound P X (typeInfo t) := by
  unfold typeInfo
  refine s_program ?_
  split <;> first | exact Sound.pure' _ | exact Sound.halt _
theorem s_und (t : TypeId) : Sound P X (underlying t) := by
  unfold underlying
  refine s_program ?_
  split <;> first | exact Sound.pure' _ | exact Sound.halt _
theorem s_size (t : TypeId) : Sound P X (sizeOf t) := Sound.bind (s_info t) (fun _ => Sound.pure' _)
theorem s_zero (t : TypeId) : Sound P X (zeroValue t) := by
  unfold zeroValue
  refine Sound.bind (s_info t) (fun _ => ?_)
  split <;> first | exact Sound.pure' _ | exact Sound.halt _
theorem s_agg (t : TypeId) : Sound P X (isAgg t) := by
  unfold isAgg
  refine Sound.bind (s_und t) (fun _ => ?_)
  split <;> exact Sound.pure' _
theorem s_loadsFrom (a : Addr) : ∀ (n i : Nat) (acc : Array Value), Sound P X (loadCellsFrom a i n acc)
  | 0, _, _ => Sound.pure' _
  | n + 1, i, _ => Sound.bind (Sound.load (fun _ => Sound.pure _)) (fun _ => s_loadsFrom a n (i + 1) _)
theorem s_loads (a : Addr) (n : Nat) : Sound P X (loadCells a n) := s_loadsFrom a n 0 _
theorem s_stores (a : Addr) : ∀ (vs : List Value) (i : Nat), Sound P X (storeCells a vs i)
  | [], _ => Sound.pure' _
  | _ :: vs, i => Sound.bind (Sound.store (Sound.pure _)) (fun _ => s_stores a vs (i + 1))
theorem s_loadVar (t : TypeId) (a : Addr) : Sound P X (loadVar t a) := by
  unfold loadVar
  refine Sound.bind (s_agg t) (fun b => ?_)
  split
  · exact Sound.bind (s_size t) (fun n => Sound.bind (s_loads a n) (fun _ => Sound.pure' _))
  · exact Sound.load (fun _ => Sound.pure _)
theorem s_storeVar (t : TypeId) (a : Addr) (v : Value) : Sound P X (storeVar t a v) := by
  unfold storeVar
  refine Sound.bind (s_size t) (fun n => ?_)
  split
  · exact Sound.bind (Sound.halt _) (fun _ => s_stores a _ _)
  · exact s_stores a _ _
theorem s_row (t : TypeId) (cs : Array Value) : Sound P X (newRow t cs) := Sound.bind (Sound.new (by simp) (fun _ => Sound.pure _)) (fun _ => Sound.pure' _)
theorem s_var (t : TypeId) (v : Value) : Sound P X (newVar t v) := s_row t _
theorem s_elem (t : TypeId) : Sound P X (elemOf t) := by
  unfold elemOf
  refine Sound.bind (s_und t) (fun _ => ?_)
  split <;> first | exact Sound.pure' _ | exact Sound.halt _
theorem s_part (t : TypeId) (cs : Array Value) (off : Nat) : Sound P X (part t cs off) := by
  unfold part
  refine Sound.bind (s_agg t) (fun b => ?_)
  split
  · exact Sound.bind (s_size t) (fun _ => Sound.pure' _)
  · split <;> first | exact Sound.pure' _ | exact Sound.halt _
theorem s_panic (e : RuntimeError) : Sound P X (runtimePanic e : Sem α) := by
  unfold runtimePanic
  refine s_program ?_
  cases e with
  | typeAssertion i c a m => exact Sound.bind (s_elem _) (fun t => Sound.bind (s_var t _) (fun _ => Sound.halt _))
  | panicNil => exact Sound.bind (s_elem _) (fun t => Sound.bind (s_var t _) (fun _ => Sound.halt _))
  | _ => exact Sound.halt _
theorem s_bounds (k : IntKind) (x y : Int) (c : BoundsCode) : Sound P X (boundsPanic k x y c : Sem α) := by
  unfold boundsPanic
  dsimp only
  split
  · exact Sound.bind (s_map (Sound.choose (fun _ => Sound.pure _))) (fun _ => s_panic _)
  · exact Sound.bind (Sound.pure' _) (fun _ => s_panic _)
theorem s_intOf (v : Value) : Sound P X (asIntOf v) := by unfold asIntOf; split <;> first | exact Sound.pure' _ | exact Sound.halt _
theorem s_int (v : Value) : Sound P X (asInt v) := Sound.bind (s_intOf v) (fun _ => Sound.pure' _)
theorem s_bool (v : Value) : Sound P X (asBool v) := by unfold asBool; split <;> first | exact Sound.pure' _ | exact Sound.halt _
theorem s_str (v : Value) : Sound P X (asString v) := by unfold asString; split <;> first | exact Sound.pure' _ | exact Sound.halt _
theorem s_asAgg (v : Value) : Sound P X (asAgg v) := by unfold asAgg; split <;> first | exact Sound.pure' _ | exact Sound.halt _
theorem s_addr (v : Value) : Sound P X (asAddr v) := by unfold asAddr; split <;> first | exact Sound.pure' _ | exact Sound.halt _ | exact s_panic _
theorem s_sure (v : Value) : Sound P X (Instr.sureAddr v) := by unfold Instr.sureAddr; split <;> first | exact Sound.pure' _ | exact Sound.halt _
theorem s_room (n : Nat) : Sound P X (askRoom n) := by unfold askRoom; split <;> first | exact Sound.room (Sound.pure _) | exact Sound.pure' _
theorem s_mapM {γ : Type} {f : γ → Sem β} (hf : ∀ x, Sound P X (f x)) (xs : Array γ) : Sound P X (xs.mapM f) := by
  rw [Array.mapM_eq_mapM_toList]
  refine s_map ?_
  induction xs.toList with
  | nil => exact Sound.pure' _
  | cons x l ih =>
    rw [List.mapM_cons]
    exact Sound.bind (hf x) (fun _ => Sound.bind ih (fun _ => Sound.pure' _))

theorem s_alloc (t : TypeId) (b : Bool) (v : Value) : Sound P X (Instr.alloc t b v) := by
  unfold Instr.alloc
  refine Sound.bind (s_zero t) (fun z => ?_)
  split
  · exact Sound.bind (s_storeVar _ _ _) (fun _ => Sound.pure' _)
  · exact Sound.bind (s_var _ _) (fun _ => Sound.pure' _)
theorem s_box (t : TypeId) (v : Value) : Sound P X (Instr.box t v) := Sound.bind (s_var t v) (fun _ => Sound.pure' _)
theorem s_loadAt (t : TypeId) (v : Value) : Sound P X (Instr.loadAt t v) := Sound.bind (s_sure v) (fun _ => s_loadVar t _)
theorem s_storeAt (t : TypeId) (a v : Value) : Sound P X (Instr.storeAt t a v) := Sound.bind (s_sure a) (fun _ => s_storeVar t _ v)
theorem s_field (t : TypeId) (v : Value) (f : Nat) : Sound P X (Instr.field t v f) := by
  unfold Instr.field
  repeat' first | (with_reducible first | exact Sound.pure' _ | exact Sound.pure _ | exact Sound.halt _ | assumption | exact s_stuck _ | exact s_info _ | exact s_und _ | exact s_size _ | exact s_zero _ | exact s_agg _ | exact s_loads _ _ | exact s_stores _ _ _ | exact s_loadVar _ _ | exact s_storeVar _ _ _ | exact s_row _ _ | exact s_var _ _ | exact s_elem _ | exact s_part _ _ _ | exact s_panic _ | exact s_bounds _ _ _ _ | exact s_intOf _ | exact s_int _ | exact s_bool _ | exact s_str _ | exact s_asAgg _ | exact s_addr _ | exact s_sure _ | exact s_room _ | exact s_choose _ | exact s_load _ _ | exact s_store _ _ _ | refine s_program ?_ | refine Sound.bind ?_ (fun _ => ?_)) | ((with_reducible refine s_unsup _ ?_) <;> rfl) | (dsimp only) | split
theorem s_index (t : TypeId) (v i : Value) : Sound P X (Instr.index t v i) := by
  unfold Instr.index
  repeat' first | (with_reducible first | exact Sound.pure' _ | exact Sound.pure _ | exact Sound.halt _ | assumption | exact s_stuck _ | exact s_info _ | exact s_und _ | exact s_size _ | exact s_zero _ | exact s_agg _ | exact s_loads _ _ | exact s_stores _ _ _ | exact s_loadVar _ _ | exact s_storeVar _ _ _ | exact s_row _ _ | exact s_var _ _ | exact s_elem _ | exact s_part _ _ _ | exact s_panic _ | exact s_bounds _ _ _ _ | exact s_intOf _ | exact s_int _ | exact s_bool _ | exact s_str _ | exact s_asAgg _ | exact s_addr _ | exact s_sure _ | exact s_room _ | exact s_choose _ | exact s_load _ _ | exact s_store _ _ _ | refine s_program ?_ | refine Sound.bind ?_ (fun _ => ?_)) | ((with_reducible refine s_unsup _ ?_) <;> rfl) | (dsimp only) | split
theorem s_indexAt (t : TypeId) (v i : Value) : Sound P X (Instr.indexAt t v i) := by
  unfold Instr.indexAt
  repeat' first | (with_reducible first | exact Sound.pure' _ | exact Sound.pure _ | exact Sound.halt _ | assumption | exact s_stuck _ | exact s_info _ | exact s_und _ | exact s_size _ | exact s_zero _ | exact s_agg _ | exact s_loads _ _ | exact s_stores _ _ _ | exact s_loadVar _ _ | exact s_storeVar _ _ _ | exact s_row _ _ | exact s_var _ _ | exact s_elem _ | exact s_part _ _ _ | exact s_panic _ | exact s_bounds _ _ _ _ | exact s_intOf _ | exact s_int _ | exact s_bool _ | exact s_str _ | exact s_asAgg _ | exact s_addr _ | exact s_sure _ | exact s_room _ | exact s_choose _ | exact s_load _ _ | exact s_store _ _ _ | refine s_program ?_ | refine Sound.bind ?_ (fun _ => ?_)) | ((with_reducible refine s_unsup _ ?_) <;> rfl) | (dsimp only) | split
theorem s_build (t : TypeId) (ps : Array (Nat × Value)) : Sound P X (Instr.build t ps) := by
  unfold Instr.build
  refine Sound.bind (s_zero t) (fun z => Sound.bind (s_und t) (fun d => ?_))
  split
  · refine Sound.bind (s_mapM (fun f => Sound.bind (s_size _) (fun _ => Sound.pure' _)) _) (fun pl => ?_)
    repeat' first | (with_reducible first | exact Sound.pure' _ | exact Sound.pure _ | exact Sound.halt _ | assumption | exact s_stuck _ | exact s_info _ | exact s_und _ | exact s_size _ | exact s_zero _ | exact s_agg _ | exact s_loads _ _ | exact s_stores _ _ _ | exact s_loadVar _ _ | exact s_storeVar _ _ _ | exact s_row _ _ | exact s_var _ _ | exact s_elem _ | exact s_part _ _ _ | exact s_panic _ | exact s_bounds _ _ _ _ | exact s_intOf _ | exact s_int _ | exact s_bool _ | exact s_str _ | exact s_asAgg _ | exact s_addr _ | exact s_sure _ | exact s_room _ | exact s_choose _ | exact s_load _ _ | exact s_store _ _ _ | refine s_program ?_ | refine Sound.bind ?_ (fun _ => ?_)) | ((with_reducible refine s_unsup _ ?_) <;> rfl) | (dsimp only) | split
  · repeat' first | (with_reducible first | exact Sound.pure' _ | exact Sound.pure _ | exact Sound.halt _ | assumption | exact s_stuck _ | exact s_info _ | exact s_und _ | exact s_size _ | exact s_zero _ | exact s_agg _ | exact s_loads _ _ | exact s_stores _ _ _ | exact s_loadVar _ _ | exact s_storeVar _ _ _ | exact s_row _ _ | exact s_var _ _ | exact s_elem _ | exact s_part _ _ _ | exact s_panic _ | exact s_bounds _ _ _ _ | exact s_intOf _ | exact s_int _ | exact s_bool _ | exact s_str _ | exact s_asAgg _ | exact s_addr _ | exact s_sure _ | exact s_room _ | exact s_choose _ | exact s_load _ _ | exact s_store _ _ _ | refine s_program ?_ | refine Sound.bind ?_ (fun _ => ?_)) | ((with_reducible refine s_unsup _ ?_) <;> rfl) | (dsimp only) | split
  · repeat' first | (with_reducible first | exact Sound.pure' _ | exact Sound.pure _ | exact Sound.halt _ | assumption | exact s_stuck _ | exact s_info _ | exact s_und _ | exact s_size _ | exact s_zero _ | exact s_agg _ | exact s_loads _ _ | exact s_stores _ _ _ | exact s_loadVar _ _ | exact s_storeVar _ _ _ | exact s_row _ _ | exact s_var _ _ | exact s_elem _ | exact s_part _ _ _ | exact s_panic _ | exact s_bounds _ _ _ _ | exact s_intOf _ | exact s_int _ | exact s_bool _ | exact s_str _ | exact s_asAgg _ | exact s_addr _ | exact s_sure _ | exact s_room _ | exact s_choose _ | exact s_load _ _ | exact s_store _ _ _ | refine s_program ?_ | refine Sound.bind ?_ (fun _ => ?_)) | ((with_reducible refine s_unsup _ ?_) <;> rfl) | (dsimp only) | split
theorem s_buildSlice (t : TypeId) (n : Nat) (ps : Array (Nat × Value)) : Sound P X (Instr.buildSlice t n ps) := by
  unfold Instr.buildSlice
  repeat' first | (with_reducible first | exact Sound.pure' _ | exact Sound.pure _ | exact Sound.halt _ | assumption | exact s_stuck _ | exact s_info _ | exact s_und _ | exact s_size _ | exact s_zero _ | exact s_agg _ | exact s_loads _ _ | exact s_stores _ _ _ | exact s_loadVar _ _ | exact s_storeVar _ _ _ | exact s_row _ _ | exact s_var _ _ | exact s_elem _ | exact s_part _ _ _ | exact s_panic _ | exact s_bounds _ _ _ _ | exact s_intOf _ | exact s_int _ | exact s_bool _ | exact s_str _ | exact s_asAgg _ | exact s_addr _ | exact s_sure _ | exact s_room _ | exact s_choose _ | exact s_load _ _ | exact s_store _ _ _ | refine s_program ?_ | refine Sound.bind ?_ (fun _ => ?_)) | ((with_reducible refine s_unsup _ ?_) <;> rfl) | (dsimp only) | split
theorem s_extract (v : Value) (i : Nat) : Sound P X (Instr.extract v i) := by
  unfold Instr.extract
  repeat' first | (with_reducible first | exact Sound.pure' _ | exact Sound.pure _ | exact Sound.halt _ | assumption | exact s_stuck _ | exact s_info _ | exact s_und _ | exact s_size _ | exact s_zero _ | exact s_agg _ | exact s_loads _ _ | exact s_stores _ _ _ | exact s_loadVar _ _ | exact s_storeVar _ _ _ | exact s_row _ _ | exact s_var _ _ | exact s_elem _ | exact s_part _ _ _ | exact s_panic _ | exact s_bounds _ _ _ _ | exact s_intOf _ | exact s_int _ | exact s_bool _ | exact s_str _ | exact s_asAgg _ | exact s_addr _ | exact s_sure _ | exact s_room _ | exact s_choose _ | exact s_load _ _ | exact s_store _ _ _ | refine s_program ?_ | refine Sound.bind ?_ (fun _ => ?_)) | ((with_reducible refine s_unsup _ ?_) <;> rfl) | (dsimp only) | split
theorem s_makeFunc (fn : Fn) (a b : Array Value) : Sound P X (Instr.makeFunc fn a b) := Sound.pure' _
theorem s_makeInterface (t : TypeId) (v : Value) : Sound P X (Instr.makeInterface t v) := by
  unfold Instr.makeInterface
  repeat' first | (with_reducible first | exact Sound.pure' _ | exact Sound.pure _ | exact Sound.halt _ | assumption | exact s_stuck _ | exact s_info _ | exact s_und _ | exact s_size _ | exact s_zero _ | exact s_agg _ | exact s_loads _ _ | exact s_stores _ _ _ | exact s_loadVar _ _ | exact s_storeVar _ _ _ | exact s_row _ _ | exact s_var _ _ | exact s_elem _ | exact s_part _ _ _ | exact s_panic _ | exact s_bounds _ _ _ _ | exact s_intOf _ | exact s_int _ | exact s_bool _ | exact s_str _ | exact s_asAgg _ | exact s_addr _ | exact s_sure _ | exact s_room _ | exact s_choose _ | exact s_load _ _ | exact s_store _ _ _ | refine s_program ?_ | refine Sound.bind ?_ (fun _ => ?_)) | ((with_reducible refine s_unsup _ ?_) <;> rfl) | (dsimp only) | split
theorem s_makeMap (t : TypeId) (v : Option Value) : Sound P X (Instr.makeMap t v) := by
  unfold Instr.makeMap
  have hn : Sound P X (do pure (.map (some (← newObj (.map #[] 0)))) : Sem Value) := Sound.bind (Sound.new (by simp) (fun _ => Sound.pure _)) (fun _ => Sound.pure' _)
  repeat' first | (with_reducible first | exact Sound.pure' _ | exact Sound.pure _ | exact Sound.halt _ | assumption | exact s_stuck _ | exact s_info _ | exact s_und _ | exact s_size _ | exact s_zero _ | exact s_agg _ | exact s_loads _ _ | exact s_stores _ _ _ | exact s_loadVar _ _ | exact s_storeVar _ _ _ | exact s_row _ _ | exact s_var _ _ | exact s_elem _ | exact s_part _ _ _ | exact s_panic _ | exact s_bounds _ _ _ _ | exact s_intOf _ | exact s_int _ | exact s_bool _ | exact s_str _ | exact s_asAgg _ | exact s_addr _ | exact s_sure _ | exact s_room _ | exact s_choose _ | exact s_load _ _ | exact s_store _ _ _ | refine s_program ?_ | refine Sound.bind ?_ (fun _ => ?_)) | ((with_reducible refine s_unsup _ ?_) <;> rfl) | (dsimp only) | split
theorem s_makeSlice (t : TypeId) (a b : Value) : Sound P X (Instr.makeSlice t a b) := by
  unfold Instr.makeSlice
  repeat' first | (with_reducible first | exact Sound.pure' _ | exact Sound.pure _ | exact Sound.halt _ | assumption | exact s_stuck _ | exact s_info _ | exact s_und _ | exact s_size _ | exact s_zero _ | exact s_agg _ | exact s_loads _ _ | exact s_stores _ _ _ | exact s_loadVar _ _ | exact s_storeVar _ _ _ | exact s_row _ _ | exact s_var _ _ | exact s_elem _ | exact s_part _ _ _ | exact s_panic _ | exact s_bounds _ _ _ _ | exact s_intOf _ | exact s_int _ | exact s_bool _ | exact s_str _ | exact s_asAgg _ | exact s_addr _ | exact s_sure _ | exact s_room _ | exact s_choose _ | exact s_load _ _ | exact s_store _ _ _ | refine s_program ?_ | refine Sound.bind ?_ (fun _ => ?_)) | ((with_reducible refine s_unsup _ ?_) <;> rfl) | (dsimp only) | split
end
end Go.Proofs.YtnojjmkmkelbgaaGreat

/- Runs carried over, 4: more of what the operations are made of. -/
namespace Go.Proofs.YtnojjmkmkelbgaaGreat
open Go.Conc

section
variable {P : Program} {X : Nat → Prop} {α β : Type}

theorem s_getObj (r : Nat) : Sound P X (getObj r) := Sound.getObj (fun _ => Sound.pure _)
theorem s_frozen (a : Addr) : Sound P X (frozen a) := Sound.frozen (fun _ => Sound.pure _)
theorem s_set (r : Nat) {o : Obj} (h : (∀ a t, o ≠ .view a t) ∧ ∀ c t, o ≠ .pending c t) : Sound P X (setObj r o) := Sound.setObj h (Sound.pure _)
/-- A term that comes to no end at all. -/
def Ill (P : Program) (s : Sem α) : Prop := ∀ w es, ∃ h u eu, s.runT P w es = (.halt h u, eu) ∧ free h = true
theorem Ill.alike {s : Sem α} (h : Ill P s) (n : Nat) (w0 u0 u : World) (es : Array Event) (rw : Result α × Array Event) : Alike X n w0 u0 es rw (s.runT P u es) := by
  intro _
  obtain ⟨h, u', eu, e, hp⟩ := h u es
  rw [e]
  refine ⟨?_, fun hf => by rw [hp] at hf; cases hf⟩
  cases h <;> first | rfl | (cases hp; done) | (rename_i x; cases x <;> first | rfl | cases hp)
/-- A look at a block's shape whose answer 'no cells' leads nowhere, or which does not hang on how many there are. -/
theorem Sound.shape2 {r : Nat} {k : Option (TypeId × Nat) → Sem α} (hb : ∀ t n, k (some (t, n)) = k (some (t, 0)) ∨ Ill P (k (some (t, 0)))) (hk : ∀ o, Sound P X (k o)) : Sound P X (Sem.shape r k) := fun n w u es h => by
  simp only [Sem.runT]
  by_cases hr : X r
  · obtain ⟨c, e, hw, hu⟩ := h.cov r hr
    simp only [World.shape?, hw, hu]
    rcases hb e c.size with h1 | h1
    · rw [h1]; exact hk _ _ _ _ _ h
    · exact h1.alike _ _ _ _ _ _
  · simp only [World.shape?, h.same r hr]
    exact hk _ _ _ _ _ h
theorem s_shape {r : Nat} {f : Option (TypeId × Nat) → Sem α} (hb : ∀ t n, f (some (t, n)) = f (some (t, 0)) ∨ Ill P (f (some (t, 0)))) (hk : ∀ o, Sound P X (f o)) : Sound P X (shape r >>= f) := Sound.shape2 hb hk
theorem s_viewAt (r : Nat) : Sound P X (viewAt r) := by
  unfold viewAt
  refine s_shape (fun t n => .inl rfl) (fun o => ?_)
  split
  · exact Sound.pure' _
  · refine Sound.bind (s_getObj r) (fun _ => ?_)
    split <;> exact Sound.pure' _
theorem s_numberAt (r : Nat) : Sound P X (numberAt r) := by
  unfold numberAt
  refine s_shape (fun t n => .inl rfl) (fun o => ?_)
  split
  · exact Sound.pure' _
  · refine Sound.bind (s_getObj r) (fun _ => ?_)
    split <;> exact Sound.pure' _
theorem s_noView (a : Addr) : Sound P X (noView a) := by
  unfold noView
  refine Sound.bind (s_viewAt _) (fun _ => ?_)
  split <;> first | exact Sound.halt _ | exact Sound.pure' _
theorem s_behind (n : Addr) : Sound P X (behindNumber n) := Sound.bind (s_numberAt _) (fun _ => Sound.pure' _)
theorem s_byteOf (a : Addr) : Sound P X (byteOf a) := by
  unfold byteOf
  dsimp only
  split
  · exact Sound.pure' _
  · refine s_program (Sound.bind (s_noView a) (fun _ => s_shape (fun t n => .inl rfl) (fun o => ?_)))
    repeat' first | (with_reducible first | exact Sound.pure' _ | exact Sound.pure _ | exact Sound.halt _ | assumption | exact s_stuck _ | exact s_info _ | exact s_und _ | exact s_size _ | exact s_zero _ | exact s_agg _ | exact s_loads _ _ | exact s_stores _ _ _ | exact s_loadVar _ _ | exact s_storeVar _ _ _ | exact s_row _ _ | exact s_var _ _ | exact s_elem _ | exact s_part _ _ _ | exact s_panic _ | exact s_bounds _ _ _ _ | exact s_intOf _ | exact s_int _ | exact s_bool _ | exact s_str _ | exact s_asAgg _ | exact s_addr _ | exact s_sure _ | exact s_room _ | exact s_choose _ | exact s_load _ _ | exact s_store _ _ _ | refine s_program ?_ | refine Sound.bind ?_ (fun _ => ?_)) | ((with_reducible refine s_unsup _ ?_) <;> rfl) | (dsimp only) | split
theorem s_partAt (a : Addr) (c b : Nat) : Sound P X (partAt a c b) := by
  unfold partAt
  exact Sound.bind (s_byteOf _) (fun _ => Sound.bind (s_byteOf _) (fun _ => Sound.pure' _))
theorem s_fieldPlace (a : Addr) (f : Field) : Sound P X (fieldPlace a f) := by
  unfold fieldPlace
  refine Sound.bind (s_size _) (fun _ => ?_)
  split
  · exact s_partAt _ _ _
  · exact Sound.pure' _
theorem s_fieldAt (t : TypeId) (v : Value) (f : Nat) : Sound P X (Instr.fieldAt t v f) := by
  unfold Instr.fieldAt
  repeat' first | (with_reducible first | exact Sound.pure' _ | exact Sound.pure _ | exact Sound.halt _ | assumption | exact s_stuck _ | exact s_info _ | exact s_und _ | exact s_size _ | exact s_zero _ | exact s_agg _ | exact s_loads _ _ | exact s_stores _ _ _ | exact s_loadVar _ _ | exact s_storeVar _ _ _ | exact s_row _ _ | exact s_var _ _ | exact s_elem _ | exact s_part _ _ _ | exact s_panic _ | exact s_bounds _ _ _ _ | exact s_intOf _ | exact s_int _ | exact s_bool _ | exact s_str _ | exact s_asAgg _ | exact s_addr _ | exact s_sure _ | exact s_room _ | exact s_choose _ | exact s_load _ _ | exact s_store _ _ _ | exact s_fieldPlace _ _ | refine s_program ?_ | refine Sound.bind ?_ (fun _ => ?_)) | ((with_reducible refine s_unsup _ ?_) <;> rfl) | (dsimp only) | split
theorem s_sliceBound (x : Value) (y : Nat) (c : BoundsCode) : Sound P X (Instr.sliceBound x y c) := by
  unfold Instr.sliceBound
  repeat' first | (with_reducible first | exact Sound.pure' _ | exact Sound.pure _ | exact Sound.halt _ | assumption | exact s_stuck _ | exact s_info _ | exact s_und _ | exact s_size _ | exact s_zero _ | exact s_agg _ | exact s_loads _ _ | exact s_stores _ _ _ | exact s_loadVar _ _ | exact s_storeVar _ _ _ | exact s_row _ _ | exact s_var _ _ | exact s_elem _ | exact s_part _ _ _ | exact s_panic _ | exact s_bounds _ _ _ _ | exact s_intOf _ | exact s_int _ | exact s_bool _ | exact s_str _ | exact s_asAgg _ | exact s_addr _ | exact s_sure _ | exact s_room _ | exact s_choose _ | exact s_load _ _ | exact s_store _ _ _ | refine s_program ?_ | refine Sound.bind ?_ (fun _ => ?_)) | ((with_reducible refine s_unsup _ ?_) <;> rfl) | (dsimp only) | split
theorem s_sliceBounds (b : Bool) (n c : Nat) (l h m : Option Value) : Sound P X (Instr.sliceBounds b n c l h m) := by
  unfold Instr.sliceBounds
  repeat' first | (with_reducible first | exact Sound.pure' _ | exact Sound.pure _ | exact Sound.halt _ | assumption | exact s_stuck _ | exact s_info _ | exact s_und _ | exact s_size _ | exact s_zero _ | exact s_agg _ | exact s_loads _ _ | exact s_stores _ _ _ | exact s_loadVar _ _ | exact s_storeVar _ _ _ | exact s_row _ _ | exact s_var _ _ | exact s_elem _ | exact s_part _ _ _ | exact s_panic _ | exact s_bounds _ _ _ _ | exact s_intOf _ | exact s_int _ | exact s_bool _ | exact s_str _ | exact s_asAgg _ | exact s_addr _ | exact s_sure _ | exact s_room _ | exact s_choose _ | exact s_load _ _ | exact s_store _ _ _ | exact s_sliceBound _ _ _ | refine s_program ?_ | refine Sound.bind ?_ (fun _ => ?_)) | ((with_reducible refine s_unsup _ ?_) <;> rfl) | (dsimp only) | split
theorem s_slice (t : TypeId) (x : Value) (l h m : Option Value) : Sound P X (Instr.slice t x l h m) := by
  unfold Instr.slice
  repeat' first | (with_reducible first | exact Sound.pure' _ | exact Sound.pure _ | exact Sound.halt _ | assumption | exact s_stuck _ | exact s_info _ | exact s_und _ | exact s_size _ | exact s_zero _ | exact s_agg _ | exact s_loads _ _ | exact s_stores _ _ _ | exact s_loadVar _ _ | exact s_storeVar _ _ _ | exact s_row _ _ | exact s_var _ _ | exact s_elem _ | exact s_part _ _ _ | exact s_panic _ | exact s_bounds _ _ _ _ | exact s_intOf _ | exact s_int _ | exact s_bool _ | exact s_str _ | exact s_asAgg _ | exact s_addr _ | exact s_sure _ | exact s_room _ | exact s_choose _ | exact s_load _ _ | exact s_store _ _ _ | exact s_sliceBounds _ _ _ _ _ _ | refine s_program ?_ | refine Sound.bind ?_ (fun _ => ?_)) | ((with_reducible refine s_unsup _ ?_) <;> rfl) | (dsimp only) | split
theorem s_sliceAt (t : TypeId) (x : Value) (l h m : Option Value) : Sound P X (Instr.sliceAt t x l h m) := by
  unfold Instr.sliceAt
  repeat' first | (with_reducible first | exact Sound.pure' _ | exact Sound.pure _ | exact Sound.halt _ | assumption | exact s_stuck _ | exact s_info _ | exact s_und _ | exact s_size _ | exact s_zero _ | exact s_agg _ | exact s_loads _ _ | exact s_stores _ _ _ | exact s_loadVar _ _ | exact s_storeVar _ _ _ | exact s_row _ _ | exact s_var _ _ | exact s_elem _ | exact s_part _ _ _ | exact s_panic _ | exact s_bounds _ _ _ _ | exact s_intOf _ | exact s_int _ | exact s_bool _ | exact s_str _ | exact s_asAgg _ | exact s_addr _ | exact s_sure _ | exact s_room _ | exact s_choose _ | exact s_load _ _ | exact s_store _ _ _ | exact s_sliceBounds _ _ _ _ _ _ | exact s_slice _ _ _ _ _ | refine s_program ?_ | refine Sound.bind ?_ (fun _ => ?_)) | ((with_reducible refine s_unsup _ ?_) <;> rfl) | (dsimp only) | split
theorem s_range (t : TypeId) (x : Value) : Sound P X (Instr.range t x) := by
  have hn : ∀ (o : Obj), ((∀ a t, o ≠ .view a t) ∧ ∀ c t, o ≠ .pending c t) → Sound P X (do pure (.pointer (some ⟨← newObj o, 0, none⟩)) : Sem Value) := fun o ho => Sound.bind (Sound.new ho (fun _ => Sound.pure _)) (fun _ => Sound.pure' _)
  unfold Instr.range
  refine Sound.bind (s_und t) (fun d => ?_)
  dsimp only
  split
  · exact hn _ (by simp)
  · exact hn _ (by simp)
  · refine Sound.bind (s_getObj _) (fun o => ?_)
    split
    · exact hn _ (by simp)
    · exact Sound.halt _
  · exact Sound.halt _
theorem s_next (v : Value) (b : Bool) (t : TypeId) : Sound P X (Instr.next v b t) := by
  unfold Instr.next
  repeat' first | (with_reducible first | exact Sound.pure' _ | exact Sound.pure _ | exact Sound.halt _ | assumption | exact s_stuck _ | exact s_info _ | exact s_und _ | exact s_size _ | exact s_zero _ | exact s_agg _ | exact s_loads _ _ | exact s_stores _ _ _ | exact s_loadVar _ _ | exact s_storeVar _ _ _ | exact s_row _ _ | exact s_var _ _ | exact s_elem _ | exact s_part _ _ _ | exact s_panic _ | exact s_bounds _ _ _ _ | exact s_intOf _ | exact s_int _ | exact s_bool _ | exact s_str _ | exact s_asAgg _ | exact s_addr _ | exact s_sure _ | exact s_room _ | exact s_choose _ | exact s_load _ _ | exact s_store _ _ _ | exact s_getObj _ | refine s_program ?_ | refine Sound.bind ?_ (fun _ => ?_)) | exact s_set _ (by simp) | ((with_reducible refine s_unsup _ ?_) <;> rfl) | (dsimp only) | split
theorem s_len (a : Array TypeId) (t : TypeId) (v : Array Value) : Sound P X (Builtin.len_ a t v) := by
  unfold Builtin.len_
  repeat' first | (with_reducible first | exact Sound.pure' _ | exact Sound.pure _ | exact Sound.halt _ | assumption | exact s_stuck _ | exact s_info _ | exact s_und _ | exact s_size _ | exact s_zero _ | exact s_agg _ | exact s_loads _ _ | exact s_stores _ _ _ | exact s_loadVar _ _ | exact s_storeVar _ _ _ | exact s_row _ _ | exact s_var _ _ | exact s_elem _ | exact s_part _ _ _ | exact s_panic _ | exact s_bounds _ _ _ _ | exact s_intOf _ | exact s_int _ | exact s_bool _ | exact s_str _ | exact s_asAgg _ | exact s_addr _ | exact s_sure _ | exact s_room _ | exact s_choose _ | exact s_load _ _ | exact s_store _ _ _ | exact s_getObj _ | refine s_program ?_ | refine Sound.bind ?_ (fun _ => ?_)) | ((with_reducible refine s_unsup _ ?_) <;> rfl) | (dsimp only) | split
theorem s_lenOf (v : Value) : Sound P X (Builtin.lenOf v) := by
  unfold Builtin.lenOf
  split <;> first | exact Sound.pure' _ | exact Sound.halt _
theorem s_firstCells (s n : Nat) (v : Value) : Sound P X (Builtin.firstCells s n v) := by
  unfold Builtin.firstCells
  split <;> first | exact s_loads _ _ | exact Sound.pure' _ | exact Sound.halt _
theorem s_copy (a : Array TypeId) (t : TypeId) (v : Array Value) : Sound P X (Builtin.copy_ a t v) := by
  unfold Builtin.copy_
  repeat' first | (with_reducible first | exact Sound.pure' _ | exact Sound.pure _ | exact Sound.halt _ | assumption | exact s_stuck _ | exact s_info _ | exact s_und _ | exact s_size _ | exact s_zero _ | exact s_agg _ | exact s_loads _ _ | exact s_stores _ _ _ | exact s_loadVar _ _ | exact s_storeVar _ _ _ | exact s_row _ _ | exact s_var _ _ | exact s_elem _ | exact s_part _ _ _ | exact s_panic _ | exact s_bounds _ _ _ _ | exact s_intOf _ | exact s_int _ | exact s_bool _ | exact s_str _ | exact s_asAgg _ | exact s_addr _ | exact s_sure _ | exact s_room _ | exact s_choose _ | exact s_load _ _ | exact s_store _ _ _ | exact s_lenOf _ | exact s_firstCells _ _ _ | refine s_program ?_ | refine Sound.bind ?_ (fun _ => ?_)) | ((with_reducible refine s_unsup _ ?_) <;> rfl) | (dsimp only) | split
end
end Go.Proofs.YtnojjmkmkelbgaaGreat

/- Runs carried over, 5: comparing, looking up, appending; the operations. -/
namespace Go.Proofs.YtnojjmkmkelbgaaGreat
open Go.Conc

section
variable {P : Program} {X : Nat → Prop} {α β : Type}

theorem s_forList {γ σ : Type} {f : γ → σ → Sem (ForInStep σ)} (hf : ∀ x s, Sound P X (f x s)) : ∀ (l : List γ) (i : σ), Sound P X (forIn l i f)
  | [], i => by rw [List.forIn_nil]; exact Sound.pure' _
  | x :: l, i => by
    rw [List.forIn_cons]
    refine Sound.bind (hf x i) (fun r => ?_)
    cases r with
    | done s => exact Sound.pure' _
    | yield s => exact s_forList hf l s
theorem s_forArr {γ σ : Type} {f : γ → σ → Sem (ForInStep σ)} (hf : ∀ x s, Sound P X (f x s)) (xs : Array γ) (i : σ) : Sound P X (forIn xs i f) := by
  rw [← Array.forIn_toList]; exact s_forList hf _ _
theorem s_forRange {σ : Type} {f : Nat → σ → Sem (ForInStep σ)} (hf : ∀ x s, Sound P X (f x s)) (r : Std.Legacy.Range) (i : σ) : Sound P X (forIn r i f) := by
  rw [Std.Legacy.Range.forIn_eq_forIn_range']; exact s_forList hf _ _

def sg (w : World) (a : Addr) : Bool := w.frozen? a || (match w.shape? a.block with | some (_, n) => w.frozen? { block := a.block, off := n } | none => false)
def nn (w : World) (a : Addr) : Bool := match w.shape? a.block with | some (_, 0) => true | _ => false
theorem run_stringish (w : World) (a : Addr) (es : Array Event) : (stringish a).runT P w es = (.ok (sg w a) w, es) := by
  unfold stringish
  show ((frozen a).bind _).runT P w es = _
  rw [Sem.runT_bind']
  have e : (frozen a).runT P w es = (.ok (w.frozen? a) w, es) := rfl
  rw [e]
  cases hf : w.frozen? a with
  | true => simp only [sg, hf, Bool.true_or]; rfl
  | false =>
    simp only [sg, hf, Bool.false_or, Bool.false_eq_true, if_false]
    show ((shape a.block).bind _).runT P w es = _
    rw [Sem.runT_bind']
    have e2 : (shape a.block).runT P w es = (.ok (w.shape? a.block) w, es) := rfl
    rw [e2]
    cases hs : w.shape? a.block with
    | none => rfl
    | some o => rfl
theorem Sim.sgX {n : Nat} {w u : World} (h : Sim X n w u) {a : Addr} (ha : X a.block) : sg u a = false ∧ sg w a = false := by
  obtain ⟨c, e, hw, hu⟩ := h.cov _ ha
  constructor <;> simp [sg, World.frozen?, World.shape?, hw, hu]
theorem Sim.sg {n : Nat} {w u : World} (h : Sim X n w u) (a : Addr) : sg u a = sg w a := by
  by_cases ha : X a.block
  · rw [(h.sgX ha).1, (h.sgX ha).2]
  · simp only [Go.Proofs.YtnojjmkmkelbgaaGreat.sg, World.frozen?, World.shape?, h.same _ ha]
theorem run_mayBeOne (w : World) (a b : Addr) (es : Array Event) : (mayBeOne a b).runT P w es = (.ok ((sg w a && sg w b) || (sg w a && nn w a) || (sg w b && nn w b)) w, es) := by
  unfold mayBeOne
  dsimp only
  show ((stringish a).bind _).runT P w es = _
  rw [Sem.runT_bind', run_stringish]
  show ((stringish b).bind _).runT P w es = _
  rw [Sem.runT_bind', run_stringish]
  show ((Sem.bind (shape a.block) _).bind _).runT P w es = _
  simp only [Sem.runT_bind']
  have e2 : ∀ r, (shape r).runT P w es = (.ok (w.shape? r) w, es) := fun _ => rfl
  rw [e2]
  show ((Sem.bind (Sem.bind (shape b.block) _) _).runT P w es) = _
  simp only [Sem.runT_bind']
  rw [e2]
  rfl
theorem s_mayBeOne (a b : Addr) : Sound P X (mayBeOne a b) := fun n w u es h => by
  rw [run_mayBeOne, run_mayBeOne]
  refine fun _ => ⟨fun e he => .inl he, w, ?_, On.refl h⟩
  have hn : ∀ x, (Go.Proofs.YtnojjmkmkelbgaaGreat.sg u x && nn u x) = (Go.Proofs.YtnojjmkmkelbgaaGreat.sg w x && nn w x) := fun x => by
    by_cases hx : X x.block
    · rw [(h.sgX hx).1, (h.sgX hx).2]; rfl
    · rw [h.sg x]; simp only [nn, World.shape?, h.same _ hx]
  rw [h.sg a, h.sg b, ← h.sg a, ← h.sg b, hn a, hn b, h.sg a, h.sg b]
theorem s_sameAddr (a b : Addr) : Sound P X (sameAddr a b) := by
  unfold sameAddr
  repeat' first | (with_reducible first | exact Sound.pure' _ | exact Sound.pure _ | exact Sound.halt _ | assumption | exact s_stuck _ | exact s_info _ | exact s_und _ | exact s_size _ | exact s_zero _ | exact s_agg _ | exact s_loads _ _ | exact s_stores _ _ _ | exact s_loadVar _ _ | exact s_storeVar _ _ _ | exact s_row _ _ | exact s_var _ _ | exact s_elem _ | exact s_part _ _ _ | exact s_panic _ | exact s_bounds _ _ _ _ | exact s_intOf _ | exact s_int _ | exact s_bool _ | exact s_str _ | exact s_asAgg _ | exact s_addr _ | exact s_sure _ | exact s_room _ | exact s_choose _ | exact s_load _ _ | exact s_store _ _ _ | exact s_getObj _ | exact s_frozen _ | exact s_noView _ | exact s_mayBeOne _ _ | refine s_program ?_ | refine Sound.bind ?_ (fun _ => ?_)) | ((with_reducible refine s_unsup _ ?_) <;> rfl) | (dsimp only) | split
theorem s_samePointer (a b : Option Addr) : Sound P X (samePointer a b) := by
  unfold samePointer
  split <;> first | exact s_sameAddr _ _ | exact Sound.pure' _
theorem s_typeStr (t : TypeId) : Sound P X (typeStr t) := by
  unfold typeStr
  repeat' first | (with_reducible first | exact Sound.pure' _ | exact Sound.pure _ | exact Sound.halt _ | assumption | exact s_stuck _ | exact s_info _ | exact s_und _ | exact s_size _ | exact s_zero _ | exact s_agg _ | exact s_loads _ _ | exact s_stores _ _ _ | exact s_loadVar _ _ | exact s_storeVar _ _ _ | exact s_row _ _ | exact s_var _ _ | exact s_elem _ | exact s_part _ _ _ | exact s_panic _ | exact s_bounds _ _ _ _ | exact s_intOf _ | exact s_int _ | exact s_bool _ | exact s_str _ | exact s_asAgg _ | exact s_addr _ | exact s_sure _ | exact s_room _ | exact s_choose _ | exact s_load _ _ | exact s_store _ _ _ | exact s_getObj _ | refine s_program ?_ | refine Sound.bind ?_ (fun _ => ?_)) | ((with_reducible refine s_unsup _ ?_) <;> rfl) | (dsimp only) | split
theorem s_equalIn : ∀ (d : Nat) (t : TypeId) (x y : Value), Sound P X (Op.equalIn d t x y)
  | 0, _, _, _ => Sound.halt _
  | d + 1, t, x, y => by
    have ih := fun t x y => s_equalIn d t x y
    unfold Op.equalIn
    refine Sound.bind (s_und t) (fun u => ?_)
    split <;> repeat' first | (with_reducible first | exact Sound.pure' _ | exact Sound.pure _ | exact Sound.halt _ | assumption | exact s_stuck _ | exact s_info _ | exact s_und _ | exact s_size _ | exact s_zero _ | exact s_agg _ | exact s_loads _ _ | exact s_stores _ _ _ | exact s_loadVar _ _ | exact s_storeVar _ _ _ | exact s_row _ _ | exact s_var _ _ | exact s_elem _ | exact s_part _ _ _ | exact s_panic _ | exact s_bounds _ _ _ _ | exact s_intOf _ | exact s_int _ | exact s_bool _ | exact s_str _ | exact s_asAgg _ | exact s_addr _ | exact s_sure _ | exact s_room _ | exact s_choose _ | exact s_load _ _ | exact s_store _ _ _ | exact s_getObj _ | exact s_behind _ | exact s_byteOf _ | exact s_sameAddr _ _ | exact s_samePointer _ _ | exact s_typeStr _ | exact ih _ _ _ | refine s_forArr (fun _ _ => ?_) _ _ | refine s_forRange (fun _ _ => ?_) _ _ | refine s_program ?_ | refine Sound.bind ?_ (fun _ => ?_)) | ((with_reducible refine s_unsup _ ?_) <;> rfl) | (dsimp only) | split
theorem s_equal (t : TypeId) (x y : Value) : Sound P X (Op.equal t x y) := s_equalIn _ _ _ _
end
end Go.Proofs.YtnojjmkmkelbgaaGreat
