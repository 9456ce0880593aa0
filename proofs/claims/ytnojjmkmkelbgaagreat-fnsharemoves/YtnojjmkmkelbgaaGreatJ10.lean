/- Workers who read, add to one sum and leave, 1: what each suffers, what each does. -/
import Derived.Test.YtnojjmkmkelbgaaGreatJ8
namespace Go.Proofs.YtnojjmkmkelbgaaGreat
open Go.Conc Go.ConcN
open Go.ConcR (KK wgBlock WgAt stA smA rd wr mk Payload DC0 g_of_ofEvents ofEvent_mk)

def SumAt (p : Ph) (w : World) (s : Int) : Prop := w.heap[p.S]? = some (.cells #[.int .u32 s] p.tS)
def SumLive (p : Ph) (w : World) : Prop := ∃ s, SumAt p w s
def sA (p : Ph) : Addr := ⟨p.S, 0, none⟩

/-- No package-level variable waits. -/
def NV (w : World) : Prop := ∀ (b : Nat) (c : Array Value) (t : TypeId), w.heap[b]? = some (Obj.pending c t) → gN ≤ b
theorem NV.one {w w₁ : World} {C : Nat} {c : Array Value} {e : TypeId} {f : Nat × Nat} (h : NV w) (hb : ∀ b, b ≠ C → w₁.heap[b]? = w.heap[b]?) (hC : w₁.heap[C]? = some (.cells c e f)) : NV w₁ := by
  intro b a t hx
  by_cases hbc : b = C
  · subst hbc; rw [hC] at hx; cases hx
  · rw [hb b hbc] at hx; exact h b a t hx

/-- What a worker suffers whose own blocks are M. -/
structure RK (p : Ph) (M : Nat → Prop) (w w₁ : World) : Prop where
  low : ∀ b, b < p.Low → b ≠ p.Wg → b ≠ p.S → w₁.heap[b]? = w.heap[b]?
  own : ∀ b, M b → w₁.heap[b]? = w.heap[b]?
  size : w.heap.size ≤ w₁.heap.size
  live : WgLive p.ty p.Wg w → WgLive p.ty p.Wg w₁
  sum : SumLive p w → SumLive p w₁
/-- What the starter suffers. -/
structure R0 (p : Ph) (M : Nat → Prop) (w w₁ : World) : Prop where
  tape : w₁.tape = w.tape
  os : w₁.os = w.os
  output : w₁.output = w.output
  nv : NV w → NV w₁
  rk : RK p M w w₁

/-- A turn of the world: blocks of Z alone. -/
structure Turn (p : Ph) (Z : Nat → Prop) (w w₁ : World) : Prop where
  tape : w₁.tape = w.tape
  os : w₁.os = w.os
  output : w₁.output = w.output
  nv : NV w → NV w₁
  size : w.heap.size ≤ w₁.heap.size
  block : ∀ b, ¬ Z b → b < w.heap.size → w₁.heap[b]? = w.heap[b]?
  live : WgLive p.ty p.Wg w → WgLive p.ty p.Wg w₁
  sum : SumLive p w → SumLive p w₁

section
variable {p : Ph} {M Z : Nat → Prop} {w w₁ w₂ : World}
theorem RK.refl (w : World) : RK p M w w := ⟨fun _ _ _ _ => rfl, fun _ _ => rfl, Nat.le_refl _, id, id⟩
theorem RK.trans (h : RK p M w w₁) (h' : RK p M w₁ w₂) : RK p M w w₂ :=
  ⟨fun b x y z => (h'.low b x y z).trans (h.low b x y z), fun b x => (h'.own b x).trans (h.own b x), Nat.le_trans h.size h'.size, h'.live ∘ h.live, h'.sum ∘ h.sum⟩
theorem RK.tr : ∀ a b c, RK p M a b → RK p M b c → RK p M a c := fun _ _ _ => RK.trans
theorem R0.refl (w : World) : R0 p M w w := ⟨rfl, rfl, rfl, id, .refl w⟩
theorem R0.trans (h : R0 p M w w₁) (h' : R0 p M w₁ w₂) : R0 p M w w₂ := ⟨h'.tape.trans h.tape, h'.os.trans h.os, h'.output.trans h.output, h'.nv ∘ h.nv, h.rk.trans h'.rk⟩
theorem R0.tr : ∀ a b c, R0 p M a b → R0 p M b c → R0 p M a c := fun _ _ _ => R0.trans
theorem R0.weak {M' : Nat → Prop} (h : R0 p M w w₁) (hM : ∀ b, M' b → M b) : R0 p M' w w₁ := ⟨h.tape, h.os, h.output, h.nv, h.rk.low, fun b x => h.rk.own b (hM b x), h.rk.size, h.rk.live, h.rk.sum⟩

theorem Turn.refl (w : World) : Turn p Z w w := ⟨rfl, rfl, rfl, id, Nat.le_refl _, fun _ _ _ => rfl, id, id⟩
theorem Turn.at (w : World) (d : Nat) : Turn p Z w (w.at d) := ⟨rfl, rfl, rfl, id, Nat.le_refl _, fun _ _ _ => rfl, id, id⟩
theorem Turn.r0 (h : Turn p Z w w₁) (hL : p.Low ≤ w.heap.size) (hZ : ∀ b, Z b → b = p.Wg ∨ b = p.S ∨ p.Low ≤ b) (hM : ∀ b, M b → ¬ Z b ∧ b < w.heap.size) : R0 p M w w₁ :=
  ⟨h.tape, h.os, h.output, h.nv, fun b x y z => h.block b (fun hz => by have := hZ b hz; omega) (by omega), fun b x => h.block b (hM b x).1 (hM b x).2, h.size, h.live, h.sum⟩
theorem Turn.wg (h : Aside p.Wg w w₁) (hl : WgLive p.ty p.Wg w₁) (hne : p.Wg ≠ p.S) : Turn p (· = p.Wg) w w₁ :=
  ⟨h.tape, h.os, h.output, fun k => let ⟨_, _, hx⟩ := hl; k.one h.block hx, Nat.le_of_eq h.size.symm, fun b hb _ => h.block b hb, fun _ => hl, fun ⟨s, hs⟩ => ⟨s, (h.block p.S (Ne.symm hne)).trans hs⟩⟩
theorem Turn.su (h : Aside p.S w w₁) (hl : SumLive p w₁) (hne : p.Wg ≠ p.S) : Turn p (· = p.S) w w₁ :=
  ⟨h.tape, h.os, h.output, fun k => let ⟨_, hx⟩ := hl; k.one h.block hx, Nat.le_of_eq h.size.symm, fun b hb _ => h.block b hb, fun ⟨s, m, hs⟩ => ⟨s, m, hs.of_block (h.block p.Wg hne)⟩, fun _ => hl⟩
end

/-- One block more. -/
structure Grown (w w₁ : World) : Prop where
  tape : w₁.tape = w.tape
  os : w₁.os = w.os
  output : w₁.output = w.output
  nv : NV w → NV w₁
  size : w₁.heap.size = w.heap.size + 1
  block : ∀ b, b < w.heap.size → w₁.heap[b]? = w.heap[b]?

def EvK (p : Ph) (M : Nat → Prop) (e : Event) : Prop :=
  (∀ x, (MemAct.ofEvent e).touch? = some x → (ShN p.Wg x.loc ∧ x.kind ≠ .plain ∧ x.kind ≠ .said) ∨
    (x.kind = .plain ∧ ∃ a, x.loc = .cell a ∧ ¬ p.Sh x.loc ∧ ((a.block < p.Low ∧ x.write = false) ∨ M a.block))) ∧
  e.loc ≠ .mark .disable ∧ e.loc ≠ .mark .enable ∧ e.loc ≠ .mark (.release (stA p.Wg))
structure Owns (M : Nat → Prop) (w w₁ : World) : Prop where
  tape : w₁.tape = w.tape
  os : w₁.os = w.os
  output : w₁.output = w.output
  nv : NV w → NV w₁
  size : w₁.heap.size = w.heap.size
  block : ∀ b, ¬ M b → w₁.heap[b]? = w.heap[b]?
theorem Owns.refl {M : Nat → Prop} (w : World) : Owns M w w := ⟨rfl, rfl, rfl, id, rfl, fun _ _ => rfl⟩
/-- What a goroutine does whose own blocks are M. -/
def DK (p : Ph) (M : Nat → Prop) (w w₁ : World) (es : Array Event) : Prop := Owns M w w₁ ∧ ∀ e ∈ es, EvK p M e

section
variable {p : Ph} {M : Nat → Prop} {w w₁ : World}
theorem Turn.gr (h : Grown w w₁) (o : p.Ok) (hL : p.Low ≤ w.heap.size) : Turn p (fun _ => False) w w₁ :=
  ⟨h.tape, h.os, h.output, h.nv, by rw [h.size]; omega, fun b _ hb => h.block b hb, fun ⟨s, m, hs⟩ => ⟨s, m, hs.of_block (h.block _ (by have := o.wg; omega))⟩, fun ⟨s, hs⟩ => ⟨s, (h.block _ (by have := o.s; omega)).trans hs⟩⟩
theorem Turn.ow (h : Owns M w w₁) (hW : ¬ M p.Wg) (hS : ¬ M p.S) : Turn p M w w₁ :=
  ⟨h.tape, h.os, h.output, h.nv, Nat.le_of_eq h.size.symm, fun b hb _ => h.block b hb, fun ⟨s, m, hs⟩ => ⟨s, m, hs.of_block (h.block _ hW)⟩, fun ⟨s, hs⟩ => ⟨s, (h.block _ hS).trans hs⟩⟩
end

/-! ### a worker -/
abbrev No : Nat → Loc → Prop := fun _ _ => False
def AtAl (p : Ph) (main : Bool) (K : Nat → Goroutine → World → Prop) (g : Goroutine) (w : World) : Prop :=
  g.status = .running ∧ ∃ g' w', stepG p.P main g w = .go g' w' #[] ∧ Grown w w' ∧ K w.heap.size g' w'
def AtSum (p : Ph) (i : Nat) (K : Goroutine → World → Prop) (g : Goroutine) (w : World) : Prop :=
  g.status = .running ∧ ∀ s : Nat, s + p.bit i < 4294967296 → SumAt p w s →
    ∃ g', stepG p.P false g w = .go g' (w.setCell (sA p) (.int .u32 ((s + p.bit i : Nat) : Int))) #[rd (sA p), wr (sA p)] ∧ K g' (w.setCell (sA p) (.int .u32 ((s + p.bit i : Nat) : Int)))
/-- Worker number i, ahead of its release: e says how much is ahead of it: 0 nothing; 1 the sum; 2 a block of its own besides. C is a block of its own that it has. -/
def Wk (p : Ph) (i C : Nat) (v : Value) : Nat → (Nat → Prop) → Nat → Goroutine → World → Prop
  | 0, M, m, g, w => Goes p.P false (RK p M) (DK p M) (AtR0 p.P p.ty p.Wg C 1 0 1 v) m g w
  | 1, M, m, g, w => Goes p.P false (RK p M) (DK p M) (AtSum p i fun g' w' => ∃ m', Wk p i C v 0 M m' g' w') m g w
  | e + 2, M, m, g, w => Goes p.P false (RK p M) (DK p M) (AtAl p false fun b g' w' => ∃ m', (p.bit i ≠ 0 → Wk p i C v (e + 1) (fun x => M x ∨ x = b) m' g' w') ∧ (p.bit i = 0 → Wk p i C v 0 (fun x => M x ∨ x = b) m' g' w')) m g w
/-- .. where it stands. -/
inductive WS (p : Ph) (i C : Nat) (v : Value) (M : Nat → Prop) : Nat → Nat → Nat → Nat → Goroutine → World → Prop
  | pre {e m : Nat} {g : Goroutine} {w : World} : Wk p i C v e M m g w → WS p i C v M e 7 m 0 g w
  | post {s m d : Nat} {g : Goroutine} {w : World} : s ≤ 6 → WSit p.P p.ty p.Wg C 1 No No 0 1 v s m d g w → WS p i C v M 0 s m d g w

section
variable {p : Ph} {i C : Nat} {v : Value} {M : Nat → Prop} {e s m d : Nat} {g : Goroutine} {w w₁ : World}
theorem RK.rw (h : RK p M w w₁) (hC : M C) : RW p.ty p.Wg C 1 0 0 w w₁ :=
  ⟨fun b hb => by omega, h.live, fun ⟨cs, hc, hn⟩ => ⟨cs, (h.own C hC).trans hc, hn⟩, cell_of_block (h.own C hC) 0⟩
theorem Wk.rely (h : Wk p i C v e M m g w) (hr : RK p M w w₁) : Wk p i C v e M m g w₁ := by
  match e, h with
  | 0, h => unfold Wk at h ⊢; exact Goes.rely RK.tr h hr
  | 1, h => unfold Wk at h ⊢; exact Goes.rely RK.tr h hr
  | e + 2, h => unfold Wk at h ⊢; exact Goes.rely RK.tr h hr
theorem Wk.running (h : Wk p i C v e M m g w) : g.status = .running := by
  match e, h with
  | 0, h => unfold Wk at h; exact Goes.running (fun _ _ x => x.1) w (RK.refl w) h
  | 1, h => unfold Wk at h; exact Goes.running (fun _ _ x => x.1) w (RK.refl w) h
  | e + 2, h => unfold Wk at h; exact Goes.running (fun _ _ x => x.1) w (RK.refl w) h
theorem WS.rely (h : WS p i C v M e s m d g w) (hC : M C) (hr : RK p M w w₁) : WS p i C v M e s m d g w₁ := by
  cases h with
  | pre h => exact .pre (h.rely hr)
  | post hs h => exact .post hs (h.rely (by simpa using hr.rw hC))
theorem WS.status (h : WS p i C v M e s m d g w) : g.status = .running ∨ g.status = .finished := by
  cases h with
  | pre h => exact .inl h.running
  | post _ h => exact h.status
theorem WS.woken (h : WS p i C v M e s m d g w) (a a' : Goroutine) (w' : World) : woken p.P a a' w' g = g := by
  unfold Go.Conc.woken
  split
  · exact again_running _ h.status
  · rfl
theorem WS.running_of (h : WS p i C v M e s m d g w) (hs : s ≠ 1) : g.status = .running := by
  cases h with
  | pre h => exact h.running
  | post _ h => exact h.running_of hs
end

/-! ### the starter -/
section
variable (p : Ph) (M : Nat → Prop)
def AtMk (k : Mark) (Next : Goroutine → World → Prop) (g : Goroutine) (w : World) : Prop :=
  g.status = .running ∧ ∃ g', stepG p.P true g w = .go g' w #[mk k] ∧ ∃ m, Goes p.P true (R0 p M) DC0 Next m g' w
def AtOw (Next : Goroutine → World → Prop) (g : Goroutine) (w : World) : Prop :=
  g.status = .running ∧ ∃ g' w' es, stepG p.P true g w = .go g' w' es ∧ DK p M w w' es ∧ ∃ m, Goes p.P true (R0 p M) DC0 Next m g' w'
def AtGo (j : Nat) (Next : Goroutine → World → Prop) (g : Goroutine) (w : World) : Prop :=
  g.status = .running ∧ ∃ g' child, stepG p.P true g w = .spawn g' child w #[] ∧ (∃ C v e m, M C ∧ e ≤ 2 ∧ (e = 0 → p.bit j = 0) ∧ Wk p j C v e M m child w) ∧ Next g' w
def AtA1 (Next : Goroutine → World → Prop) (g : Goroutine) (w : World) : Prop :=
  g.status = .running ∧ ∀ v : Nat, v < 2147483647 → WgAt p.ty p.Wg w (v * KK) 0 →
    ∃ g', stepG p.P true g w = .go g' (w.setCell (stA p.Wg) (.int .u64 ((v + 1) * KK))) #[rd (stA p.Wg), wr (stA p.Wg)] ∧
      ∃ m, Goes p.P true (R0 p M) DC0 (AtMk p M (.read (smA p.Wg)) (AtMk p M .enable Next)) m g' (w.setCell (stA p.Wg) (.int .u64 ((v + 1) * KK))) ∨ Goes p.P true (R0 p M) DC0 (AtMk p M .enable Next) m g' (w.setCell (stA p.Wg) (.int .u64 ((v + 1) * KK)))
end
section
variable (p : Ph)
abbrev Mt : Nat → Prop := fun _ => False
abbrev One (b : Nat) : Nat → Prop := fun x => x = b
def L5 (b r : Nat) (Next : Goroutine → World → Prop) : Goroutine → World → Prop := AtMk p (One b) .disable (AtA1 p (One b) (AtGo p (One b) (p.n - (r + 1)) Next))
def L7 (r : Nat) (Next : Goroutine → World → Prop) : Goroutine → World → Prop :=
  AtAl p true fun b g' w' => ∃ m, Goes p.P true (R0 p (One b)) DC0 (AtOw p (One b) (L5 p b r Next)) m g' w'
/-- r workers are still to be started. -/
def Sp (Into : Goroutine → World → Prop) : Nat → Goroutine → World → Prop
  | 0, g, w => ∃ m, Goes p.P true (R0 p Mt) DC0 (AtMk p Mt .disable Into) m g w
  | r + 1, g, w => ∃ m, Goes p.P true (R0 p Mt) DC0 (L7 p r (Sp Into r)) m g w

variable (Anch Fin : Goroutine → World → Prop)
def AtAcq (g : Goroutine) (w : World) : Prop := g.status = .running ∧ ∃ g', stepG p.P true g w = .go g' w #[mk (.acquire (stA p.Wg))] ∧ Fin g' w
def AtW4 (g : Goroutine) (w : World) : Prop :=
  g.status = .running ∧ (WgAt p.ty p.Wg w 0 0 → ∃ g', stepG p.P true g w = .go g' w #[rd (stA p.Wg)] ∧ ∃ m, Goes p.P true (R0 p Mt) DC0 (AtMk p Mt .enable (AtAcq p Fin)) m g' w)
def AtW3 (g : Goroutine) (w : World) : Prop :=
  g.status = .running ∧ g.offers = none ∧ ((∃ st, WgAt p.ty p.Wg w st 0) → stepG p.P true g w = .go { g with status := .blocked } w #[]) ∧
    (WgAt p.ty p.Wg w 0 1 → ∃ g', stepG p.P true g w = .go g' (w.setCell (smA p.Wg) (.int .u32 0)) (semEvents (smA p.Wg)) ∧ ∃ m, Goes p.P true (R0 p Mt) DC0 (AtW4 p Fin) m g' (w.setCell (smA p.Wg) (.int .u32 0)))
def AtW2 (vs : Nat) (g : Goroutine) (w : World) : Prop :=
  g.status = .running ∧ ∀ v : Nat, v < 2147483648 → WgAt p.ty p.Wg w (v * KK) 0 →
    (v = vs → ∃ g', stepG p.P true g w = .go g' (w.setCell (stA p.Wg) (.int .u64 (v * KK + 1))) #[rd (stA p.Wg), wr (stA p.Wg)] ∧ ∃ m, Goes p.P true (R0 p Mt) DC0 (AtMk p Mt (.write (smA p.Wg)) (AtW3 p Fin)) m g' (w.setCell (stA p.Wg) (.int .u64 (v * KK + 1)))) ∧
    (v ≠ vs → ∃ g', stepG p.P true g w = .go g' w #[rd (stA p.Wg)] ∧ ∃ m, Goes p.P true (R0 p Mt) DC0 Anch m g' w)
def AtW1 (g : Goroutine) (w : World) : Prop :=
  g.status = .running ∧ ∀ v : Nat, v < 2147483648 → WgAt p.ty p.Wg w (v * KK) 0 → ∃ g', stepG p.P true g w = .go g' w #[rd (stA p.Wg)] ∧
    (v = 0 → ∃ m, Goes p.P true (R0 p Mt) DC0 (AtMk p Mt .enable (AtAcq p Fin)) m g' w) ∧ (v ≠ 0 → ∃ m, Goes p.P true (R0 p Mt) DC0 (AtW2 p Anch Fin v) m g' w)

/-- The starter: its tag, what is ahead of it in it, how many are started, fuel, deafness, its own blocks. -/
inductive CS : CTag → Nat → Nat → Nat → Nat → (Nat → Prop) → Goroutine → World → Prop
  | al {r m : Nat} {g : Goroutine} {w : World} : r < p.n → Goes p.P true (R0 p Mt) DC0 (L7 p r (Sp p Anch r)) m g w → CS (.sp r 7) 0 (p.n - (r + 1)) m 0 Mt g w
  | ow {r m b : Nat} {g : Goroutine} {w : World} : r < p.n → Goes p.P true (R0 p (One b)) DC0 (AtOw p (One b) (L5 p b r (Sp p Anch r))) m g w → CS (.sp r 6) 0 (p.n - (r + 1)) m 0 (One b) g w
  | kd5 {r m b : Nat} {g : Goroutine} {w : World} : r < p.n → Goes p.P true (R0 p (One b)) DC0 (L5 p b r (Sp p Anch r)) m g w → CS (.sp r 5) 0 (p.n - (r + 1)) m 0 (One b) g w
  | a1 {r m b : Nat} {g : Goroutine} {w : World} : r < p.n → Goes p.P true (R0 p (One b)) DC0 (AtA1 p (One b) (AtGo p (One b) (p.n - (r + 1)) (Sp p Anch r))) m g w → CS (.sp r 4) 0 (p.n - (r + 1)) m 1 (One b) g w
  | sr {r m b : Nat} {g : Goroutine} {w : World} : r < p.n → Goes p.P true (R0 p (One b)) DC0 (AtMk p (One b) (.read (smA p.Wg)) (AtMk p (One b) .enable (AtGo p (One b) (p.n - (r + 1)) (Sp p Anch r)))) m g w → CS (.sp r 3) 0 (p.n - (r + 1)) m 1 (One b) g w
  | ke2 {r m b : Nat} {g : Goroutine} {w : World} : r < p.n → Goes p.P true (R0 p (One b)) DC0 (AtMk p (One b) .enable (AtGo p (One b) (p.n - (r + 1)) (Sp p Anch r))) m g w → CS (.sp r 2) 0 (p.n - (r + 1)) m 1 (One b) g w
  | go {r m b : Nat} {g : Goroutine} {w : World} : r < p.n → Goes p.P true (R0 p (One b)) DC0 (AtGo p (One b) (p.n - (r + 1)) (Sp p Anch r)) m g w → CS (.sp r 1) 0 (p.n - (r + 1)) m 0 (One b) g w
  | kd {m : Nat} {g : Goroutine} {w : World} : Goes p.P true (R0 p Mt) DC0 (AtMk p Mt .disable Anch) m g w → CS .kd 0 p.n m 0 Mt g w
  | anch {m : Nat} {g : Goroutine} {w : World} : Goes p.P true (R0 p Mt) DC0 Anch m g w → CS .anch 0 p.n m 1 Mt g w
  | w1 {m : Nat} {g : Goroutine} {w : World} : Goes p.P true (R0 p Mt) DC0 (AtW1 p Anch Fin) m g w → CS .w1 0 p.n m 1 Mt g w
  | w2 {vs m : Nat} {g : Goroutine} {w : World} : Goes p.P true (R0 p Mt) DC0 (AtW2 p Anch Fin vs) m g w → CS (.w2 vs) 0 p.n m 1 Mt g w
  | sw {m : Nat} {g : Goroutine} {w : World} : Goes p.P true (R0 p Mt) DC0 (AtMk p Mt (.write (smA p.Wg)) (AtW3 p Fin)) m g w → CS .w3 1 p.n m 1 Mt g w
  | w3 {m : Nat} {g : Goroutine} {w : World} : Goes p.P true (R0 p Mt) DC0 (AtW3 p Fin) m g w → CS .w3 0 p.n (m + 1) 1 Mt g w
  | blk {g : Goroutine} {w : World} : (∀ w₁, R0 p Mt w w₁ → AtW3 p Fin g w₁) → CS .blk 0 p.n 0 1 Mt { g with status := .blocked } w
  | w4 {m : Nat} {g : Goroutine} {w : World} : Goes p.P true (R0 p Mt) DC0 (AtW4 p Fin) m g w → CS .w4 0 p.n m 1 Mt g w
  | ke {m : Nat} {g : Goroutine} {w : World} : Goes p.P true (R0 p Mt) DC0 (AtMk p Mt .enable (AtAcq p Fin)) m g w → CS .ke 0 p.n m 1 Mt g w
  | acq {m : Nat} {g : Goroutine} {w : World} : Goes p.P true (R0 p Mt) DC0 (AtAcq p Fin) m g w → CS .acq 0 p.n m 0 Mt g w
end
end Go.Proofs.YtnojjmkmkelbgaaGreat

/- Workers who read, add to one sum and leave, 2: what holds of the machine at every moment. -/
namespace Go.Proofs.YtnojjmkmkelbgaaGreat
open Go.Conc Go.ConcN
open Go.ConcR (KK wgBlock WgAt stA smA rd wr mk Payload DC0 g_of_ofEvents ofEvent_mk again_blocked)

structure WX where
  d : WD
  e : Nat
  c : Nat
  v : Value
  m : Nat → Prop
def ds (X : Nat → WX) : Nat → WD := fun i => (X i).d
theorem ds_upd (X : Nat → WX) (i : Nat) (x : WX) : ds (upd X i x) = upd (ds X) i x.d := by
  funext a
  by_cases e : a = i
  · subst e; simp [ds, upd_same]
  · simp [ds, upd_ne _ _ e]
/-- What the sum holds. -/
def total (p : Ph) (j : Nat) (X : Nat → WX) : Nat := sumTo j fun i => if (X i).e = 0 then p.bit i else 0

structure Com (p : Ph) (j : Nat) (gs : Array Goroutine) (w : World) (t : Trace) (X : Nat → WX) (ow q : Nat → Nat) (d0 : Nat) (M0 : Nat → Prop) : Prop where
  size : gs.size = p.m0 + j
  old : ∀ i, 1 ≤ i → i < p.m0 → ∃ g, gs[i]? = some g ∧ QuitsD p.P (q i) (Deaf t i) g
  wk : ∀ i, i < j → ∃ g, gs[p.m0 + i]? = some g ∧ WS p i (X i).c (X i).v (X i).m (X i).e (X i).d.stage (X i).d.fuel (X i).d.deaf g w
  mc : ∀ i, i < j → (X i).m (X i).c
  mo : ∀ i, i < j → ∀ b, (X i).m b → ow b = p.m0 + i ∧ p.Low ≤ b ∧ b < w.heap.size
  m0 : ∀ b, M0 b → ow b = 0 ∧ p.Low ≤ b ∧ b < w.heap.size
  low : p.Low ≤ w.heap.size
  ti : TI p t ow w.heap.size (p.m0 + j)
  norel : NoRel p t
  deaf0 : Deaf t 0 = d0
  deafW : ∀ i, i < j → Deaf t (p.m0 + i) = (X i).d.deaf
  above : ∀ k, p.m0 + j ≤ k → Deaf t k = 0
  rel : ∀ i, i < j → (X i).d.stage ≤ 6 → ∃ r, RelBy (stA p.Wg) t (p.m0 + i) r ∧ p.t0.size ≤ r
  sum : SumAt p w (total p j X)

def Inv (p : Ph) (Anch Fin : Goroutine → World → Prop) (μ : Nat × Nat) (m : Machine) (t : Trace) : Prop :=
  ∃ (gs : Array Goroutine) (w : World) (sl : Option (Nat × Nat)) (j : Nat) (X : Nat → WX) (ow q : Nat → Nat) (tag : CTag) (e0 f0 d0 : Nat) (M0 : Nat → Prop) (a : Goroutine) (st sm : Int),
    m = crowd gs w sl ∧ gs[0]? = some a ∧ CS p Anch Fin tag e0 j f0 d0 M0 a w ∧ Com p j gs w t X ow q d0 M0 ∧ WgAt p.ty p.Wg w st sm ∧ ConcN.Mode j (ds X) tag st sm ∧
    μ = (phi p.n (Vc j (ds X)) tag + e0 + Ssum j (ds X) + sumTo j (fun i => (X i).e), f0 + 2 * Fsum j (ds X) + 2 * sumTo p.m0 q)

section
variable {p : Ph} {Anch Fin : Goroutine → World → Prop} {tag : CTag} {e0 j f d : Nat} {M0 : Nat → Prop} {a : Goroutine} {w w' : World}

theorem CS.rely (h : CS p Anch Fin tag e0 j f d M0 a w) (hr : R0 p M0 w w') : CS p Anch Fin tag e0 j f d M0 a w' := by
  cases h with
  | al hn h => exact .al hn (Goes.rely R0.tr h hr)
  | ow hn h => exact .ow hn (Goes.rely R0.tr h hr)
  | kd5 hn h => exact .kd5 hn (Goes.rely R0.tr h hr)
  | a1 hn h => exact .a1 hn (Goes.rely R0.tr h hr)
  | sr hn h => exact .sr hn (Goes.rely R0.tr h hr)
  | ke2 hn h => exact .ke2 hn (Goes.rely R0.tr h hr)
  | go hn h => exact .go hn (Goes.rely R0.tr h hr)
  | kd h => exact .kd (Goes.rely R0.tr h hr)
  | anch h => exact .anch (Goes.rely R0.tr h hr)
  | w1 h => exact .w1 (Goes.rely R0.tr h hr)
  | w2 h => exact .w2 (Goes.rely R0.tr h hr)
  | sw h => exact .sw (Goes.rely R0.tr h hr)
  | w3 h => exact .w3 (Goes.rely R0.tr h hr)
  | blk h => exact .blk (fun w₂ h₂ => h w₂ (hr.trans h₂))
  | w4 h => exact .w4 (Goes.rely R0.tr h hr)
  | ke h => exact .ke (Goes.rely R0.tr h hr)
  | acq h => exact .acq (Goes.rely R0.tr h hr)

theorem CS.status (hAr : ∀ g w, Anch g w → g.status = .running) (h : CS p Anch Fin tag e0 j f d M0 a w) : (a.status = .running ∧ tag ≠ .blk) ∨ (a.status = .blocked ∧ tag = .blk) := by
  cases h with
  | al _ h => exact .inl ⟨Goes.running (fun _ _ x => x.1) w (.refl w) h, by simp⟩
  | ow _ h => exact .inl ⟨Goes.running (fun _ _ x => x.1) w (.refl w) h, by simp⟩
  | kd5 _ h => exact .inl ⟨Goes.running (fun _ _ x => x.1) w (.refl w) h, by simp⟩
  | a1 _ h => exact .inl ⟨Goes.running (fun _ _ x => x.1) w (.refl w) h, by simp⟩
  | sr _ h => exact .inl ⟨Goes.running (fun _ _ x => x.1) w (.refl w) h, by simp⟩
  | ke2 _ h => exact .inl ⟨Goes.running (fun _ _ x => x.1) w (.refl w) h, by simp⟩
  | go _ h => exact .inl ⟨Goes.running (fun _ _ x => x.1) w (.refl w) h, by simp⟩
  | kd h => exact .inl ⟨Goes.running (fun _ _ x => x.1) w (.refl w) h, by simp⟩
  | anch h => exact .inl ⟨Goes.running hAr w (.refl w) h, by simp⟩
  | w1 h => exact .inl ⟨Goes.running (fun _ _ x => x.1) w (.refl w) h, by simp⟩
  | w2 h => exact .inl ⟨Goes.running (fun _ _ x => x.1) w (.refl w) h, by simp⟩
  | sw h => exact .inl ⟨Goes.running (fun _ _ x => x.1) w (.refl w) h, by simp⟩
  | w3 h => exact .inl ⟨Goes.running (fun _ _ x => x.1) w (.refl w) h, by simp⟩
  | blk h => exact .inr ⟨rfl, rfl⟩
  | w4 h => exact .inl ⟨Goes.running (fun _ _ x => x.1) w (.refl w) h, by simp⟩
  | ke h => exact .inl ⟨Goes.running (fun _ _ x => x.1) w (.refl w) h, by simp⟩
  | acq h => exact .inl ⟨Goes.running (fun _ _ x => x.1) w (.refl w) h, by simp⟩

/-- Under another's step: as it stood, or, blocked, let try again. -/
theorem CS.wokenBy (hAr : ∀ g w, Anch g w → g.status = .running) (h : CS p Anch Fin tag e0 j f d M0 a w) (hr : R0 p M0 w w') (g g' : Goroutine) :
    ∃ tag' f', CS p Anch Fin tag' e0 j f' d M0 (woken p.P g g' w' a) w' ∧ f' ≤ f + 1 ∧ (tag' = tag ∨ (tag = .blk ∧ tag' = .w3)) ∧ (mayWake p.P g = true → g'.status = .running → tag' ≠ .blk) := by
  have h' := h.rely hr
  unfold Go.Conc.woken
  split
  · rcases h'.status hAr with ⟨hs, hne⟩ | ⟨_, rfl⟩
    · exact ⟨tag, f, by rw [again_running _ (.inl hs)]; exact h', by omega, .inl rfl, fun _ _ => hne⟩
    · cases h' with
      | blk hb =>
        rename_i g0
        have h3 := hb w' (.refl w')
        exact ⟨.w3, 0 + 1, by rw [again_blocked h3.1 h3.2.1]; exact .w3 (Goes.stop hb), by omega, .inr ⟨rfl, rfl⟩, fun _ _ => by simp⟩
  · rename_i hc
    exact ⟨tag, f, h', by omega, .inl rfl, fun h1 h2 => absurd (by simp [h1, h2]) hc⟩

theorem CS.bound (h : CS p Anch Fin tag e0 j f d M0 a w) : j + pend tag ≤ p.n := by
  cases h <;> simp only [pend] <;> (try simp) <;> omega
end

section
variable {p : Ph} {Anch Fin : Goroutine → World → Prop} {gs : Array Goroutine} {w w' : World} {sl : Option (Nat × Nat)} {j : Nat} {X : Nat → WX} {ow ow' q : Nat → Nat} {tag : CTag} {e0 f0 d0 : Nat} {M0 : Nat → Prop} {a : Goroutine} {t : Trace}

theorem Com.at (h : Com p j gs w t X ow q d0 M0) (d : Nat) : Com p j gs (w.at d) t X ow q d0 M0 :=
  ⟨h.size, h.old, fun i hi => let ⟨g, hg, hs⟩ := h.wk i hi; ⟨g, hg, hs.rely (h.mc i hi) ⟨fun _ _ _ _ => rfl, fun _ _ => rfl, Nat.le_refl _, id, id⟩⟩, h.mc, h.mo, h.m0, h.low, h.ti, h.norel, h.deaf0, h.deafW, h.above, h.rel, h.sum⟩

theorem setGet (f : Goroutine → Goroutine) {a b : Nat} (x : Goroutine) (hb : a ≠ b) : ((gs.map f).setIfInBounds a x)[b]? = (gs[b]?).map f := by
  rw [Array.getElem?_setIfInBounds_ne hb, Array.getElem?_map]
theorem setGetS (f : Goroutine → Goroutine) {a : Nat} (x : Goroutine) (ha : a < gs.size) : ((gs.map f).setIfInBounds a x)[a]? = some x := by simp [ha]

/-- Whatever step of worker number i. -/
theorem workerStep (hAr : ∀ g w, Anch g w → g.status = .running) (hm1 : 1 ≤ p.m0)
    (ha : gs[0]? = some a) (hcs : CS p Anch Fin tag e0 j f0 d0 M0 a w) (hcom : Com p j gs w t X ow q d0 M0)
    {i : Nat} (hi : i < j) {g g' : Goroutine} {es : Array Event} {x' : WX} {st' sm' : Int} (hg : gs[p.m0 + i]? = some g) (hgo : stepG p.P false g w = .go g' w' es)
    {Z : Nat → Prop} (hT : Turn p Z w w') (hZ : ∀ b, Z b → b = p.Wg ∨ b = p.S ∨ (X i).m b) (hWS : p.Wg < p.Low ∧ p.S < p.Low)
    (how : ∀ b, b < w.heap.size → ow' b = ow b) (hmc : x'.m x'.c) (hm : ∀ b, x'.m b → ow' b = p.m0 + i ∧ p.Low ≤ b ∧ b < w'.heap.size)
    (hti : TI p (t ++ MemOp.ofEvents (p.m0 + i) g.frame.fn g.frame.place es) ow' w'.heap.size (p.m0 + j))
    (hs' : WS p i x'.c x'.v x'.m x'.e x'.d.stage x'.d.fuel x'.d.deaf g' w')
    (hnr : ∀ e ∈ es, e.loc ≠ .mark (.release (stA p.Wg))) (hdeaf : deafBehind (X i).d.deaf es = x'.d.deaf)
    (hrel : x'.d.stage ≤ 6 → ∃ r, RelBy (stA p.Wg) (t ++ MemOp.ofEvents (p.m0 + i) g.frame.fn g.frame.place es) (p.m0 + i) r ∧ p.t0.size ≤ r)
    (hsum : SumAt p w' (total p j (upd X i x'))) (hwg : WgAt p.ty p.Wg w' st' sm')
    (hmode : ∀ tag', (tag' = tag ∨ (tag = .blk ∧ tag' = .w3)) → (mayWake p.P g = true → g'.status = .running → tag' ≠ .blk) → ConcN.Mode j (upd (ds X) i x'.d) tag' st' sm')
    (hlt : (x'.d.stage + x'.e < (X i).d.stage + (X i).e ∧ cnt x'.d ≤ cnt (X i).d) ∨ (x'.d.stage = (X i).d.stage ∧ x'.e = (X i).e ∧ x'.d.fuel + 1 = (X i).d.fuel)) :
    ∃ m₁ ops μ', runT p.P (crowd gs w sl) (p.m0 + i) = (.next m₁, ops) ∧
      Lt2 μ' (phi p.n (Vc j (ds X)) tag + e0 + Ssum j (ds X) + sumTo j (fun i => (X i).e), f0 + 2 * Fsum j (ds X) + 2 * sumTo p.m0 q) ∧ Inv p Anch Fin μ' m₁ (t ++ ops) := by
  have hZ0 : ∀ b, Z b → b = p.Wg ∨ b = p.S ∨ p.Low ≤ b := fun b hb => (hZ b hb).imp id fun h => h.imp id fun h => (hcom.mo i hi b h).2.1
  have hM : ∀ (M : Nat → Prop) (k : Nat), k ≠ p.m0 + i → (∀ b, M b → ow b = k ∧ p.Low ≤ b ∧ b < w.heap.size) → ∀ b, M b → ¬ Z b ∧ b < w.heap.size := fun M k hk h b hb => by
    refine ⟨fun hz => ?_, (h b hb).2.2⟩
    have := (h b hb).2.1
    rcases hZ b hz with e | e | e
    · omega
    · omega
    · have := (hcom.mo i hi b e).1; have := (h b hb).1; omega
  have hr0 : R0 p M0 w w' := hT.r0 hcom.low hZ0 (hM M0 0 (by omega) hcom.m0)
  obtain ⟨tag', f', hcs', hf', htag, hwk⟩ := hcs.wokenBy hAr hr0 g g'
  have hrun := runT_crowd_go (P := p.P) (sl := sl) (i := p.m0 + i) hg (by rw [show (p.m0 + i == 0) = false by simp; omega]; exact hgo)
  have e1 := sumTo_upd (ds X) x'.d cnt hi
  have e2 := sumTo_upd (ds X) x'.d WD.stage hi
  have e3 := sumTo_upd (ds X) x'.d WD.fuel hi
  have e4 := sumTo_upd X x' WX.e hi
  have hsz := hT.size
  refine ⟨_, _, (phi p.n (Vc j (ds (upd X i x'))) tag' + e0 + Ssum j (ds (upd X i x')) + sumTo j (fun k => (upd X i x' k).e), f' + 2 * Fsum j (ds (upd X i x')) + 2 * sumTo p.m0 q), hrun, ?_,
    _, w', sl, j, upd X i x', ow', q, tag', e0, f', d0, M0, woken p.P g g' w' a, st', sm', rfl, by rw [setGet _ _ (by omega), ha]; rfl, hcs', ?_, hwg, by rw [ds_upd]; exact hmode tag' htag hwk, rfl⟩
  · rw [phi_retag p.n _ htag, ds_upd]
    simp only [Vc, Ssum, Fsum] at *
    rcases hlt with ⟨h1, h2⟩ | ⟨h1, h2, h3⟩
    · refine Prod.Lex.left _ _ ?_
      have := phi_mono p.n (v' := sumTo j fun a => cnt (upd (ds X) i x'.d a)) (v := sumTo j fun a => cnt (ds X a)) (by simp only [ds] at *; omega) tag
      simp only [ds] at *
      omega
    · have ec : cnt x'.d = cnt (ds X i) := by unfold cnt; rw [h1]; rfl
      have ev : (sumTo j fun a => cnt (upd (ds X) i x'.d a)) = sumTo j fun a => cnt (ds X a) := by omega
      have es' : (sumTo j fun a => (upd (ds X) i x'.d a).stage) = sumTo j fun a => (ds X a).stage := by simp only [ds] at *; omega
      rw [ev, es']
      have ee : (sumTo j fun k => (upd X i x' k).e) = sumTo j fun k => (X k).e := by omega
      rw [ee]
      refine Prod.Lex.right _ ?_
      simp only [ds] at *
      omega
  · refine ⟨by simp [hcom.size], fun k k1 k2 => ?_, fun k hk => ?_, fun k hk => ?_, fun k hk => ?_, fun b hb => ?_, by have := hcom.low; omega, hti, hcom.norel.app (norel_of hnr), by rw [Deaf_other t (by omega) _ g_of_ofEvents, hcom.deaf0], fun k hk => ?_, fun k hk => ?_, fun k hk hst => ?_, hsum⟩
    · obtain ⟨y, hy, hq⟩ := hcom.old k k1 k2
      exact ⟨y, by rw [setGet _ _ (by omega), hy, Option.map_some, woken_quitsD hq], by rw [Deaf_other t (by omega) _ g_of_ofEvents]; exact hq⟩
    · by_cases e : k = i
      · subst e
        exact ⟨g', setGetS _ _ (by rw [hcom.size]; omega), by rw [upd_same]; exact hs'⟩
      · obtain ⟨y, hy, hsy⟩ := hcom.wk k hk
        refine ⟨y, by rw [setGet _ _ (by omega), hy, Option.map_some, hsy.woken], ?_⟩
        rw [upd_ne X _ e]
        exact hsy.rely (hcom.mc k hk) (hT.r0 hcom.low hZ0 (hM _ (p.m0 + k) (by omega) (hcom.mo k hk))).rk
    · by_cases e : k = i
      · subst e; rw [upd_same]; exact hmc
      · rw [upd_ne X _ e]; exact hcom.mc k hk
    · by_cases e : k = i
      · subst e; rw [upd_same]; exact hm
      · rw [upd_ne X _ e]
        intro b hb
        obtain ⟨h1, h2, h3⟩ := hcom.mo k hk b hb
        exact ⟨(how b h3).trans h1, h2, by omega⟩
    · obtain ⟨h1, h2, h3⟩ := hcom.m0 b hb
      exact ⟨(how b h3).trans h1, h2, by omega⟩
    · by_cases e : k = i
      · subst e; rw [Deaf_own, hcom.deafW k hk, upd_same]; exact hdeaf
      · rw [Deaf_other t (by omega) _ g_of_ofEvents, hcom.deafW k hk, upd_ne X _ e]
    · rw [Deaf_other t (by omega) _ g_of_ofEvents]; exact hcom.above k hk
    · by_cases e : k = i
      · subst e; rw [upd_same] at hst; exact hrel hst
      · rw [upd_ne X _ e] at hst
        obtain ⟨r, hr, hr0⟩ := hcom.rel k hk hst
        exact ⟨r, hr.appOther g_of_ofEvents (by omega), hr0⟩

/-- Whatever step of the starter's that is no go statement. -/
theorem callerStep (hm1 : 1 ≤ p.m0)
    (ha : gs[0]? = some a) (hcom : Com p j gs w t X ow q d0 M0)
    {a' : Goroutine} {es : Array Event} {tag' : CTag} {e' f' : Nat} {M' : Nat → Prop} {st' sm' : Int} (hgo : stepG p.P true a w = .go a' w' es)
    {Z : Nat → Prop} (hT : Turn p Z w w') (hZ : ∀ b, Z b → b = p.Wg ∨ b = p.S ∨ M0 b) (hWS : p.Wg < p.Low ∧ p.S < p.Low)
    (how : ∀ b, b < w.heap.size → ow' b = ow b) (hm : ∀ b, M' b → ow' b = 0 ∧ p.Low ≤ b ∧ b < w'.heap.size)
    (hti : TI p (t ++ MemOp.ofEvents 0 a.frame.fn a.frame.place es) ow' w'.heap.size (p.m0 + j)) (hnr : ∀ e ∈ es, e.loc ≠ .mark (.release (stA p.Wg)))
    (hcs' : CS p Anch Fin tag' e' j f' (deafBehind d0 es) M' a' w') (hsum : SumAt p w' (total p j X)) (hwg : WgAt p.ty p.Wg w' st' sm') (hmode : ConcN.Mode j (ds X) tag' st' sm')
    (hlt : phi p.n (Vc j (ds X)) tag' + e' < phi p.n (Vc j (ds X)) tag + e0 ∨ (phi p.n (Vc j (ds X)) tag' + e' = phi p.n (Vc j (ds X)) tag + e0 ∧ f' < f0)) :
    ∃ m₁ ops μ', runT p.P (crowd gs w sl) 0 = (.next m₁, ops) ∧
      Lt2 μ' (phi p.n (Vc j (ds X)) tag + e0 + Ssum j (ds X) + sumTo j (fun i => (X i).e), f0 + 2 * Fsum j (ds X) + 2 * sumTo p.m0 q) ∧ Inv p Anch Fin μ' m₁ (t ++ ops) := by
  have hrun := runT_crowd_go (P := p.P) (sl := sl) (i := 0) ha (by simpa using hgo)
  have hsz := hT.size
  have hZ0 : ∀ b, Z b → b = p.Wg ∨ b = p.S ∨ p.Low ≤ b := fun b hb => (hZ b hb).imp id fun h => h.imp id fun h => (hcom.m0 b h).2.1
  refine ⟨_, _, (phi p.n (Vc j (ds X)) tag' + e' + Ssum j (ds X) + sumTo j (fun i => (X i).e), f' + 2 * Fsum j (ds X) + 2 * sumTo p.m0 q), hrun, ?_,
    _, w', sl, j, X, ow', q, tag', e', f', deafBehind d0 es, M', a', st', sm', rfl, setGetS _ _ (by rw [hcom.size]; omega), hcs', ?_, hwg, hmode, rfl⟩
  · rcases hlt with h | ⟨h1, h2⟩
    · exact Prod.Lex.left _ _ (by omega)
    · rw [h1]; exact Prod.Lex.right _ (by omega)
  · refine ⟨by simp [hcom.size], fun k k1 k2 => ?_, fun k hk => ?_, hcom.mc, fun k hk b hb => ?_, hm, by have := hcom.low; omega, hti, hcom.norel.app (norel_of hnr), by rw [Deaf_own, hcom.deaf0], fun k hk => by rw [Deaf_other t (by omega) _ g_of_ofEvents, hcom.deafW k hk], fun k hk => by rw [Deaf_other t (by omega) _ g_of_ofEvents]; exact hcom.above k hk, fun k hk hst => ?_, hsum⟩
    · obtain ⟨y, hy, hq⟩ := hcom.old k k1 k2
      exact ⟨y, by rw [setGet _ _ (by omega), hy, Option.map_some, woken_quitsD hq], by rw [Deaf_other t (by omega) _ g_of_ofEvents]; exact hq⟩
    · obtain ⟨y, hy, hsy⟩ := hcom.wk k hk
      refine ⟨y, by rw [setGet _ _ (by omega), hy, Option.map_some, hsy.woken], hsy.rely (hcom.mc k hk) (hT.r0 hcom.low hZ0 fun b hb => ?_).rk⟩
      obtain ⟨h1, h2, h3⟩ := hcom.mo k hk b hb
      refine ⟨fun hz => ?_, h3⟩
      rcases hZ b hz with e | e | e
      · omega
      · omega
      · have := (hcom.m0 b e).1; omega
    · obtain ⟨h1, h2, h3⟩ := hcom.mo k hk b hb
      exact ⟨(how b h3).trans h1, h2, by omega⟩
    · obtain ⟨r, hr, hr0⟩ := hcom.rel k hk hst
      exact ⟨r, hr.appOther g_of_ofEvents (by omega), hr0⟩

/-- A step of one who was there ahead of the phase and only leaves. -/
theorem oldStep (o : p.Ok) (hAr : ∀ g w, Anch g w → g.status = .running)
    (ha : gs[0]? = some a) (hcs : CS p Anch Fin tag e0 j f0 d0 M0 a w) (hcom : Com p j gs w t X ow q d0 M0) {st sm : Int} (hwg : WgAt p.ty p.Wg w st sm) (hmode : ConcN.Mode j (ds X) tag st sm)
    {i : Nat} (h1 : 1 ≤ i) (hi : i < p.m0) {g : Goroutine} (hg : gs[i]? = some g) (hrun : g.status = .running) :
    ∃ m₁ ops μ', runT p.P (crowd gs w sl) i = (.next m₁, ops) ∧
      Lt2 μ' (phi p.n (Vc j (ds X)) tag + e0 + Ssum j (ds X) + sumTo j (fun i => (X i).e), f0 + 2 * Fsum j (ds X) + 2 * sumTo p.m0 q) ∧ Inv p Anch Fin μ' m₁ (t ++ ops) := by
  obtain ⟨g₁, hg₁, hq⟩ := hcom.old i h1 hi
  obtain rfl : g = g₁ := by rw [hg] at hg₁; exact Option.some.inj hg₁
  cases hqi : q i with
  | zero => rw [hqi] at hq; rw [hq.1] at hrun; cases hrun
  | succ k =>
    rw [hqi] at hq
    rcases hq with ⟨hf, _⟩ | ⟨_, g', es, hmute, hstep, hq'⟩
    · rw [hf] at hrun; cases hrun
    have hnt : ∀ op ∈ MemOp.ofEvents i g.frame.fn g.frame.place es, op.act.touch? = none := fun op hop => by
      obtain ⟨e, he, rfl⟩ := Go.Conc.mem_ofEvents hop
      exact touch_mute (hmute e he)
    have hnr : ∀ e ∈ es, e.loc ≠ .mark (.release (stA p.Wg)) := fun e he hl => by
      have := hmute e he
      obtain ⟨l, wr, sy⟩ := e
      simp only at hl
      subst hl
      simp [Event.mute] at this
    obtain ⟨tag', f', hcs', hf', htag, _⟩ := hcs.wokenBy hAr (.refl w) g g'
    have hrT := runT_crowd_go (P := p.P) (sl := sl) (i := i) hg (by rw [show (i == 0) = false by simp; omega]; exact hstep w)
    have e1 : sumTo p.m0 (upd q i k) + (k + 1) = sumTo p.m0 q + k := by
      have := sumTo_upd q k id hi
      simpa [hqi] using this
    refine ⟨_, _, (phi p.n (Vc j (ds X)) tag' + e0 + Ssum j (ds X) + sumTo j (fun i => (X i).e), f' + 2 * Fsum j (ds X) + 2 * sumTo p.m0 (upd q i k)), hrT, ?_,
      _, w, sl, j, X, ow, upd q i k, tag', e0, f', d0, M0, woken p.P g g' w a, st, sm, rfl, by rw [setGet _ _ (by omega), ha]; rfl, hcs', ?_, hwg, hmode.retag htag, rfl⟩
    · rw [phi_retag p.n _ htag]
      refine Prod.Lex.right _ ?_
      omega
    · refine ⟨by simp [hcom.size], fun k' k1 k2 => ?_, fun k' hk => ?_, hcom.mc, hcom.mo, hcom.m0, hcom.low, hcom.ti.app o (g := i) (fun op hop => by obtain ⟨e, _, rfl⟩ := Go.Conc.mem_ofEvents hop; rfl) (fun op hop x hx => by rw [hnt op hop] at hx; cases hx), hcom.norel.app (norel_of hnr), by rw [Deaf_other t (by omega) _ g_of_ofEvents, hcom.deaf0],
        fun k' hk => by rw [Deaf_other t (by omega) _ g_of_ofEvents, hcom.deafW k' hk], fun k' hk => by rw [Deaf_other t (by omega) _ g_of_ofEvents]; exact hcom.above k' hk, fun k' hk hst => ?_, hcom.sum⟩
      · by_cases e : k' = i
        · subst e
          exact ⟨g', setGetS _ _ (by rw [hcom.size]; omega), by rw [upd_same, Deaf_own]; exact hq'⟩
        · obtain ⟨y, hy, hqy⟩ := hcom.old k' k1 k2
          exact ⟨y, by rw [setGet _ _ (by omega), hy, Option.map_some, woken_quitsD hqy], by rw [upd_ne q k e, Deaf_other t (by omega) _ g_of_ofEvents]; exact hqy⟩
      · obtain ⟨y, hy, hsy⟩ := hcom.wk k' hk
        exact ⟨y, by rw [setGet _ _ (by omega), hy, Option.map_some, hsy.woken], hsy⟩
      · obtain ⟨r, hr, hr0⟩ := hcom.rel k' hk hst
        exact ⟨r, hr.appOther g_of_ofEvents (by omega), hr0⟩
end
end Go.Proofs.YtnojjmkmkelbgaaGreat

/- Workers who read, add to one sum and leave, 3: a worker's step. -/
namespace Go.Proofs.YtnojjmkmkelbgaaGreat
open Go.Conc Go.ConcN Go.RowKit
open Go.ConcR (KK wgBlock WgAt stA smA rd wr mk Payload DC0 Bk g_of_ofEvents bk_of_mute ofEvent_loc_mark ofEvent_mk)

theorem sum_same {j i : Nat} (p : Ph) (X : Nat → WX) (x : WX) (h : (if x.e = 0 then p.bit i else 0) = (if (X i).e = 0 then p.bit i else 0)) : total p j (upd X i x) = total p j X :=
  sumTo_congr fun a _ => by
    by_cases e : a = i
    · subst e; rw [upd_same]; exact h
    · rw [upd_ne X _ e]
theorem sum_more {j i : Nat} (p : Ph) (X : Nat → WX) (x : WX) (hi : i < j) (h0 : x.e = 0) (h1 : (X i).e ≠ 0) : total p j (upd X i x) = total p j X + p.bit i := by
  have key : ∀ j, i < j → sumTo j (fun a => if (upd X i x a).e = 0 then p.bit a else 0) = sumTo j (fun a => if (X a).e = 0 then p.bit a else 0) + p.bit i := by
    intro j
    induction j with
    | zero => intro h; omega
    | succ j ih =>
      intro h
      simp only [sumTo]
      by_cases e : j = i
      · subst e
        rw [upd_same, if_pos h0, if_neg h1, sumTo_congr (g := fun a => if (X a).e = 0 then p.bit a else 0) (fun a ha => by rw [upd_ne X x (by omega)])]
        omega
      · rw [ih (by omega), upd_ne X x e]; omega
  exact key j hi
theorem sum_le {p : Ph} {j : Nat} (X : Nat → WX) (hj : j ≤ p.n) : total p j X ≤ sumTo p.n p.bit := by
  have h1 : ∀ j, total p j X ≤ sumTo j p.bit := fun j => by
    induction j with
    | zero => exact Nat.le_refl _
    | succ j ih =>
      simp only [total, sumTo] at *
      split <;> omega
  have h2 : ∀ k j, sumTo j p.bit ≤ sumTo (j + k) p.bit := fun k => by
    induction k with
    | zero => exact fun j => Nat.le_refl _
    | succ k ih => exact fun j => Nat.le_trans (ih j) (by rw [show j + (k + 1) = (j + k) + 1 by omega]; simp only [sumTo]; omega)
  have := h2 (p.n - j) j
  rw [show j + (p.n - j) = p.n by omega] at this
  exact Nat.le_trans (h1 j) this
theorem bit_le {p : Ph} {j i : Nat} (X : Nat → WX) (hi : i < j) (hj : j ≤ p.n) (he : (X i).e ≠ 0) : total p j X + p.bit i ≤ sumTo p.n p.bit := by
  have h := sum_more p X (⟨⟨0, 0, 0⟩, 0, 0, undef, fun _ => False⟩ : WX) hi rfl he
  rw [← h]
  exact sum_le _ hj

section
variable {p : Ph} {ow : Nat → Nat} {h g : Nat} {M : Nat → Prop} {fn : FuncId} {pos : String} {es : Array Event}
theorem okT_book (hb : ∀ e ∈ es, Bk p.Wg e) : ∀ op ∈ MemOp.ofEvents g fn pos es, ∀ x, op.act.touch? = some x → OkT p ow h g x := fun op hop x hx => by
  rcases (okW_of_Bk (Own := No) (Rd := No) (k := g) hb op hop).2 x hx with ⟨h1, h2, h3⟩ | h1 | h1
  · exact .inl ⟨.inl h1, h2, fun e => absurd e h3⟩
  · exact h1.elim
  · exact h1.1.elim
theorem okT_own (hM : ∀ b, M b → ow b = g ∧ p.Low ≤ b ∧ b < h) (he : ∀ e ∈ es, EvK p M e) : ∀ op ∈ MemOp.ofEvents g fn pos es, ∀ x, op.act.touch? = some x → OkT p ow h g x := fun op hop x hx => by
  obtain ⟨e, hee, rfl⟩ := Go.Conc.mem_ofEvents hop
  rcases (he e hee).1 x hx with ⟨h1, h2, h3⟩ | ⟨h1, a, h2, h3, h4⟩
  · exact .inl ⟨.inl h1, h2, fun e => absurd e h3⟩
  · exact .inr ⟨h1, a, h2, h3, h4.imp id fun hm => ⟨(hM _ hm).2.1, (hM _ hm).2.2, (hM _ hm).1⟩⟩
theorem okT_none (hn : ∀ e ∈ es, (MemAct.ofEvent e).touch? = none) : ∀ op ∈ MemOp.ofEvents g fn pos es, ∀ x, op.act.touch? = some x → OkT p ow h g x := fun op hop x hx => by
  obtain ⟨e, he, rfl⟩ := Go.Conc.mem_ofEvents hop
  rw [hn e he] at hx; cases hx
end
theorem of_g {g : Nat} {fn : FuncId} {pos : String} {es : Array Event} : ∀ op ∈ MemOp.ofEvents g fn pos es, op.g = g := fun op hop => by obtain ⟨e, _, rfl⟩ := Go.Conc.mem_ofEvents hop; rfl
theorem SumAt.set {p : Ph} {w : World} {s : Int} (h : SumAt p w s) (v : Int) : SumAt p (w.setCell (sA p) (.int .u32 v)) v := by
  unfold SumAt at h ⊢
  rw [sA, setCell_eq_setRow w p.S 0 _ p.tS (0, 0) _ h, setRow_heap w p.S _ _ p.tS _ h]
  simp
theorem ofEv_nil (t : Trace) (g : Nat) (fn : FuncId) (pos : String) : t ++ MemOp.ofEvents g fn pos #[] = t := by rw [ofEvents_eq]; simp

section
variable {p : Ph} {Anch Fin : Goroutine → World → Prop} {gs : Array Goroutine} {w : World} {sl : Option (Nat × Nat)} {j : Nat} {X : Nat → WX} {ow q : Nat → Nat} {tag : CTag} {e0 f0 d0 : Nat} {M0 : Nat → Prop} {a : Goroutine} {t : Trace} {st sm : Int}

set_option maxHeartbeats 1600000 in
theorem stepWorker (o : p.Ok) (hAr : ∀ g w, Anch g w → g.status = .running)
    (ha : gs[0]? = some a) (hcs : CS p Anch Fin tag e0 j f0 d0 M0 a w) (hcom : Com p j gs w t X ow q d0 M0) (hwg : WgAt p.ty p.Wg w st sm) (hmode : ConcN.Mode j (ds X) tag st sm)
    {i : Nat} (hi : i < j) {g : Goroutine} (hg : gs[p.m0 + i]? = some g) (hrun : g.status = .running) :
    ∃ m₁ ops μ', runT p.P (crowd gs w sl) (p.m0 + i) = (.next m₁, ops) ∧
      Lt2 μ' (phi p.n (Vc j (ds X)) tag + e0 + Ssum j (ds X) + sumTo j (fun i => (X i).e), f0 + 2 * Fsum j (ds X) + 2 * sumTo p.m0 q) ∧ Inv p Anch Fin μ' m₁ (t ++ ops) := by
  obtain ⟨g₁, hg₁, hs⟩ := hcom.wk i hi
  obtain rfl : g = g₁ := by rw [hg] at hg₁; exact Option.some.inj hg₁
  have hm1 := o.m0
  have hWS : p.Wg < p.Low ∧ p.S < p.Low := ⟨o.wg, o.s⟩
  have hMi := hcom.mo i hi
  have hMW : ¬ (X i).m p.Wg := fun h => by have := (hMi _ h).2.1; have := o.wg; omega
  have hMS : ¬ (X i).m p.S := fun h => by have := (hMi _ h).2.1; have := o.s; omega
  have hgN : p.m0 + i = 0 ∨ (p.m0 ≤ p.m0 + i ∧ p.m0 + i < p.m0 + j) := .inr ⟨by omega, by omega⟩
  have hb := hcs.bound
  have hVj := Vc_le j (ds X)
  generalize hst : (X i).d.stage = s at hs
  generalize hfu : (X i).d.fuel = m at hs
  generalize hde : (X i).d.deaf = dd at hs
  generalize hee : (X i).e = e at hs
  have hsd : (ds X i).stage = s := hst
  have hdk : Deaf t (p.m0 + i) = dd := by rw [hcom.deafW i hi, hde]
  cases hs with
  | pre h =>
    have mode7 : ∀ m', ConcN.Mode j (upd (ds X) i ⟨7, m', 0⟩) tag st sm := fun m' => by have := hmode.same (i := i) m' 0; rwa [hsd] at this
    -- an own step ahead of the stop
    have step : ∀ {g' : Goroutine} {w' : World} {es : Array Event} {m' : Nat}, stepG p.P false g w = .go g' w' es → DK p (X i).m w w' es → Wk p i (X i).c (X i).v e (X i).m m' g' w' → m' + 1 = m →
        ∃ m₁ ops μ', runT p.P (crowd gs w sl) (p.m0 + i) = (.next m₁, ops) ∧
          Lt2 μ' (phi p.n (Vc j (ds X)) tag + e0 + Ssum j (ds X) + sumTo j (fun i => (X i).e), f0 + 2 * Fsum j (ds X) + 2 * sumTo p.m0 q) ∧ Inv p Anch Fin μ' m₁ (t ++ ops) := by
      intro g' w' es m' hgo hD hk hm
      refine workerStep (x' := ⟨⟨7, m', 0⟩, e, (X i).c, (X i).v, (X i).m⟩) (ow' := ow) hAr hm1 ha hcs hcom hi hg hgo (Turn.ow hD.1 hMW hMS) (fun b hb => .inr (.inr hb)) hWS (fun _ _ => rfl) (hcom.mc i hi) (fun b hb => by have := hMi b hb; rw [hD.1.size]; exact this)
        ?_ (.pre hk) (fun e he => (hD.2 e he).2.2.2) (by rw [hde]; exact deafBehind_idle (fun e he => ⟨(hD.2 e he).2.1, (hD.2 e he).2.2.1⟩) 0) (fun h => by simp at h) ?_ (hwg.of_block (hD.1.block _ hMW)) (fun _ ht _ => (mode7 m').retag ht) (.inr ⟨hst.symm, hee.symm, by rw [hfu]; exact hm⟩)
      · rw [hD.1.size]
        exact hcom.ti.app o of_g fun op hop x hx => ⟨hgN, okT_own hMi hD.2 op hop x hx⟩
      · rw [sum_same p X _ (by simp [hee])]
        exact (hD.1.block _ hMS).trans hcom.sum
    match e, h with
    | 0, h =>
      unfold Wk at h
      rcases Goes.cases h with hstop | ⟨m', rfl, hstep⟩
      · obtain ⟨_, hhas, g', hgo, m₂, hk⟩ := hstop w (RK.refl w)
        refine workerStep (x' := ⟨⟨6, m₂, 0⟩, 0, (X i).c, (X i).v, (X i).m⟩) (ow' := ow) hAr hm1 ha hcs hcom hi hg hgo (Z := fun _ => False) (.refl w) (fun b hb => hb.elim) hWS (fun _ _ => rfl) (hcom.mc i hi) hMi
          (hcom.ti.app o of_g fun op hop x hx => ⟨hgN, okT_none (by intro e he; simp at he; subst he; rfl) op hop x hx⟩) (.post (Nat.le_refl _) (.k1 hk)) (by intro e he; simp at he; subst he; simp [mk]) (by rw [hde]; rfl)
          (fun _ => ⟨t.size, RelBy.new hdk _ _, by obtain ⟨u, hu⟩ := hcom.ti.pre; rw [hu]; simp⟩) ?_ hwg (fun _ ht _ => (hmode.counted hi (by omega) (.inl rfl) _ _).retag ht) (.inl ⟨by rw [hst, hee]; simp only; omega, by simp [cnt, hst]⟩)
        rw [sum_same p X _ (by simp [hee])]
        exact hcom.sum
      · obtain ⟨g', w', es, hgo, hD, hg'⟩ := hstep w (RK.refl w)
        exact step hgo hD (by unfold Wk; exact hg') rfl
    | 1, h =>
      unfold Wk at h
      rcases Goes.cases h with hstop | ⟨m', rfl, hstep⟩
      · obtain ⟨_, hx⟩ := hstop w (RK.refl w)
        have hbl := bit_le X hi (show j ≤ p.n by omega) (by omega)
        have hbs := o.bits
        obtain ⟨g', hgo, m₂, hk⟩ := hx (total p j X) (by omega) hcom.sum
        have has := aside_setCell w (sA p) (.int .u32 ((total p j X + p.bit i : Nat) : Int))
        have hsu := hcom.sum.set ((total p j X + p.bit i : Nat) : Int)
        refine workerStep (x' := ⟨⟨7, m₂, 0⟩, 0, (X i).c, (X i).v, (X i).m⟩) (ow' := ow) hAr hm1 ha hcs hcom hi hg hgo (Turn.su has ⟨_, hsu⟩ o.ne) (fun b hb => .inr (.inl hb)) hWS (fun _ _ => rfl) (hcom.mc i hi) (fun b hb => by have := hMi b hb; rw [has.size]; exact this)
          ?_ (.pre hk) (by intro e he; simp at he; rcases he with rfl | rfl <;> simp [rd, wr]) (by rw [hde]; exact deafBehind_idle (by intro e he; simp at he; rcases he with rfl | rfl <;> simp [rd, wr]) 0) (fun h => by simp at h) ?_ (hwg.of_block (has.block _ o.ne)) (fun _ ht _ => (mode7 m₂).retag ht) (.inl ⟨by rw [hst, hee]; simp only; omega, by simp [cnt, hst]⟩)
        · rw [has.size]
          refine hcom.ti.app o of_g fun op hop x hx => ⟨hgN, ?_⟩
          obtain ⟨e, he, rfl⟩ := Go.Conc.mem_ofEvents hop
          simp at he
          rcases he with rfl | rfl <;> simp only [rd, wr, Go.ConcR.ofEvent_cell, MemAct.touch?, Option.some.injEq] at hx <;> subst hx <;> exact .inl ⟨.inr ⟨sA p, rfl, rfl⟩, by simp, by simp⟩
        · rw [sum_more p X _ hi rfl (by omega)]
          exact hsu
      · obtain ⟨g', w', es, hgo, hD, hg'⟩ := hstep w (RK.refl w)
        exact step hgo hD (by unfold Wk; exact hg') rfl
    | e + 2, h =>
      unfold Wk at h
      rcases Goes.cases h with hstop | ⟨m', rfl, hstep⟩
      · obtain ⟨_, g', w', hgo, hgr, m₂, hk1, hk0⟩ := hstop w (RK.refl w)
        have hsz := hgr.size
        have alloc : ∀ e', Wk p i (X i).c (X i).v e' (fun x => (X i).m x ∨ x = w.heap.size) m₂ g' w' → e' < e + 2 → (if e' = 0 then p.bit i else 0) = 0 →
            ∃ m₁ ops μ', runT p.P (crowd gs w sl) (p.m0 + i) = (.next m₁, ops) ∧
              Lt2 μ' (phi p.n (Vc j (ds X)) tag + e0 + Ssum j (ds X) + sumTo j (fun i => (X i).e), f0 + 2 * Fsum j (ds X) + 2 * sumTo p.m0 q) ∧ Inv p Anch Fin μ' m₁ (t ++ ops) := by
          intro e' hk he' hz
          refine workerStep (x' := ⟨⟨7, m₂, 0⟩, e', (X i).c, (X i).v, fun x => (X i).m x ∨ x = w.heap.size⟩) (ow' := upd ow w.heap.size (p.m0 + i)) hAr hm1 ha hcs hcom hi hg hgo (Turn.gr hgr o hcom.low) (fun b hb => hb.elim) hWS (fun b hb => upd_ne ow _ (by omega)) (.inl (hcom.mc i hi)) (fun b hb => ?_)
            ?_ (.pre hk) (by simp) (by rw [hde]; rfl) (fun h => by simp at h) ?_ (hwg.of_block (hgr.block _ (by have := hcom.low; have := o.wg; omega))) (fun _ ht _ => (mode7 m₂).retag ht) (.inl ⟨by rw [hst, hee]; simp only; omega, by simp [cnt, hst]⟩)
          · rcases hb with hb | rfl
            · have := hMi b hb
              exact ⟨by rw [upd_ne ow _ (by omega)]; exact this.1, this.2.1, by omega⟩
            · exact ⟨upd_same _ _ _, hcom.low, by omega⟩
          · rw [ofEv_nil, hsz]
            exact hcom.ti.fresh _
          · rw [sum_same p X _ (by simp only; rw [hz, hee]; simp)]
            exact (hgr.block _ (by have := hcom.low; have := o.s; omega)).trans hcom.sum
        by_cases hb0 : p.bit i = 0
        · exact alloc 0 (hk0 hb0) (by omega) (by simp [hb0])
        · exact alloc (e + 1) (hk1 hb0) (by omega) (by simp)
      · obtain ⟨g', w', es, hgo, hD, hg'⟩ := hstep w (RK.refl w)
        exact step hgo hD (by unfold Wk; exact hg') rfl
  | post h6 h =>
    -- a step of the library's bookkeeping: at most the group's block turns
    have bookG : ∀ {g' : Goroutine} {w' : World} {es : Array Event} {s' m' dd' : Nat} {st' sm' : Int}, stepG p.P false g w = .go g' w' es → Aside p.Wg w w' → WgAt p.ty p.Wg w' st' sm' → (∀ e ∈ es, Bk p.Wg e) →
        (∀ jx e, es[jx]? = some e → (MemAct.ofEvent e).touch? = none ∨ 0 < deafBehind dd (es.extract 0 jx)) → WSit p.P p.ty p.Wg (X i).c 1 No No 0 1 (X i).v s' m' dd' g' w' → deafBehind dd es = dd' → s' ≤ 6 →
        (∀ tag', (tag' = tag ∨ (tag = .blk ∧ tag' = .w3)) → (mayWake p.P g = true → g'.status = .running → tag' ≠ .blk) → ConcN.Mode j (upd (ds X) i ⟨s', m', dd'⟩) tag' st' sm') → ((s' < s ∧ cnt ⟨s', m', dd'⟩ ≤ cnt (ds X i)) ∨ (s' = s ∧ m' + 1 = m)) →
        ∃ m₁ ops μ', runT p.P (crowd gs w sl) (p.m0 + i) = (.next m₁, ops) ∧
          Lt2 μ' (phi p.n (Vc j (ds X)) tag + e0 + Ssum j (ds X) + sumTo j (fun i => (X i).e), f0 + 2 * Fsum j (ds X) + 2 * sumTo p.m0 q) ∧ Inv p Anch Fin μ' m₁ (t ++ ops) := by
      intro g' w' es s' m' dd' st' sm' hgo hAs hwg' hbk hd hs' hdd h6' hmode' hlt
      refine workerStep (x' := ⟨⟨s', m', dd'⟩, 0, (X i).c, (X i).v, (X i).m⟩) (ow' := ow) hAr hm1 ha hcs hcom hi hg hgo (Turn.wg hAs ⟨_, _, hwg'⟩ o.ne) (fun b hb => .inl hb) hWS (fun _ _ => rfl) (hcom.mc i hi) (fun b hb => by have := hMi b hb; rw [hAs.size]; exact this)
        ?_ (.post h6' hs') (norel_of_Bk hbk) (by rw [hde]; exact hdd) (fun _ => let ⟨r, hr, hr0⟩ := hcom.rel i hi (by omega); ⟨r, hr.book hdk _ _ hbk hd, hr0⟩) ?_ hwg' hmode' ?_
      · rw [hAs.size]
        exact hcom.ti.app o of_g fun op hop x hx => ⟨hgN, okT_book hbk op hop x hx⟩
      · rw [sum_same p X _ (by simp [hee])]
        exact (hAs.block _ (Ne.symm o.ne)).trans hcom.sum
      · rcases hlt with ⟨h1, h2⟩ | ⟨h1, h2⟩
        · exact .inl ⟨by rw [hst, hee]; exact h1, h2⟩
        · exact .inr ⟨by rw [hst]; exact h1, hee.symm, by rw [hfu]; exact h2⟩
    have book : ∀ {g' : Goroutine} {w' : World} {es : Array Event} {s' m' dd' : Nat} {st' sm' : Int}, stepG p.P false g w = .go g' w' es → Aside p.Wg w w' → WgAt p.ty p.Wg w' st' sm' → (∀ e ∈ es, Bk p.Wg e) →
        (∀ jx e, es[jx]? = some e → (MemAct.ofEvent e).touch? = none ∨ 0 < deafBehind dd (es.extract 0 jx)) → WSit p.P p.ty p.Wg (X i).c 1 No No 0 1 (X i).v s' m' dd' g' w' → deafBehind dd es = dd' → s' ≤ 6 →
        ConcN.Mode j (upd (ds X) i ⟨s', m', dd'⟩) tag st' sm' → ((s' < s ∧ cnt ⟨s', m', dd'⟩ ≤ cnt (ds X i)) ∨ (s' = s ∧ m' + 1 = m)) →
        ∃ m₁ ops μ', runT p.P (crowd gs w sl) (p.m0 + i) = (.next m₁, ops) ∧
          Lt2 μ' (phi p.n (Vc j (ds X)) tag + e0 + Ssum j (ds X) + sumTo j (fun i => (X i).e), f0 + 2 * Fsum j (ds X) + 2 * sumTo p.m0 q) ∧ Inv p Anch Fin μ' m₁ (t ++ ops) :=
      fun hgo hAs hwg' hbk hd hs' hdd h6' hmode' hlt => bookG hgo hAs hwg' hbk hd hs' hdd h6' (fun _ ht _ => hmode'.retag ht) hlt
    have idle : ∀ {g' : Goroutine} {m' : Nat}, stepG p.P false g w = .go g' w #[] → WSit p.P p.ty p.Wg (X i).c 1 No No 0 1 (X i).v s m' dd g' w → m' + 1 = m →
        ∃ m₁ ops μ', runT p.P (crowd gs w sl) (p.m0 + i) = (.next m₁, ops) ∧
          Lt2 μ' (phi p.n (Vc j (ds X)) tag + e0 + Ssum j (ds X) + sumTo j (fun i => (X i).e), f0 + 2 * Fsum j (ds X) + 2 * sumTo p.m0 q) ∧ Inv p Anch Fin μ' m₁ (t ++ ops) := by
      intro g' m' hgo hs' hm
      exact book hgo (.refl p.Wg w) hwg (by simp) (by simp) hs' rfl h6 (by have := hmode.same (i := i) m' dd; rwa [hsd] at this) (.inr ⟨rfl, hm⟩)
    cases h with
    | r0 h => omega
    | k1 h =>
      rcases Goes.cases h with hstop | ⟨m', rfl, hstep⟩
      · obtain ⟨_, g', hgo, m₂, hk⟩ := hstop w (RW.refl w)
        exact book hgo (.refl p.Wg w) hwg (by intro e he; simp at he; subst he; exact .inl rfl) (by intro jx e he; exact .inl (by have := Array.mem_of_getElem? he; simp at this; subst this; rfl)) (.d1 hk) rfl (by omega)
          (hmode.counted hi (by omega) (.inr rfl) _ _) (.inl ⟨by omega, by simp [cnt, hsd]⟩)
      · obtain ⟨g', w', es, hgo, ⟨rfl, rfl⟩, hg'⟩ := hstep w (RW.refl w)
        exact idle hgo (.k1 hg') rfl
    | d1 h =>
      rcases Goes.cases h with hstop | ⟨m', rfl, hstep⟩
      · obtain ⟨_, hall⟩ := hstop w (RW.refl w)
        have hc1 : cnt (ds X i) = 1 := by simp [cnt, hsd]
        have hV1 : 1 ≤ Vc j (ds X) := by have := le_sumTo (f := fun x => cnt (ds X x)) hi; simp only [Vc]; omega
        have bk2 : ∀ e ∈ #[rd (stA p.Wg), wr (stA p.Wg)], Bk p.Wg e := by intro e he; simp at he; rcases he with rfl | rfl <;> exact bk_cell _ _ rfl
        have df2 : ∀ jx e, (#[rd (stA p.Wg), wr (stA p.Wg)] : Array Event)[jx]? = some e → (MemAct.ofEvent e).touch? = none ∨ 0 < deafBehind 1 ((#[rd (stA p.Wg), wr (stA p.Wg)] : Array Event).extract 0 jx) := by
          intro jx e he
          match jx, he with
          | 0, _ => exact .inr (by simp [deafBehind])
          | 1, _ => exact .inr (by simp [deafBehind, rd])
          | jx + 2, he => simp at he
        have hq0 : ∀ q, cnt (⟨1, q, 1⟩ : WD) = 0 := fun _ => rfl
        have opq : ∀ q, OpenSt j (ds X) → OpenSt j (upd (ds X) i ⟨1, q, 1⟩) := fun q h a ha => by
          by_cases e : a = i
          · subst e; rw [upd_same]; simp
          · rw [upd_ne (ds X) _ e]; exact h a ha
        cases hmode with
        | opn h1 h2 h3 =>
          obtain ⟨v, hv⟩ : ∃ v, Vc j (ds X) + pend tag = v + 1 := ⟨Vc j (ds X) + pend tag - 1, by omega⟩
          rw [hv] at hwg
          have hpn := o.n
          have hw1 : WgAt p.ty p.Wg w (((v : Nat) + 1) * KK + ((0 : Nat) : Int)) 0 := by simpa using hwg
          obtain ⟨g', hgo, _, hq⟩ := hall v 0 (by omega) (by omega) hw1
          obtain ⟨q, hq⟩ := hq (by omega)
          have hv' : Vc j (upd (ds X) i ⟨1, q, 1⟩) + pend tag = v := by have := Vc_upd (ds X) (⟨1, q, 1⟩ : WD) hi; have := hq0 q; omega
          refine book hgo (aside_setCell w (stA p.Wg) _) (hwg.setSt _) bk2 df2 (.quit hq) rfl (by omega) ?_ (.inl ⟨by omega, by simp [cnt]⟩)
          have e : ((v : Nat) : Int) * KK + ((0 : Nat) : Int) = ((Vc j (upd (ds X) i ⟨1, q, 1⟩) + pend tag : Nat) : Int) * KK := by rw [hv']; simp
          rw [e]
          exact .opn h1 (opq q h2) (fun vs ev => by have := h3 vs ev; omega)
        | reg h1 h2 h3 =>
          obtain ⟨v, hv⟩ : ∃ v, Vc j (ds X) = v + 1 := ⟨Vc j (ds X) - 1, by omega⟩
          rw [hv] at hwg
          have hpn := o.n
          have hp : pend tag = 0 := by cases tag <;> first | rfl | exact h1.elim
          have hw1 : WgAt p.ty p.Wg w (((v : Nat) + 1) * KK + ((1 : Nat) : Int)) 0 := by simpa using hwg
          obtain ⟨g', hgo, hl, hq⟩ := hall v 1 (by omega) (by omega) hw1
          by_cases hv0 : v = 0
          · subst hv0
            obtain ⟨m₂, hk⟩ := hl ⟨rfl, rfl⟩
            refine book hgo (aside_setCell w (stA p.Wg) _) (hwg.setSt _) bk2 df2 (.d2 hk) rfl (by omega) ?_ (.inl ⟨by omega, by simp [cnt]⟩)
            have hoth : ∀ a, a < j → a ≠ i → (ds X a).stage = 1 := fun a ha e => by
              have c0 := others_uncounted hi hv hc1 a ha e
              have := h2 a ha
              simp only [cnt] at c0
              split at c0 <;> omega
            have := ConcN.Mode.last (j := j) (D := upd (ds X) i ⟨4, m₂, 1⟩) (tag := tag) i h1 hi (by rw [upd_same]; simp) (fun a ha e => by rw [upd_ne (ds X) _ e]; exact hoth a ha e)
            rw [upd_same] at this
            simpa using this
          · obtain ⟨q, hq⟩ := hq (by omega)
            have hv' : Vc j (upd (ds X) i ⟨1, q, 1⟩) = v := by have := Vc_upd (ds X) (⟨1, q, 1⟩ : WD) hi; have := hq0 q; omega
            refine book hgo (aside_setCell w (stA p.Wg) _) (hwg.setSt _) bk2 df2 (.quit hq) rfl (by omega) ?_ (.inl ⟨by omega, by simp [cnt]⟩)
            have e : ((v : Nat) : Int) * KK + ((1 : Nat) : Int) = ((Vc j (upd (ds X) i ⟨1, q, 1⟩) : Nat) : Int) * KK + 1 := by rw [hv']; simp
            rw [e]
            exact .reg h1 (opq q h2) (by omega)
        | last L _ h2 h3 h4 =>
          by_cases e : i = L
          · subst e; omega
          · have := h4 i hi e; omega
        | sema h2 => have := h2 i hi; omega
        | fin _ h2 => have := h2 i hi; omega
      · obtain ⟨g', w', es, hgo, ⟨rfl, rfl⟩, hg'⟩ := hstep w (RW.refl w)
        exact idle hgo (.d1 hg') rfl
    | d2 h =>
      rcases Goes.cases h with hstop | ⟨m', rfl, hstep⟩
      · obtain ⟨_, hx⟩ := hstop w (RW.refl w)
        obtain ⟨hW3, hoth, rfl, rfl⟩ := hmode.isLast hi (by omega)
        simp only [hsd] at hwg
        obtain ⟨g', hgo, m₂, hk⟩ := hx (by simpa using hwg)
        refine book hgo (.refl p.Wg w) hwg (by intro e he; simp at he; subst he; exact bk_cell _ _ rfl) (by intro jx e he; match jx, he with | 0, _ => exact .inr (by simp [deafBehind]) | jx + 1, he => simp at he) (.d3 hk) rfl (by omega) ?_ (.inl ⟨by omega, by simp [cnt]⟩)
        have := ConcN.Mode.last (j := j) (D := upd (ds X) i ⟨3, m₂, 1⟩) (tag := tag) i hW3 hi (by rw [upd_same]; simp) (fun a ha e => by rw [upd_ne (ds X) _ e]; exact hoth a ha e)
        rw [upd_same] at this
        simpa using this
      · obtain ⟨g', w', es, hgo, ⟨rfl, rfl⟩, hg'⟩ := hstep w (RW.refl w)
        exact idle hgo (.d2 hg') rfl
    | d3 h =>
      rcases Goes.cases h with hstop | ⟨m', rfl, hstep⟩
      · obtain ⟨_, hx⟩ := hstop w (RW.refl w)
        obtain ⟨hW3, hoth, rfl, rfl⟩ := hmode.isLast hi (by omega)
        simp only [hsd] at hwg
        obtain ⟨g', hgo, m₂, hk⟩ := hx (by simpa using hwg)
        refine book hgo (aside_setCell w (stA p.Wg) _) (hwg.setSt 0) (by intro e he; simp at he; subst he; exact bk_cell _ _ rfl) (by intro jx e he; match jx, he with | 0, _ => exact .inr (by simp [deafBehind]) | jx + 1, he => simp at he) (.d4 hk) rfl (by omega) ?_ (.inl ⟨by omega, by simp [cnt]⟩)
        have := ConcN.Mode.last (j := j) (D := upd (ds X) i ⟨2, m₂, 1⟩) (tag := tag) i hW3 hi (by rw [upd_same]; simp) (fun a ha e => by rw [upd_ne (ds X) _ e]; exact hoth a ha e)
        rw [upd_same] at this
        simpa using this
      · obtain ⟨g', w', es, hgo, ⟨rfl, rfl⟩, hg'⟩ := hstep w (RW.refl w)
        exact idle hgo (.d3 hg') rfl
    | d4 h =>
      rcases Goes.cases h with hstop | ⟨m', rfl, hstep⟩
      · obtain ⟨_, hmw, hx⟩ := hstop w (RW.refl w)
        obtain ⟨hW3, hoth, rfl, rfl⟩ := hmode.isLast hi (by omega)
        simp only [hsd] at hwg
        obtain ⟨g', hgo, q, hq⟩ := hx (by simpa using hwg)
        have hrun' : g'.status = .running := by
          cases q with
          | zero => exact absurd hq.2 (by decide)
          | succ q => exact hq.elim (fun x => absurd x.2 (by decide)) (fun x => x.1)
        refine bookG hgo (aside_setCell w (smA p.Wg) _) (hwg.setSm 1) (es := semEvents (smA p.Wg)) bk_sem ?_ (.quit hq) (by simp [deafBehind, semEvents]) (by omega) ?_ (.inl ⟨by omega, by simp [cnt]⟩)
        · intro jx e he
          match jx, he with
          | 0, he => simp [semEvents] at he; subst he; exact .inl rfl
          | 1, _ => exact .inr (by simp [deafBehind, semEvents])
          | 2, _ => exact .inr (by simp [deafBehind, semEvents])
          | 3, he => simp [semEvents] at he; subst he; exact .inl rfl
          | jx + 4, he => simp [semEvents] at he
        · intro tag' ht hw
          have hnb := hw hmw hrun'
          have e3 : tag' = .w3 := by
            rcases ht with rfl | ⟨_, rfl⟩
            · cases tag' <;> first | rfl | exact hW3.elim | exact absurd rfl hnb
            · rfl
          subst e3
          simp only [if_true]
          exact .sema fun a ha => by
            by_cases e : a = i
            · subst e; rw [upd_same]
            · rw [upd_ne (ds X) _ e]; exact hoth a ha e
      · obtain ⟨g', w', es, hgo, ⟨rfl, rfl⟩, hg'⟩ := hstep w (RW.refl w)
        exact idle hgo (.d4 hg') rfl
    | quit h =>
      cases m with
      | zero => rw [h.1] at hrun; cases hrun
      | succ q =>
        rcases h with ⟨hf, _⟩ | ⟨_, g', es, hmute, hstep, hq⟩
        · rw [hf] at hrun; cases hrun
        · have hbk : ∀ e ∈ es, Bk p.Wg e := fun e he => bk_of_mute (hmute e he)
          have hno : ∀ jx e, es[jx]? = some e → (MemAct.ofEvent e).touch? = none ∨ 0 < deafBehind dd (es.extract 0 jx) := fun jx e he => .inl (touch_mute (hmute e (Array.mem_of_getElem? he)))
          exact book (hstep w) (.refl p.Wg w) hwg hbk hno (.quit hq) rfl (by omega) (by have := hmode.same (i := i) q (deafBehind dd es); rwa [hsd] at this) (.inr ⟨rfl, rfl⟩)
end
end Go.Proofs.YtnojjmkmkelbgaaGreat

/- Workers who read, add to one sum and leave, 4: the starter's step; the phase. -/
namespace Go.Proofs.YtnojjmkmkelbgaaGreat
open Go.Conc Go.ConcN
open Go.ConcR (KK wgBlock WgAt stA smA rd wr mk Payload DC0 Bk g_of_ofEvents ofEvent_mk)

/-- Behind the phase. -/
def Done (p : Ph) (Fin : Goroutine → World → Prop) (m : Machine) (t : Trace) : Prop :=
  ∃ (gs : Array Goroutine) (a : Goroutine) (w : World) (sl : Option (Nat × Nat)) (q : Nat → Nat) (B' : Nat), m = crowd gs w sl ∧ gs.size = p.m0 + p.n ∧ gs[0]? = some a ∧ Fin a w ∧ SumAt p w ((sumTo p.n p.bit : Nat) : Int) ∧ Leavers p.P t gs q ∧ Fr p.Sh B' t

theorem okT_mk {p : Ph} {ow : Nat → Nat} {h : Nat} {fn : FuncId} {pos : String} {k : Mark} (hk : k = .disable ∨ k = .enable ∨ (∃ a, k = .acquire a) ∨ ∃ a : Addr, a.block = p.Wg ∧ (k = .read a ∨ k = .write a)) :
    ∀ op ∈ MemOp.ofEvents 0 fn pos #[mk k], ∀ x, op.act.touch? = some x → OkT p ow h 0 x := fun op hop x hx => by
  obtain ⟨e, he, rfl⟩ := Go.Conc.mem_ofEvents hop
  simp only [Array.mem_singleton] at he
  subst he
  rw [ofEvent_mk] at hx
  rcases hk with rfl | rfl | ⟨a, rfl⟩ | ⟨a, ha, rfl | rfl⟩ <;> simp only [MemAct.touch?, Option.some.injEq, reduceCtorEq] at hx <;> subst hx <;> exact .inl ⟨.inl ⟨a, rfl, ha⟩, by simp, fun _ => rfl⟩

section
variable {p : Ph} {Anch Fin : Goroutine → World → Prop} {gs : Array Goroutine} {w w' : World} {sl : Option (Nat × Nat)} {j : Nat} {X : Nat → WX} {ow q : Nat → Nat} {tag tag' : CTag} {e0 e' f0 f' d0 B b : Nat} {M0 : Nat → Prop} {a a' : Goroutine} {t : Trace} {st sm st' sm' : Int} {es : Array Event}

theorem bookC (o : p.Ok) (ha : gs[0]? = some a) (hcom : Com p j gs w t X ow q d0 M0) (hgo : stepG p.P true a w = .go a' w' es) (hAs : Aside p.Wg w w') (hwg' : WgAt p.ty p.Wg w' st' sm')
    (hok : ∀ op ∈ MemOp.ofEvents 0 a.frame.fn a.frame.place es, ∀ x, op.act.touch? = some x → OkT p ow w.heap.size 0 x) (hnr : ∀ e ∈ es, e.loc ≠ .mark (.release (stA p.Wg)))
    (hcs' : CS p Anch Fin tag' e' j f' (deafBehind d0 es) M0 a' w') (hmode' : ConcN.Mode j (ds X) tag' st' sm')
    (hlt : phi p.n (Vc j (ds X)) tag' + e' < phi p.n (Vc j (ds X)) tag + e0 ∨ (phi p.n (Vc j (ds X)) tag' + e' = phi p.n (Vc j (ds X)) tag + e0 ∧ f' < f0)) :
    ∃ m₁ ops μ', runT p.P (crowd gs w sl) 0 = (.next m₁, ops) ∧
      Lt2 μ' (phi p.n (Vc j (ds X)) tag + e0 + Ssum j (ds X) + sumTo j (fun i => (X i).e), f0 + 2 * Fsum j (ds X) + 2 * sumTo p.m0 q) ∧ Inv p Anch Fin μ' m₁ (t ++ ops) :=
  callerStep (ow' := ow) o.m0 ha hcom hgo (Turn.wg hAs ⟨_, _, hwg'⟩ o.ne) (fun b hb => .inl hb) ⟨o.wg, o.s⟩ (fun _ _ => rfl) (fun b hb => by rw [hAs.size]; exact hcom.m0 b hb)
    (by rw [hAs.size]; exact hcom.ti.app o of_g fun op hop x hx => ⟨.inl rfl, hok op hop x hx⟩) hnr hcs' ((hAs.block _ (Ne.symm o.ne)).trans hcom.sum) hwg' hmode' hlt

theorem idleC (o : p.Ok) (ha : gs[0]? = some a) (hcom : Com p j gs w t X ow q d0 M0) (hwg : WgAt p.ty p.Wg w st sm) (hmode : ConcN.Mode j (ds X) tag st sm) (hgo : stepG p.P true a w = .go a' w #[])
    (hcs' : CS p Anch Fin tag e0 j f' d0 M0 a' w) (hf : f' < f0) :
    ∃ m₁ ops μ', runT p.P (crowd gs w sl) 0 = (.next m₁, ops) ∧
      Lt2 μ' (phi p.n (Vc j (ds X)) tag + e0 + Ssum j (ds X) + sumTo j (fun i => (X i).e), f0 + 2 * Fsum j (ds X) + 2 * sumTo p.m0 q) ∧ Inv p Anch Fin μ' m₁ (t ++ ops) :=
  bookC o ha hcom hgo (.refl p.Wg w) hwg (okT_none (by simp)) (by simp) hcs' hmode (.inr ⟨rfl, hf⟩)

/-- The go statement. -/
theorem Com.spawn (h : Com p j gs w t X ow q 0 (One b)) (o : p.Ok) {child : Goroutine} {x y : MemOp} {C e m : Nat} {v : Value} (hx : x.g = 0 ∧ x.act = .go (p.m0 + j)) (hy : y.g = p.m0 + j ∧ y.act = .start)
    (hC : One b C) (he : e = 0 → p.bit j = 0) (hc : Wk p j C v e (One b) m child w) :
    Com p (j + 1) ((gs.setIfInBounds 0 a').push child) w (t ++ #[x, y]) (upd X j ⟨⟨7, m, 0⟩, e, C, v, One b⟩) (upd ow b (p.m0 + j)) q 0 Mt := by
  have hm : ∀ op ∈ #[x, y], op = x ∨ op = y := by intro op hop; simpa using hop
  have hm1 := o.m0
  have hst : ∀ op ∈ #[x, y], op.act ≠ .mark .disable ∧ op.act ≠ .mark .enable := by
    intro op hop
    rcases hm op hop with rfl | rfl
    · rw [hx.2]; exact ⟨by simp, by simp⟩
    · rw [hy.2]; exact ⟨by simp, by simp⟩
  have hb := h.m0 b rfl
  have hget : ∀ k, 1 ≤ k → k < p.m0 + j → ((gs.setIfInBounds 0 a').push child)[k]? = gs[k]? := fun k k1 k2 => by
    rw [Array.getElem?_push_lt (by simp [h.size]; omega), ← Array.getElem?_eq_getElem, Array.getElem?_setIfInBounds_ne (by omega)]
  refine ⟨by simp [h.size]; omega, fun k k1 k2 => ?_, fun k hk => ?_, fun k hk => ?_, fun k hk c hc' => ?_, fun c hc' => hc'.elim, h.low, ?_, h.norel.app fun op hop => ?_, by rw [Deaf_still t 0 _ hst, h.deaf0], fun k hk => ?_, fun k hk => by rw [Deaf_still t _ _ hst]; exact h.above k (by omega), fun k hk hs => ?_, ?_⟩
  · obtain ⟨g, hg, hq⟩ := h.old k k1 k2
    exact ⟨g, (hget k k1 (by omega)).trans hg, by rw [Deaf_still t _ _ hst]; exact hq⟩
  · rcases Nat.lt_or_ge k j with hlt | hge
    · obtain ⟨g, hg, hsg⟩ := h.wk k hlt
      exact ⟨g, (hget _ (by omega) (by omega)).trans hg, by rw [upd_ne X _ (by omega)]; exact hsg⟩
    · obtain rfl : k = j := by omega
      refine ⟨child, ?_, by rw [upd_same]; exact .pre hc⟩
      rw [show p.m0 + k = (gs.setIfInBounds 0 a').size by rw [Array.size_setIfInBounds, h.size], Array.getElem?_push_size]
  · rcases Nat.lt_or_ge k j with hlt | hge
    · rw [upd_ne X _ (by omega)]; exact h.mc k hlt
    · obtain rfl : k = j := by omega
      rw [upd_same]; exact hC
  · rcases Nat.lt_or_ge k j with hlt | hge
    · rw [upd_ne X _ (by omega)] at hc'
      obtain ⟨h1, h2, h3⟩ := h.mo k hlt c hc'
      exact ⟨by rw [upd_ne ow _ (fun e => by subst e; omega)]; exact h1, h2, h3⟩
    · obtain rfl : k = j := by omega
      rw [upd_same] at hc'
      obtain rfl : c = b := hc'
      exact ⟨upd_same _ _ _, hb.2⟩
  · refine h.ti.fork (by omega) (by omega) hx hy h.deaf0 (h.above _ (Nat.le_refl _)) fun c => ?_
    by_cases e : c = b
    · subst e; exact .inr ⟨hb.1, upd_same _ _ _⟩
    · exact .inl (upd_ne ow _ e)
  · rcases hm op hop with rfl | rfl
    · rw [hx.2]; simp
    · rw [hy.2]; simp
  · rw [Deaf_still t _ _ hst]
    rcases Nat.lt_or_ge k j with hlt | hge
    · rw [h.deafW k hlt, upd_ne X _ (by omega)]
    · obtain rfl : k = j := by omega
      rw [upd_same]
      exact h.above _ (Nat.le_refl _)
  · rcases Nat.lt_or_ge k j with hlt | hge
    · rw [upd_ne X _ (by omega)] at hs
      obtain ⟨r, hr, hr0⟩ := h.rel k hlt hs
      refine ⟨r, hr.appNot fun op hop => ?_, hr0⟩
      rcases hm op hop with rfl | rfl
      · rw [hx.1]; omega
      · rw [hy.1]; omega
    · obtain rfl : k = j := by omega
      rw [upd_same] at hs
      simp at hs
  · have e1 : total p (j + 1) (upd X j ⟨⟨7, m, 0⟩, e, C, v, One b⟩) = total p j X := by
      simp only [total, sumTo, upd_same]
      rw [sumTo_congr (g := fun a => if (X a).e = 0 then p.bit a else 0) (fun a ha => by rw [upd_ne X _ (by omega)])]
      split
      · rename_i h0; rw [he h0]; rfl
      · rfl
    rw [e1]
    exact h.sum

/-- Nobody is counted any more: all only leave. -/
theorem Com.leavers (h : Com p p.n gs w t X ow q d0 M0) (hq : AllQuit p.n (ds X)) : Leavers p.P t gs (fun k => if k < p.m0 then q k else (X (k - p.m0)).d.fuel) := by
  refine ⟨fun i g h0 hg => ?_, fun k hk => h.above k (by rw [← h.size]; exact hk)⟩
  have hlt : i < p.m0 + p.n := by have := (Array.getElem?_eq_some_iff.1 hg).1; rw [h.size] at this; exact this
  rcases Nat.lt_or_ge i p.m0 with hi | hi
  · obtain ⟨g', hg', hqq⟩ := h.old i h0 hi
    rw [hg] at hg'; cases hg'
    simp only [hi, if_true]
    exact hqq
  · obtain ⟨k, rfl⟩ : ∃ k, i = p.m0 + k := ⟨i - p.m0, by omega⟩
    obtain ⟨g', hg', hs⟩ := h.wk k (by omega)
    rw [hg] at hg'; cases hg'
    have h1 : (X k).d.stage = 1 := hq k (by omega)
    rw [if_neg (by omega), show p.m0 + k - p.m0 = k by omega, h.deafW k (by omega)]
    rw [h1] at hs
    generalize (X k).e = ee at hs
    cases hs with
    | post _ hs => exact hs.quits rfl

set_option maxHeartbeats 1600000 in
theorem w1Step (o : p.Ok) (ha : gs[0]? = some a) (hcom : Com p p.n gs w t X ow q 1 Mt) (hwg : WgAt p.ty p.Wg w st sm) (hmode : ConcN.Mode p.n (ds X) .w1 st sm)
    (h : Goes p.P true (R0 p Mt) DC0 (AtW1 p Anch Fin) f0 a w) :
    ∃ m₁ ops μ', runT p.P (crowd gs w sl) 0 = (.next m₁, ops) ∧
      Lt2 μ' (phi p.n (Vc p.n (ds X)) .w1 + 0 + Ssum p.n (ds X) + sumTo p.n (fun i => (X i).e), f0 + 2 * Fsum p.n (ds X) + 2 * sumTo p.m0 q) ∧ Inv p Anch Fin μ' m₁ (t ++ ops) := by
  rcases Goes.cases h with hstop | ⟨m', rfl, hstep⟩
  · obtain ⟨_, hall⟩ := hstop w (.refl w)
    obtain ⟨ho, rfl, rfl, _⟩ := hmode.open_inv trivial
    have hV := Vc_le p.n (ds X)
    have hn := o.n
    obtain ⟨a', hgo, h0, hne⟩ := hall (Vc p.n (ds X)) (by omega) (by simpa [pend] using hwg)
    by_cases hv : Vc p.n (ds X) = 0
    · obtain ⟨m₂, hk⟩ := h0 hv
      refine bookC o ha hcom hgo (.refl p.Wg w) hwg (okT_book bk_rd) (norel_of_Bk bk_rd) (tag' := .ke) (.ke hk) ?_ (.inl (by simp only [phi]; omega))
      have e : ((Vc p.n (ds X) + pend .w1 : Nat) : Int) * KK = 0 := by rw [hv]; simp [pend]
      rw [e]
      exact .fin trivial (allQuit_of ho hv)
    · obtain ⟨m₂, hk⟩ := hne hv
      exact bookC o ha hcom hgo (.refl p.Wg w) hwg (okT_book bk_rd) (norel_of_Bk bk_rd) (tag' := .w2 (Vc p.n (ds X))) (.w2 hk) (hmode.reopen trivial trivial rfl (fun vs e => by cases e; omega)) (.inl (by simp only [phi]; omega))
  · obtain ⟨a', w', es, hgo, ⟨rfl, rfl⟩, hg'⟩ := hstep w (.refl w)
    exact idleC o ha hcom hwg hmode hgo (.w1 hg') (by omega)

theorem nr_mk {k : Mark} (hk : ∀ a, k ≠ .release a) : ∀ e ∈ #[mk k], e.loc ≠ .mark (.release (stA p.Wg)) := fun e he hl => by
  simp only [Array.mem_singleton] at he
  subst he
  simp only [mk, Loc.mark.injEq] at hl
  exact hk _ hl

set_option maxHeartbeats 1600000 in
theorem stepCaller (o : p.Ok) (hAn : ∀ g w, Anch g w → ∃ m, Goes p.P true (R0 p Mt) DC0 (AtW1 p Anch Fin) m g w) (hf : Fr p.Shun B p.t0)
    (ha : gs[0]? = some a) (hcs : CS p Anch Fin tag e0 j f0 d0 M0 a w) (hcom : Com p j gs w t X ow q d0 M0) (hwg : WgAt p.ty p.Wg w st sm) (hmode : ConcN.Mode j (ds X) tag st sm) (hrun : a.status = .running) :
    (∃ m₁ ops, runT p.P (crowd gs w sl) 0 = (.next m₁, ops) ∧ Done p Fin m₁ (t ++ ops)) ∨
    (∃ m₁ ops μ', runT p.P (crowd gs w sl) 0 = (.next m₁, ops) ∧
      Lt2 μ' (phi p.n (Vc j (ds X)) tag + e0 + Ssum j (ds X) + sumTo j (fun i => (X i).e), f0 + 2 * Fsum j (ds X) + 2 * sumTo p.m0 q) ∧ Inv p Anch Fin μ' m₁ (t ++ ops)) := by
  have hVj := Vc_le j (ds X)
  have hn := o.n
  have hm1 := o.m0
  cases hcs with
  | al hr h =>
    rename_i r
    rcases Goes.cases h with hstop | ⟨m', rfl, hstep⟩
    · obtain ⟨_, a', w', hgo, hgr, m₂, hk⟩ := hstop w (.refl w)
      have hsz := hgr.size
      refine .inr (callerStep (ow' := upd ow w.heap.size 0) (tag' := .sp r 6) (M' := One w.heap.size) o.m0 ha hcom hgo (Turn.gr hgr o hcom.low) (fun b hb => hb.elim) ⟨o.wg, o.s⟩ (fun b hb => upd_ne ow _ (by omega)) (fun b hb => ?_) ?_ (by simp) (.ow hr hk)
        ((hgr.block _ (by have := hcom.low; have := o.s; omega)).trans hcom.sum) (hwg.of_block (hgr.block _ (by have := hcom.low; have := o.wg; omega))) (hmode.reopen trivial trivial rfl (by simp)) (.inl (by simp only [phi]; omega)))
      · obtain rfl : b = w.heap.size := hb
        exact ⟨upd_same _ _ _, hcom.low, by omega⟩
      · rw [ofEv_nil, hsz]; exact hcom.ti.fresh _
    · obtain ⟨a', w', es, hgo, ⟨rfl, rfl⟩, hg'⟩ := hstep w (.refl w)
      exact .inr (idleC o ha hcom hwg hmode hgo (.al hr hg') (by omega))
  | ow hr h =>
    rename_i r b
    rcases Goes.cases h with hstop | ⟨m', rfl, hstep⟩
    · obtain ⟨_, a', w', es, hgo, hD, m₂, hk⟩ := hstop w (.refl w)
      have hbo := hcom.m0 b rfl
      have hbW : ¬ One b p.Wg := fun e => by have : p.Wg = b := e; have := o.wg; omega
      have hbS : ¬ One b p.S := fun e => by have : p.S = b := e; have := o.s; omega
      have hdf : deafBehind 0 es = 0 := deafBehind_idle (fun e he => ⟨(hD.2 e he).2.1, (hD.2 e he).2.2.1⟩) 0
      refine .inr (callerStep (ow' := ow) (tag' := .sp r 5) (M' := One b) o.m0 ha hcom hgo (Turn.ow hD.1 hbW hbS) (fun c hc => .inr (.inr hc)) ⟨o.wg, o.s⟩ (fun _ _ => rfl) (fun c hc => by rw [hD.1.size]; exact hcom.m0 c hc) ?_ (fun e he => (hD.2 e he).2.2.2) (by rw [hdf]; exact .kd5 hr hk)
        ((hD.1.block _ hbS).trans hcom.sum) (hwg.of_block (hD.1.block _ hbW)) (hmode.reopen trivial trivial rfl (by simp)) (.inl (by simp only [phi]; omega)))
      rw [hD.1.size]
      exact hcom.ti.app o of_g fun op hop x hx => ⟨.inl rfl, okT_own (fun c hc => hcom.m0 c hc) hD.2 op hop x hx⟩
    · obtain ⟨a', w', es, hgo, ⟨rfl, rfl⟩, hg'⟩ := hstep w (.refl w)
      exact .inr (idleC o ha hcom hwg hmode hgo (.ow hr hg') (by omega))
  | kd5 hr h =>
    rcases Goes.cases h with hstop | ⟨m', rfl, hstep⟩
    · obtain ⟨_, a', hgo, m₂, hk⟩ := hstop w (.refl w)
      exact .inr (bookC o ha hcom hgo (.refl p.Wg w) hwg (okT_mk (.inl rfl)) (nr_mk (by simp)) (.a1 hr hk) (hmode.reopen trivial trivial rfl (by simp)) (.inl (by simp only [phi]; omega)))
    · obtain ⟨a', w', es, hgo, ⟨rfl, rfl⟩, hg'⟩ := hstep w (.refl w)
      exact .inr (idleC o ha hcom hwg hmode hgo (.kd5 hr hg') (by omega))
  | a1 hr h =>
    rename_i r b
    rcases Goes.cases h with hstop | ⟨m', rfl, hstep⟩
    · obtain ⟨_, hall⟩ := hstop w (.refl w)
      obtain ⟨ho, rfl, rfl, _⟩ := hmode.open_inv trivial
      obtain ⟨a', hgo, m₂, hk⟩ := hall (Vc (p.n - (r + 1)) (ds X)) (by omega) (by simpa [pend] using hwg)
      have e : (((Vc (p.n - (r + 1)) (ds X) : Nat) : Int) + 1) * KK = ((Vc (p.n - (r + 1)) (ds X) + 1 : Nat) : Int) * KK := by simp
      rcases hk with hk | hk
      · refine .inr (bookC o ha hcom hgo (aside_setCell w (stA p.Wg) _) (hwg.setSt _) (okT_book bk_rw) (norel_of_Bk bk_rw) (.sr hr hk) ?_ (.inl (by simp only [phi]; omega)))
        rw [e]
        exact .opn trivial ho (by simp)
      · refine .inr (bookC o ha hcom hgo (aside_setCell w (stA p.Wg) _) (hwg.setSt _) (okT_book bk_rw) (norel_of_Bk bk_rw) (.ke2 hr hk) ?_ (.inl (by simp only [phi]; omega)))
        rw [e]
        exact .opn trivial ho (by simp)
    · obtain ⟨a', w', es, hgo, ⟨rfl, rfl⟩, hg'⟩ := hstep w (.refl w)
      exact .inr (idleC o ha hcom hwg hmode hgo (.a1 hr hg') (by omega))
  | sr hr h =>
    rcases Goes.cases h with hstop | ⟨m', rfl, hstep⟩
    · obtain ⟨_, a', hgo, m₂, hk⟩ := hstop w (.refl w)
      exact .inr (bookC o ha hcom hgo (.refl p.Wg w) hwg (okT_mk (.inr (.inr (.inr ⟨_, rfl, .inl rfl⟩)))) (nr_mk (by simp)) (.ke2 hr hk) (hmode.reopen trivial trivial rfl (by simp)) (.inl (by simp only [phi]; omega)))
    · obtain ⟨a', w', es, hgo, ⟨rfl, rfl⟩, hg'⟩ := hstep w (.refl w)
      exact .inr (idleC o ha hcom hwg hmode hgo (.sr hr hg') (by omega))
  | ke2 hr h =>
    rcases Goes.cases h with hstop | ⟨m', rfl, hstep⟩
    · obtain ⟨_, a', hgo, m₂, hk⟩ := hstop w (.refl w)
      exact .inr (bookC o ha hcom hgo (.refl p.Wg w) hwg (okT_mk (.inr (.inl rfl))) (nr_mk (by simp)) (.go hr hk) (hmode.reopen trivial trivial rfl (by simp)) (.inl (by simp only [phi]; omega)))
    · obtain ⟨a', w', es, hgo, ⟨rfl, rfl⟩, hg'⟩ := hstep w (.refl w)
      exact .inr (idleC o ha hcom hwg hmode hgo (.ke2 hr hg') (by omega))
  | go hr h =>
    rename_i r b
    rcases Goes.cases h with hstop | ⟨m', rfl, hstep⟩
    · obtain ⟨_, a', child, hsp, ⟨C, v, e, m₂, hC, he2, he0, hwk⟩, hnext⟩ := hstop w (.refl w)
      obtain ⟨ho, rfl, rfl, _⟩ := hmode.open_inv trivial
      have hrun' := runT_crowd_spawn (P := p.P) (sl := sl) (i := 0) ha (by simpa using hsp)
      rw [hcom.size] at hrun'
      have hcom' := hcom.spawn o (a' := a') (x := { g := 0, fn := a.frame.fn, pos := a.frame.place, act := .go (p.m0 + (p.n - (r + 1))) }) (y := { g := p.m0 + (p.n - (r + 1)), fn := child.frame.fn, pos := a.frame.place, act := .start }) ⟨rfl, rfl⟩ ⟨rfl, rfl⟩ hC he0 hwk
      have eops : ((MemOp.ofEvents 0 a.frame.fn a.frame.place #[]).push { g := 0, fn := a.frame.fn, pos := a.frame.place, act := .go (p.m0 + (p.n - (r + 1))) }).push { g := p.m0 + (p.n - (r + 1)), fn := child.frame.fn, pos := a.frame.place, act := .start } = #[({ g := 0, fn := a.frame.fn, pos := a.frame.place, act := .go (p.m0 + (p.n - (r + 1))) } : MemOp), { g := p.m0 + (p.n - (r + 1)), fn := child.frame.fn, pos := a.frame.place, act := .start }] := by
        rw [ofEvents_eq]; simp
      rw [eops] at hrun'
      generalize hX : upd X (p.n - (r + 1)) ⟨⟨7, m₂, 0⟩, e, C, v, One b⟩ = X' at hcom'
      have hds : ds X' = upd (ds X) (p.n - (r + 1)) ⟨7, m₂, 0⟩ := by rw [← hX, ds_upd]
      have ej : p.n - (r + 1) + 1 = p.n - r := by omega
      have eV : Vc (p.n - r) (ds X') = Vc (p.n - (r + 1)) (ds X) + 1 := by
        rw [← ej, hds]
        simp only [Vc, sumTo, upd_same]
        rw [sumTo_upd_out (ds X) _ cnt (Nat.le_refl _)]; rfl
      have eS : Ssum (p.n - r) (ds X') = Ssum (p.n - (r + 1)) (ds X) + 7 := by
        rw [← ej, hds]
        simp only [Ssum, sumTo, upd_same]
        rw [sumTo_upd_out (ds X) _ WD.stage (Nat.le_refl _)]
      have eE : sumTo (p.n - r) (fun i => (X' i).e) = sumTo (p.n - (r + 1)) (fun i => (X i).e) + e := by
        rw [← ej, ← hX]
        simp only [sumTo, upd_same]
        rw [sumTo_upd_out X _ WX.e (Nat.le_refl _)]
      have ho' : OpenSt (p.n - r) (ds X') := fun i hi => by
        rw [hds]
        by_cases e : i = p.n - (r + 1)
        · subst e; rw [upd_same]; simp
        · rw [upd_ne (ds X) _ e]; exact ho i (by omega)
      have ha' : ((gs.setIfInBounds 0 a').push child)[0]? = some a' := by
        rw [Array.getElem?_push_lt (by simp [hcom.size]; omega), ← Array.getElem?_eq_getElem]
        rw [Array.getElem?_setIfInBounds_self_of_lt (by rw [hcom.size]; omega)]
      rw [ej] at hcom'
      have est : ∀ tag', pend tag' = 0 → ((Vc (p.n - (r + 1)) (ds X) + pend (.sp r 1) : Nat) : Int) * KK = ((Vc (p.n - r) (ds X') + pend tag' : Nat) : Int) * KK := fun tag' hp => by rw [eV, hp]; simp [pend]
      have fin : ∀ (tag' : CTag) (m₃ : Nat), CS p Anch Fin tag' 0 (p.n - r) m₃ 0 Mt a' w → isOpen tag' → pend tag' = 0 → (∀ vs, tag' ≠ .w2 vs) → phi p.n (Vc (p.n - r) (ds X')) tag' + 9 < phi p.n (Vc (p.n - (r + 1)) (ds X)) (.sp r 1) →
          ∃ m₁ ops μ', runT p.P (crowd gs w sl) 0 = (.next m₁, ops) ∧
            Lt2 μ' (phi p.n (Vc (p.n - (r + 1)) (ds X)) (.sp r 1) + 0 + Ssum (p.n - (r + 1)) (ds X) + sumTo (p.n - (r + 1)) (fun i => (X i).e), f0 + 2 * Fsum (p.n - (r + 1)) (ds X) + 2 * sumTo p.m0 q) ∧ Inv p Anch Fin μ' m₁ (t ++ ops) := fun tag' m₃ hc h1 h2 h3 h4 => by
        refine ⟨_, _, (phi p.n (Vc (p.n - r) (ds X')) tag' + 0 + Ssum (p.n - r) (ds X') + sumTo (p.n - r) (fun i => (X' i).e), m₃ + 2 * Fsum (p.n - r) (ds X') + 2 * sumTo p.m0 q), hrun', Prod.Lex.left _ _ (by omega),
          _, w, sl, p.n - r, X', _, q, tag', 0, m₃, 0, Mt, a', _, _, rfl, ha', hc, hcom', hwg, ?_, rfl⟩
        rw [est tag' h2]
        exact .opn h1 ho' (fun vs e => absurd e (h3 vs))
      cases r with
      | zero =>
        obtain ⟨m₃, hk⟩ := hnext
        exact .inr (fin .kd m₃ (.kd hk) trivial rfl (by simp) (by simp only [phi]; omega))
      | succ r' =>
        obtain ⟨m₃, hk⟩ := hnext
        exact .inr (fin (.sp r' 7) m₃ (.al (by omega) hk) trivial rfl (by simp) (by simp only [phi]; omega))
    · obtain ⟨a', w', es, hgo, ⟨rfl, rfl⟩, hg'⟩ := hstep w (.refl w)
      exact .inr (idleC o ha hcom hwg hmode hgo (.go hr hg') (by omega))
  | kd h =>
    rcases Goes.cases h with hstop | ⟨m', rfl, hstep⟩
    · obtain ⟨_, a', hgo, m₂, hk⟩ := hstop w (.refl w)
      exact .inr (bookC o ha hcom hgo (.refl p.Wg w) hwg (okT_mk (.inl rfl)) (nr_mk (by simp)) (.anch hk) (hmode.reopen trivial trivial rfl (by simp)) (.inl (by simp only [phi]; omega)))
    · obtain ⟨a', w', es, hgo, ⟨rfl, rfl⟩, hg'⟩ := hstep w (.refl w)
      exact .inr (idleC o ha hcom hwg hmode hgo (.kd hg') (by omega))
  | anch h =>
    rcases Goes.cases h with hstop | ⟨m', rfl, hstep⟩
    · obtain ⟨m₂, hk⟩ := hAn a w (hstop w (.refl w))
      obtain ⟨m₁, ops, μ', h1, h2, h3⟩ := w1Step (sl := sl) o ha hcom hwg (hmode.reopen trivial trivial rfl (by simp)) hk
      exact .inr ⟨m₁, ops, μ', h1, lt2_trans h2 (Prod.Lex.left _ _ (by simp only [phi]; omega)), h3⟩
    · obtain ⟨a', w', es, hgo, ⟨rfl, rfl⟩, hg'⟩ := hstep w (.refl w)
      exact .inr (idleC o ha hcom hwg hmode hgo (.anch hg') (by omega))
  | w1 h => exact .inr (w1Step o ha hcom hwg hmode h)
  | w2 h =>
    rename_i vs
    rcases Goes.cases h with hstop | ⟨m', rfl, hstep⟩
    · obtain ⟨_, hall⟩ := hstop w (.refl w)
      obtain ⟨ho, rfl, rfl, hw2⟩ := hmode.open_inv trivial
      obtain ⟨hle, h1⟩ := hw2 vs rfl
      obtain ⟨hhit, hmiss⟩ := hall (Vc p.n (ds X)) (by omega) (by simpa [pend] using hwg)
      by_cases e : Vc p.n (ds X) = vs
      · obtain ⟨a', hgo, m₂, hk⟩ := hhit e
        exact .inr (bookC o ha hcom hgo (aside_setCell w (stA p.Wg) _) (hwg.setSt _) (okT_book bk_rw) (norel_of_Bk bk_rw) (.sw hk) (.reg trivial ho (by omega)) (.inl (by simp only [phi]; omega)))
      · obtain ⟨a', hgo, m₂, hk⟩ := hmiss e
        exact .inr (bookC o ha hcom hgo (.refl p.Wg w) hwg (okT_book bk_rd) (norel_of_Bk bk_rd) (.anch hk) (hmode.reopen trivial trivial rfl (by simp)) (.inl (by simp only [phi]; omega)))
    · obtain ⟨a', w', es, hgo, ⟨rfl, rfl⟩, hg'⟩ := hstep w (.refl w)
      exact .inr (idleC o ha hcom hwg hmode hgo (.w2 hg') (by omega))
  | sw h =>
    rcases Goes.cases h with hstop | ⟨m', rfl, hstep⟩
    · obtain ⟨_, a', hgo, m₂, hk⟩ := hstop w (.refl w)
      exact .inr (bookC o ha hcom hgo (.refl p.Wg w) hwg (okT_mk (.inr (.inr (.inr ⟨_, rfl, .inr rfl⟩)))) (nr_mk (by simp)) (.w3 hk) hmode (.inl (by simp only [phi]; omega)))
    · obtain ⟨a', w', es, hgo, ⟨rfl, rfl⟩, hg'⟩ := hstep w (.refl w)
      exact .inr (idleC o ha hcom hwg hmode hgo (.sw hg') (by omega))
  | w3 h =>
    rcases Goes.cases h with hstop | ⟨m', rfl, hstep⟩
    · obtain ⟨_, hoff, hblk, htake⟩ := hstop w (.refl w)
      cases hmode with
      | opn h1 _ _ => exact h1.elim
      | reg h1 h2 h3 => exact .inr (bookC o ha hcom (hblk ⟨_, hwg⟩) (.refl p.Wg w) hwg (okT_none (by simp)) (by simp) (.blk hstop) (.reg trivial h2 h3) (.inr ⟨rfl, by omega⟩))
      | last L h1 h2 h3 h4 => exact .inr (bookC o ha hcom (hblk ⟨_, hwg⟩) (.refl p.Wg w) hwg (okT_none (by simp)) (by simp) (.blk hstop) (.last L trivial h2 h3 h4) (.inr ⟨rfl, by omega⟩))
      | sema h2 =>
        obtain ⟨a', hgo, m₂, hk⟩ := htake hwg
        exact .inr (bookC o ha hcom hgo (aside_setCell w (smA p.Wg) _) (hwg.setSm 0) (okT_book bk_sem) (norel_of_Bk bk_sem) (.w4 hk) (.fin trivial h2) (.inl (by simp only [phi]; omega)))
      | fin h1 _ => exact h1.elim
    · obtain ⟨a', w', es, hgo, ⟨rfl, rfl⟩, hg'⟩ := hstep w (.refl w)
      exact .inr (idleC o ha hcom hwg hmode hgo (.w3 hg') (by omega))
  | blk h => simp at hrun
  | w4 h =>
    rcases Goes.cases h with hstop | ⟨m', rfl, hstep⟩
    · obtain ⟨_, hx⟩ := hstop w (.refl w)
      obtain ⟨hq, rfl, rfl⟩ := hmode.fin_inv trivial
      obtain ⟨a', hgo, m₂, hk⟩ := hx hwg
      exact .inr (bookC o ha hcom hgo (.refl p.Wg w) hwg (okT_book bk_rd) (norel_of_Bk bk_rd) (.ke hk) (.fin trivial hq) (.inl (by simp only [phi]; omega)))
    · obtain ⟨a', w', es, hgo, ⟨rfl, rfl⟩, hg'⟩ := hstep w (.refl w)
      exact .inr (idleC o ha hcom hwg hmode hgo (.w4 hg') (by omega))
  | ke h =>
    rcases Goes.cases h with hstop | ⟨m', rfl, hstep⟩
    · obtain ⟨_, a', hgo, m₂, hk⟩ := hstop w (.refl w)
      obtain ⟨hq, rfl, rfl⟩ := hmode.fin_inv trivial
      exact .inr (bookC o ha hcom hgo (.refl p.Wg w) hwg (okT_mk (.inr (.inl rfl))) (nr_mk (by simp)) (.acq hk) (.fin trivial hq) (.inl (by simp only [phi]; omega)))
    · obtain ⟨a', w', es, hgo, ⟨rfl, rfl⟩, hg'⟩ := hstep w (.refl w)
      exact .inr (idleC o ha hcom hwg hmode hgo (.ke hg') (by omega))
  | acq h =>
    rcases Goes.cases h with hstop | ⟨m', rfl, hstep⟩
    · obtain ⟨_, a', hgo, hfin⟩ := hstop w (.refl w)
      obtain ⟨hq, rfl, rfl⟩ := hmode.fin_inv trivial
      have hrunT := runT_crowd_go (P := p.P) (sl := sl) (i := 0) ha (by simpa using hgo)
      have e1 : MemOp.ofEvents 0 a.frame.fn a.frame.place #[mk (.acquire (stA p.Wg))] = #[{ g := 0, fn := a.frame.fn, pos := a.frame.place, act := .mark (.acquire (stA p.Wg)) }] := by rw [ofEvents_eq]; simp [ofEvent_mk]
      have hL := hcom.leavers hq
      obtain ⟨B', _, hfr⟩ := hcom.ti.close o hf hcom.norel hcom.deaf0 (fun g h1 h2 => by
        obtain ⟨k, rfl⟩ : ∃ k, g = p.m0 + k := ⟨g - p.m0, by omega⟩
        exact hcom.rel k (by omega) (by have : (X k).d.stage = 1 := hq k (by omega); omega)) (y := { g := 0, fn := a.frame.fn, pos := a.frame.place, act := .mark (.acquire (stA p.Wg)) }) rfl rfl
      refine .inl ⟨_, _, hrunT, _, a', w, sl, (fun k => if k < p.m0 then q k else (X (k - p.m0)).d.fuel), B', rfl, by simp [hcom.size], setGetS _ _ (by rw [hcom.size]; omega), hfin, ?_, ⟨fun k x hk hx => ?_, fun k hk => ?_⟩, by rw [e1]; exact hfr⟩
      · have et : total p p.n X = sumTo p.n p.bit := sumTo_congr fun k hk => by
          obtain ⟨g, _, hs⟩ := hcom.wk k hk
          have h1 : (X k).d.stage = 1 := hq k hk
          rw [h1] at hs
          generalize hee : (X k).e = ee at hs ⊢
          cases hs with
          | post _ _ => simp
        rw [← et]; exact hcom.sum
      · rw [setGet _ _ (by omega)] at hx
        obtain ⟨y, hy, rfl⟩ := Option.map_eq_some_iff.1 hx
        have hqy := hL.old k y hk hy
        rw [woken_quitsD hqy, Deaf_other t (by omega) _ g_of_ofEvents]
        exact hqy
      · rw [Deaf_other t (by simp [hcom.size] at hk; omega) _ g_of_ofEvents]
        exact hL.above k (by simpa using hk)
    · obtain ⟨a', w', es, hgo, ⟨rfl, rfl⟩, hg'⟩ := hstep w (.refl w)
      exact .inr (idleC o ha hcom hwg hmode hgo (.acq hg') (by omega))
end
end Go.Proofs.YtnojjmkmkelbgaaGreat

/- Workers who read, add to one sum and leave, 5: the phase, on every tape. -/
namespace Go.Proofs.YtnojjmkmkelbgaaGreat
open Go.Conc Go.ConcN
open Go.ConcR (KK wgBlock WgAt stA smA rd wr mk Payload DC0)

section
variable {p : Ph} {Anch Fin : Goroutine → World → Prop} {gs : Array Goroutine} {w : World} {j : Nat} {X : Nat → WX} {ow q : Nat → Nat} {tag : CTag} {e0 f0 d0 B : Nat} {M0 : Nat → Prop} {a : Goroutine} {t : Trace} {st sm : Int}

theorem someone_runs (hAr : ∀ g w, Anch g w → g.status = .running) (ha : gs[0]? = some a) (hcs : CS p Anch Fin tag e0 j f0 d0 M0 a w) (hcom : Com p j gs w t X ow q d0 M0) (hmode : ConcN.Mode j (ds X) tag st sm) :
    ∃ (i : Nat) (g : Goroutine), gs[i]? = some g ∧ g.status = .running := by
  rcases hcs.status hAr with ⟨hs, _⟩ | ⟨_, rfl⟩
  · exact ⟨0, a, ha, hs⟩
  · cases hmode with
    | opn h1 _ _ => exact h1.elim
    | reg _ _ h3 =>
      obtain ⟨i, hi, h5⟩ := exists_counted h3
      obtain ⟨g, hg, hs⟩ := hcom.wk i hi
      exact ⟨p.m0 + i, g, hg, hs.running_of (by simp only [ds] at h5; omega)⟩
    | last L _ h2 h3 _ =>
      obtain ⟨g, hg, hs⟩ := hcom.wk L h2
      exact ⟨p.m0 + L, g, hg, hs.running_of (by simp only [ds] at h3; omega)⟩
    | fin h1 _ => exact h1.elim

theorem all_awake (hAr : ∀ g w, Anch g w → g.status = .running) (ha : gs[0]? = some a) (hcs : CS p Anch Fin tag e0 j f0 d0 M0 a w) (hcom : Com p j gs w t X ow q d0 M0) : ∀ g ∈ gs, awake g := by
  intro g hg tm
  obtain ⟨i, hi⟩ := Array.mem_iff_getElem?.1 hg
  rcases Nat.eq_zero_or_pos i with rfl | hpos
  · rw [ha] at hi; cases hi
    rcases hcs.status hAr with ⟨hs, _⟩ | ⟨hs, _⟩ <;> rw [hs] <;> simp
  · have hlt := (Array.getElem?_eq_some_iff.1 hi).1
    rw [hcom.size] at hlt
    rcases Nat.lt_or_ge i p.m0 with h | h
    · obtain ⟨g', hg', hq⟩ := hcom.old i hpos h
      rw [hi] at hg'; cases hg'
      rcases hq.status with h | h <;> rw [h] <;> simp
    · obtain ⟨k, rfl⟩ : ∃ k, i = p.m0 + k := ⟨i - p.m0, by omega⟩
      obtain ⟨g', hg', hs⟩ := hcom.wk k (by omega)
      rw [hi] at hg'; cases hg'
      rcases hs.status with h | h <;> rw [h] <;> simp
end

section
variable {p : Ph} {Anch Fin : Goroutine → World → Prop} {B : Nat}

theorem phase_step (o : p.Ok) (hAr : ∀ g w, Anch g w → g.status = .running) (hAn : ∀ g w, Anch g w → ∃ m, Goes p.P true (R0 p Mt) DC0 (AtW1 p Anch Fin) m g w) (hf : Fr p.Shun B p.t0) :
    ∀ μ m t, Inv p Anch Fin μ m t → (∃ m₁ ops, stepT p.P m = (.next m₁, ops) ∧ Done p Fin m₁ (t ++ ops)) ∨ ∃ m₁ ops μ', stepT p.P m = (.next m₁, ops) ∧ Lt2 μ' μ ∧ Inv p Anch Fin μ' m₁ (t ++ ops) := by
  rintro μ m t ⟨gs, w, sl, j, X, ow, q, tag, e0, f0, d0, M0, a, st, sm, rfl, ha, hcs, hcom, hwg, hmode, rfl⟩
  obtain ⟨i, g, d, sl', hg, hrun, hstep⟩ := crowd_pick (P := p.P) (w := w) (sl := sl) (all_awake hAr ha hcs hcom) (someone_runs hAr ha hcs hcom hmode)
  rw [hstep]
  have hcs' := hcs.rely (w' := w.at d) ⟨rfl, rfl, rfl, id, fun _ _ _ _ => rfl, fun _ _ => rfl, Nat.le_refl _, id, id⟩
  have hcom' := hcom.at d
  have hwg' : WgAt p.ty p.Wg (w.at d) st sm := hwg
  have hm1 := o.m0
  rcases Nat.eq_zero_or_pos i with rfl | hpos
  · rw [ha] at hg; cases hg
    exact stepCaller (sl := sl') o hAn hf ha hcs' hcom' hwg' hmode hrun
  · rcases Nat.lt_or_ge i p.m0 with h | h
    · exact .inr (oldStep o hAr ha hcs' hcom' hwg' hmode hpos h hg hrun)
    · have hlt := (Array.getElem?_eq_some_iff.1 hg).1
      rw [hcom.size] at hlt
      obtain ⟨k, rfl⟩ : ∃ k, i = p.m0 + k := ⟨i - p.m0, by omega⟩
      exact .inr (stepWorker o hAr ha hcs' hcom' hwg' hmode (by omega) hg hrun)

theorem phase_runs (o : p.Ok) (hAr : ∀ g w, Anch g w → g.status = .running) (hAn : ∀ g w, Anch g w → ∃ m, Goes p.P true (R0 p Mt) DC0 (AtW1 p Anch Fin) m g w) (hf : Fr p.Shun B p.t0) (μ : Nat × Nat) :
    ∀ m t, Inv p Anch Fin μ m t → ∃ N m' t', runNT p.P N m t = (.next m', t') ∧ Done p Fin m' t' := by
  induction μ using (Prod.lex Nat.lt_wfRel Nat.lt_wfRel).wf.induction with
  | _ μ ih =>
    intro m t h
    rcases phase_step o hAr hAn hf μ m t h with ⟨m₁, ops, hs, hd⟩ | ⟨m₁, ops, μ', hs, hlt, hi⟩
    · exact ⟨1, m₁, t ++ ops, by simp only [runNT, hs], hd⟩
    · obtain ⟨N, m', t', hr, hd⟩ := ih μ' hlt m₁ (t ++ ops) hi
      exact ⟨N + 1, m', t', by simp only [runNT, hs]; exact hr, hd⟩

/-- From a frame to a frame: on whatever tape. -/
theorem phase (o : p.Ok) (hAr : ∀ g w, Anch g w → g.status = .running) (hAn : ∀ g w, Anch g w → ∃ m, Goes p.P true (R0 p Mt) DC0 (AtW1 p Anch Fin) m g w) (hf : Fr p.Shun B p.t0)
    {gs : Array Goroutine} {a : Goroutine} {w : World} {sl : Option (Nat × Nat)} {q : Nat → Nat} (hsz : gs.size = p.m0) (ha : gs[0]? = some a) (hL : Leavers p.P p.t0 gs q)
    (hlow : p.Low ≤ w.heap.size) (hwg : WgAt p.ty p.Wg w 0 0) (hsum : SumAt p w 0) (h : Sp p Anch p.n a w) :
    ∃ N m' t', runNT p.P N (crowd gs w sl) p.t0 = (.next m', t') ∧ Done p Fin m' t' := by
  let X : Nat → WX := fun _ => ⟨⟨0, 0, 0⟩, 0, 0, undef, fun _ => False⟩
  have hcom : Com p 0 gs w p.t0 X (fun _ => 0) q 0 Mt :=
    ⟨by simp [hsz], fun i h1 h2 => by
      have hlt : i < gs.size := by omega
      exact ⟨gs[i], Array.getElem?_eq_getElem hlt, hL.old i _ h1 (Array.getElem?_eq_getElem hlt)⟩, fun i hi => by omega, fun i hi => by omega, fun i hi => by omega, fun b hb => hb.elim, hlow, TI.start hf (by omega), (fun i hi => by simp [Trace.act?, Array.getElem?_eq_none hi]), hf.past.hears, fun i hi => by omega, fun k hk => hL.above k (by omega), fun i hi => by omega, hsum⟩
  have hmode : ∀ tag, isOpen tag → pend tag = 0 → (∀ vs, tag ≠ .w2 vs) → ConcN.Mode 0 (ds X) tag 0 0 := fun tag h1 h2 h3 => by
    have := ConcN.Mode.opn (j := 0) (D := ds X) h1 (fun i hi => by omega) (fun vs e => absurd e (h3 vs))
    simpa [Vc, sumTo, h2] using this
  have hInv : ∃ μ, Inv p Anch Fin μ (crowd gs w sl) p.t0 := by
    cases hn : p.n with
    | zero =>
      rw [hn] at h
      obtain ⟨m, hk⟩ := h
      have hc : CS p Anch Fin .kd 0 p.n m 0 Mt a w := .kd hk
      rw [hn] at hc
      exact ⟨_, gs, w, sl, 0, X, _, q, .kd, 0, m, 0, Mt, a, 0, 0, rfl, ha, hc, hcom, hwg, hmode .kd trivial rfl (by simp), rfl⟩
    | succ r =>
      rw [hn] at h
      obtain ⟨m, hk⟩ := h
      have hc := CS.al (Fin := Fin) (show r < p.n by omega) hk
      rw [show p.n - (r + 1) = 0 by omega] at hc
      exact ⟨_, gs, w, sl, 0, X, _, q, .sp r 7, 0, m, 0, Mt, a, 0, 0, rfl, ha, hc, hcom, hwg, hmode (.sp r 7) trivial rfl (by simp), rfl⟩
  obtain ⟨μ, hI⟩ := hInv
  exact phase_runs o hAr hAn hf μ _ _ hI
end
end Go.Proofs.YtnojjmkmkelbgaaGreat
