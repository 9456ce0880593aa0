/- Workers who read, add to one sum and leave, 1: what each suffers, what each does. -/
import Derived.Test.YtmkpaciaollcbaaJ16
namespace Go.Proofs.Ytmkpaciaollcbaa
open Go.Conc Go.ConcN
open Go.ConcR (KK wgBlock WgAt stA smA rd wr mk Payload DC0 g_of_ofEvents ofEvent_mk)

def SumAt (p : Ph) (w : World) (s : Int) : Prop := w.heap[p.S]? = some (.cells #[.int .u32 s] p.tS)
def SumLive (p : Ph) (w : World) : Prop := ∃ s, SumAt p w s
def sA (p : Ph) : Addr := ⟨p.S, 0, none⟩

/-- No package-level variable waits. -/
def NV (w : World) : Prop := ∀ (b : Nat) (c : Array Value) (t : TypeId), w.heap[b]? = some (Obj.pending c t) → gN ≤ b
theorem NV.one {w w₁ : World} {C : Nat} {c : Array Value} {e : TypeId} {f : Nat × Nat} (h : NV w) (hb : ∀ b, b ≠ C → w₁.heap[b]? = w.heap[b]?) (hC : w₁.heap[C]? = some (.cells c e f)) : NV w₁ := by
  intro b a t hx
  by_cases hbc : b = C
  · subst hbc; rw [hC] at hx; cases hx
  · rw [hb b hbc] at hx; exact h b a t hx

/-- What a worker suffers whose own blocks are M. -/
structure RK (p : Ph) (M : Nat → Prop) (w w₁ : World) : Prop where
  low : ∀ b, b < p.Low → b ≠ p.Wg → b ≠ p.S → w₁.heap[b]? = w.heap[b]?
  own : ∀ b, M b → w₁.heap[b]? = w.heap[b]?
  size : w.heap.size ≤ w₁.heap.size
  live : WgLive p.ty p.Wg w → WgLive p.ty p.Wg w₁
  sum : SumLive p w → SumLive p w₁
/-- What the starter suffers. -/
structure R0 (p : Ph) (M : Nat → Prop) (w w₁ : World) : Prop where
  tape : w₁.tape = w.tape
  os : w₁.os = w.os
  output : w₁.output = w.output
  nv : NV w → NV w₁
  rk : RK p M w w₁

/-- A turn of the world: blocks of Z alone. -/
structure Turn (p : Ph) (Z : Nat → Prop) (w w₁ : World) : Prop where
  tape : w₁.tape = w.tape
  os : w₁.os = w.os
  output : w₁.output = w.output
  nv : NV w → NV w₁
  size : w.heap.size ≤ w₁.heap.size
  block : ∀ b, ¬ Z b → b < w.heap.size → w₁.heap[b]? = w.heap[b]?
  live : WgLive p.ty p.Wg w → WgLive p.ty p.Wg w₁
  sum : SumLive p w → SumLive p w₁

section
variable {p : Ph} {M Z : Nat → Prop} {w w₁ w₂ : World}
theorem RK.refl (w : World) : RK p M w w := ⟨fun _ _ _ _ => rfl, fun _ _ => rfl, Nat.le_refl _, id, id⟩
theorem RK.trans (h : RK p M w w₁) (h' : RK p M w₁ w₂) : RK p M w w₂ :=
  ⟨fun b x y z => (h'.low b x y z).trans (h.low b x y z), fun b x => (h'.own b x).trans (h.own b x), Nat.le_trans h.size h'.size, h'.live ∘ h.live, h'.sum ∘ h.sum⟩
theorem RK.tr : ∀ a b c, RK p M a b → RK p M b c → RK p M a c := fun _ _ _ => RK.trans
theorem R0.refl (w : World) : R0 p M w w := ⟨rfl, rfl, rfl, id, .refl w⟩
theorem R0.trans (h : R0 p M w w₁) (h' : R0 p M w₁ w₂) : R0 p M w w₂ := ⟨h'.tape.trans h.tape, h'.os.trans h.os, h'.output.trans h.output, h'.nv ∘ h.nv, h.rk.trans h'.rk⟩
theorem R0.tr : ∀ a b c, R0 p M a b → R0 p M b c → R0 p M a c := fun _ _ _ => R0.trans
theorem R0.weak {M' : Nat → Prop} (h : R0 p M w w₁) (hM : ∀ b, M' b → M b) : R0 p M' w w₁ := ⟨h.tape, h.os, h.output, h.nv, h.rk.low, fun b x => h.rk.own b (hM b x), h.rk.size, h.rk.live, h.rk.sum⟩

theorem Turn.refl (w : World) : Turn p Z w w := ⟨rfl, rfl, rfl, id, Nat.le_refl _, fun _ _ _ => rfl, id, id⟩
theorem Turn.at (w : World) (d : Nat) : Turn p Z w (w.at d) := ⟨rfl, rfl, rfl, id, Nat.le_refl _, fun _ _ _ => rfl, id, id⟩
theorem Turn.r0 (h : Turn p Z w w₁) (hL : p.Low ≤ w.heap.size) (hZ : ∀ b, Z b → b = p.Wg ∨ b = p.S ∨ p.Low ≤ b) (hM : ∀ b, M b → ¬ Z b ∧ b < w.heap.size) : R0 p M w w₁ :=
  ⟨h.tape, h.os, h.output, h.nv, fun b x y z => h.block b (fun hz => by have := hZ b hz; omega) (by omega), fun b x => h.block b (hM b x).1 (hM b x).2, h.size, h.live, h.sum⟩
theorem Turn.wg (h : Aside p.Wg w w₁) (hl : WgLive p.ty p.Wg w₁) (hne : p.Wg ≠ p.S) : Turn p (· = p.Wg) w w₁ :=
  ⟨h.tape, h.os, h.output, fun k => let ⟨_, _, hx⟩ := hl; k.one h.block hx, Nat.le_of_eq h.size.symm, fun b hb _ => h.block b hb, fun _ => hl, fun ⟨s, hs⟩ => ⟨s, (h.block p.S (Ne.symm hne)).trans hs⟩⟩
theorem Turn.su (h : Aside p.S w w₁) (hl : SumLive p w₁) (hne : p.Wg ≠ p.S) : Turn p (· = p.S) w w₁ :=
  ⟨h.tape, h.os, h.output, fun k => let ⟨_, hx⟩ := hl; k.one h.block hx, Nat.le_of_eq h.size.symm, fun b hb _ => h.block b hb, fun ⟨s, m, hs⟩ => ⟨s, m, hs.of_block (h.block p.Wg hne)⟩, fun _ => hl⟩
end

/-- One block more. -/
structure Grown (w w₁ : World) : Prop where
  tape : w₁.tape = w.tape
  os : w₁.os = w.os
  output : w₁.output = w.output
  nv : NV w → NV w₁
  size : w₁.heap.size = w.heap.size + 1
  block : ∀ b, b < w.heap.size → w₁.heap[b]? = w.heap[b]?

def EvK (p : Ph) (M : Nat → Prop) (e : Event) : Prop :=
  (∀ x, (MemAct.ofEvent e).touch? = some x → (ShN p.Wg x.loc ∧ x.kind ≠ .plain ∧ x.kind ≠ .said) ∨
    (x.kind = .plain ∧ ∃ a, x.loc = .cell a ∧ ¬ p.Sh x.loc ∧ ((a.block < p.Low ∧ x.write = false) ∨ M a.block))) ∧
  e.loc ≠ .mark .disable ∧ e.loc ≠ .mark .enable ∧ e.loc ≠ .mark (.release (stA p.Wg))
structure Owns (M : Nat → Prop) (w w₁ : World) : Prop where
  tape : w₁.tape = w.tape
  os : w₁.os = w.os
  output : w₁.output = w.output
  nv : NV w → NV w₁
  size : w₁.heap.size = w.heap.size
  block : ∀ b, ¬ M b → w₁.heap[b]? = w.heap[b]?
theorem Owns.refl {M : Nat → Prop} (w : World) : Owns M w w := ⟨rfl, rfl, rfl, id, rfl, fun _ _ => rfl⟩
/-- What a goroutine does whose own blocks are M. -/
def DK (p : Ph) (M : Nat → Prop) (w w₁ : World) (es : Array Event) : Prop := Owns M w w₁ ∧ ∀ e ∈ es, EvK p M e

section
variable {p : Ph} {M : Nat → Prop} {w w₁ : World}
theorem Turn.gr (h : Grown w w₁) (o : p.Ok) (hL : p.Low ≤ w.heap.size) : Turn p (fun _ => False) w w₁ :=
  ⟨h.tape, h.os, h.output, h.nv, by rw [h.size]; omega, fun b _ hb => h.block b hb, fun ⟨s, m, hs⟩ => ⟨s, m, hs.of_block (h.block _ (by have := o.wg; omega))⟩, fun ⟨s, hs⟩ => ⟨s, (h.block _ (by have := o.s; omega)).trans hs⟩⟩
theorem Turn.ow (h : Owns M w w₁) (hW : ¬ M p.Wg) (hS : ¬ M p.S) : Turn p M w w₁ :=
  ⟨h.tape, h.os, h.output, h.nv, Nat.le_of_eq h.size.symm, fun b hb _ => h.block b hb, fun ⟨s, m, hs⟩ => ⟨s, m, hs.of_block (h.block _ hW)⟩, fun ⟨s, hs⟩ => ⟨s, (h.block _ hS).trans hs⟩⟩
end

/-! ### a worker -/
abbrev No : Nat → Loc → Prop := fun _ _ => False
def AtAl (p : Ph) (main : Bool) (K : Nat → Goroutine → World → Prop) (g : Goroutine) (w : World) : Prop :=
  g.status = .running ∧ ∃ g' w', stepG p.P main g w = .go g' w' #[] ∧ Grown w w' ∧ K w.heap.size g' w'
def AtSum (p : Ph) (i : Nat) (K : Goroutine → World → Prop) (g : Goroutine) (w : World) : Prop :=
  g.status = .running ∧ ∀ s : Nat, s + p.bit i < 4294967296 → SumAt p w s →
    ∃ g', stepG p.P false g w = .go g' (w.setCell (sA p) (.int .u32 ((s + p.bit i : Nat) : Int))) #[rd (sA p), wr (sA p)] ∧ K g' (w.setCell (sA p) (.int .u32 ((s + p.bit i : Nat) : Int)))
/-- Worker number i, ahead of its release: e says how much is ahead of it: 0 nothing; 1 the sum; 2 a block of its own besides. C is a block of its own that it has. -/
def Wk (p : Ph) (i C : Nat) (v : Value) : Nat → (Nat → Prop) → Nat → Goroutine → World → Prop
  | 0, M, m, g, w => Goes p.P false (RK p M) (DK p M) (AtR0 p.P p.ty p.Wg C 1 0 1 v) m g w
  | 1, M, m, g, w => Goes p.P false (RK p M) (DK p M) (AtSum p i fun g' w' => ∃ m', Wk p i C v 0 M m' g' w') m g w
  | e + 2, M, m, g, w => Goes p.P false (RK p M) (DK p M) (AtAl p false fun b g' w' => ∃ m', (p.bit i ≠ 0 → Wk p i C v (e + 1) (fun x => M x ∨ x = b) m' g' w') ∧ (p.bit i = 0 → Wk p i C v 0 (fun x => M x ∨ x = b) m' g' w')) m g w
/-- .. where it stands. -/
inductive WS (p : Ph) (i C : Nat) (v : Value) (M : Nat → Prop) : Nat → Nat → Nat → Nat → Goroutine → World → Prop
  | pre {e m : Nat} {g : Goroutine} {w : World} : Wk p i C v e M m g w → WS p i C v M e 7 m 0 g w
  | post {s m d : Nat} {g : Goroutine} {w : World} : s ≤ 6 → WSit p.P p.ty p.Wg C 1 No No 0 1 v s m d g w → WS p i C v M 0 s m d g w

section
variable {p : Ph} {i C : Nat} {v : Value} {M : Nat → Prop} {e s m d : Nat} {g : Goroutine} {w w₁ : World}
theorem RK.rw (h : RK p M w w₁) (hC : M C) : RW p.ty p.Wg C 1 0 0 w w₁ :=
  ⟨fun b hb => by omega, h.live, fun ⟨cs, hc, hn⟩ => ⟨cs, (h.own C hC).trans hc, hn⟩, cell_of_block (h.own C hC) 0⟩
theorem Wk.rely (h : Wk p i C v e M m g w) (hr : RK p M w w₁) : Wk p i C v e M m g w₁ := by
  match e, h with
  | 0, h => unfold Wk at h ⊢; exact Goes.rely RK.tr h hr
  | 1, h => unfold Wk at h ⊢; exact Goes.rely RK.tr h hr
  | e + 2, h => unfold Wk at h ⊢; exact Goes.rely RK.tr h hr
theorem Wk.running (h : Wk p i C v e M m g w) : g.status = .running := by
  match e, h with
  | 0, h => unfold Wk at h; exact Goes.running (fun _ _ x => x.1) w (RK.refl w) h
  | 1, h => unfold Wk at h; exact Goes.running (fun _ _ x => x.1) w (RK.refl w) h
  | e + 2, h => unfold Wk at h; exact Goes.running (fun _ _ x => x.1) w (RK.refl w) h
theorem WS.rely (h : WS p i C v M e s m d g w) (hC : M C) (hr : RK p M w w₁) : WS p i C v M e s m d g w₁ := by
  cases h with
  | pre h => exact .pre (h.rely hr)
  | post hs h => exact .post hs (h.rely (by simpa using hr.rw hC))
theorem WS.status (h : WS p i C v M e s m d g w) : g.status = .running ∨ g.status = .finished := by
  cases h with
  | pre h => exact .inl h.running
  | post _ h => exact h.status
theorem WS.woken (h : WS p i C v M e s m d g w) (a a' : Goroutine) (w' : World) : woken p.P a a' w' g = g := by
  unfold Go.Conc.woken
  split
  · exact again_running _ h.status
  · rfl
theorem WS.running_of (h : WS p i C v M e s m d g w) (hs : s ≠ 1) : g.status = .running := by
  cases h with
  | pre h => exact h.running
  | post _ h => exact h.running_of hs
end

/-! ### the starter -/
section
variable (p : Ph) (M : Nat → Prop)
def AtMk (k : Mark) (Next : Goroutine → World → Prop) (g : Goroutine) (w : World) : Prop :=
  g.status = .running ∧ ∃ g', stepG p.P true g w = .go g' w #[mk k] ∧ ∃ m, Goes p.P true (R0 p M) DC0 Next m g' w
def AtOw (Next : Goroutine → World → Prop) (g : Goroutine) (w : World) : Prop :=
  g.status = .running ∧ ∃ g' w' es, stepG p.P true g w = .go g' w' es ∧ DK p M w w' es ∧ ∃ m, Goes p.P true (R0 p M) DC0 Next m g' w'
def AtGo (j : Nat) (Next : Goroutine → World → Prop) (g : Goroutine) (w : World) : Prop :=
  g.status = .running ∧ ∃ g' child, stepG p.P true g w = .spawn g' child w #[] ∧ (∃ C v e m, M C ∧ e ≤ 2 ∧ (e = 0 → p.bit j = 0) ∧ Wk p j C v e M m child w) ∧ Next g' w
def AtA1 (Next : Goroutine → World → Prop) (g : Goroutine) (w : World) : Prop :=
  g.status = .running ∧ ∀ v : Nat, v < 2147483647 → WgAt p.ty p.Wg w (v * KK) 0 →
    ∃ g', stepG p.P true g w = .go g' (w.setCell (stA p.Wg) (.int .u64 ((v + 1) * KK))) #[rd (stA p.Wg), wr (stA p.Wg)] ∧
      ∃ m, Goes p.P true (R0 p M) DC0 (AtMk p M (.read (smA p.Wg)) (AtMk p M .enable Next)) m g' (w.setCell (stA p.Wg) (.int .u64 ((v + 1) * KK))) ∨ Goes p.P true (R0 p M) DC0 (AtMk p M .enable Next) m g' (w.setCell (stA p.Wg) (.int .u64 ((v + 1) * KK)))
end
section
variable (p : Ph)
abbrev Mt : Nat → Prop := fun _ => False
abbrev One (b : Nat) : Nat → Prop := fun x => x = b
def L5 (b r : Nat) (Next : Goroutine → World → Prop) : Goroutine → World → Prop := AtMk p (One b) .disable (AtA1 p (One b) (AtGo p (One b) (p.n - (r + 1)) Next))
def L7 (r : Nat) (Next : Goroutine → World → Prop) : Goroutine → World → Prop :=
  AtAl p true fun b g' w' => ∃ m, Goes p.P true (R0 p (One b)) DC0 (AtOw p (One b) (L5 p b r Next)) m g' w'
/-- r workers are still to be started. -/
def Sp (Into : Goroutine → World → Prop) : Nat → Goroutine → World → Prop
  | 0, g, w => ∃ m, Goes p.P true (R0 p Mt) DC0 (AtMk p Mt .disable Into) m g w
  | r + 1, g, w => ∃ m, Goes p.P true (R0 p Mt) DC0 (L7 p r (Sp Into r)) m g w

variable (Anch Fin : Goroutine → World → Prop)
def AtAcq (g : Goroutine) (w : World) : Prop := g.status = .running ∧ ∃ g', stepG p.P true g w = .go g' w #[mk (.acquire (stA p.Wg))] ∧ Fin g' w
def AtW4 (g : Goroutine) (w : World) : Prop :=
  g.status = .running ∧ (WgAt p.ty p.Wg w 0 0 → ∃ g', stepG p.P true g w = .go g' w #[rd (stA p.Wg)] ∧ ∃ m, Goes p.P true (R0 p Mt) DC0 (AtMk p Mt .enable (AtAcq p Fin)) m g' w)
def AtW3 (g : Goroutine) (w : World) : Prop :=
  g.status = .running ∧ g.offers = none ∧ ((∃ st, WgAt p.ty p.Wg w st 0) → stepG p.P true g w = .go { g with status := .blocked } w #[]) ∧
    (WgAt p.ty p.Wg w 0 1 → ∃ g', stepG p.P true g w = .go g' (w.setCell (smA p.Wg) (.int .u32 0)) (semEvents (smA p.Wg)) ∧ ∃ m, Goes p.P true (R0 p Mt) DC0 (AtW4 p Fin) m g' (w.setCell (smA p.Wg) (.int .u32 0)))
def AtW2 (vs : Nat) (g : Goroutine) (w : World) : Prop :=
  g.status = .running ∧ ∀ v : Nat, v < 2147483648 → WgAt p.ty p.Wg w (v * KK) 0 →
    (v = vs → ∃ g', stepG p.P true g w = .go g' (w.setCell (stA p.Wg) (.int .u64 (v * KK + 1))) #[rd (stA p.Wg), wr (stA p.Wg)] ∧ ∃ m, Goes p.P true (R0 p Mt) DC0 (AtMk p Mt (.write (smA p.Wg)) (AtW3 p Fin)) m g' (w.setCell (stA p.Wg) (.int .u64 (v * KK + 1)))) ∧
    (v ≠ vs → ∃ g', stepG p.P true g w = .go g' w #[rd (stA p.Wg)] ∧ ∃ m, Goes p.P true (R0 p Mt) DC0 Anch m g' w)
def AtW1 (g : Goroutine) (w : World) : Prop :=
  g.status = .running ∧ ∀ v : Nat, v < 2147483648 → WgAt p.ty p.Wg w (v * KK) 0 → ∃ g', stepG p.P true g w = .go g' w #[rd (stA p.Wg)] ∧
    (v = 0 → ∃ m, Goes p.P true (R0 p Mt) DC0 (AtMk p Mt .enable (AtAcq p Fin)) m g' w) ∧ (v ≠ 0 → ∃ m, Goes p.P true (R0 p Mt) DC0 (AtW2 p Anch Fin v) m g' w)

/-- The starter: its tag, what is ahead of it in it, how many are started, fuel, deafness, its own blocks. -/
inductive CS : CTag → Nat → Nat → Nat → Nat → (Nat → Prop) → Goroutine → World → Prop
  | al {r m : Nat} {g : Goroutine} {w : World} : r < p.n → Goes p.P true (R0 p Mt) DC0 (L7 p r (Sp p Anch r)) m g w → CS (.sp r 7) 0 (p.n - (r + 1)) m 0 Mt g w
  | ow {r m b : Nat} {g : Goroutine} {w : World} : r < p.n → Goes p.P true (R0 p (One b)) DC0 (AtOw p (One b) (L5 p b r (Sp p Anch r))) m g w → CS (.sp r 6) 0 (p.n - (r + 1)) m 0 (One b) g w
  | kd5 {r m b : Nat} {g : Goroutine} {w : World} : r < p.n → Goes p.P true (R0 p (One b)) DC0 (L5 p b r (Sp p Anch r)) m g w → CS (.sp r 5) 0 (p.n - (r + 1)) m 0 (One b) g w
  | a1 {r m b : Nat} {g : Goroutine} {w : World} : r < p.n → Goes p.P true (R0 p (One b)) DC0 (AtA1 p (One b) (AtGo p (One b) (p.n - (r + 1)) (Sp p Anch r))) m g w → CS (.sp r 4) 0 (p.n - (r + 1)) m 1 (One b) g w
  | sr {r m b : Nat} {g : Goroutine} {w : World} : r < p.n → Goes p.P true (R0 p (One b)) DC0 (AtMk p (One b) (.read (smA p.Wg)) (AtMk p (One b) .enable (AtGo p (One b) (p.n - (r + 1)) (Sp p Anch r)))) m g w → CS (.sp r 3) 0 (p.n - (r + 1)) m 1 (One b) g w
  | ke2 {r m b : Nat} {g : Goroutine} {w : World} : r < p.n → Goes p.P true (R0 p (One b)) DC0 (AtMk p (One b) .enable (AtGo p (One b) (p.n - (r + 1)) (Sp p Anch r))) m g w → CS (.sp r 2) 0 (p.n - (r + 1)) m 1 (One b) g w
  | go {r m b : Nat} {g : Goroutine} {w : World} : r < p.n → Goes p.P true (R0 p (One b)) DC0 (AtGo p (One b) (p.n - (r + 1)) (Sp p Anch r)) m g w → CS (.sp r 1) 0 (p.n - (r + 1)) m 0 (One b) g w
  | kd {m : Nat} {g : Goroutine} {w : World} : Goes p.P true (R0 p Mt) DC0 (AtMk p Mt .disable Anch) m g w → CS .kd 0 p.n m 0 Mt g w
  | anch {m : Nat} {g : Goroutine} {w : World} : Goes p.P true (R0 p Mt) DC0 Anch m g w → CS .anch 0 p.n m 1 Mt g w
  | w1 {m : Nat} {g : Goroutine} {w : World} : Goes p.P true (R0 p Mt) DC0 (AtW1 p Anch Fin) m g w → CS .w1 0 p.n m 1 Mt g w
  | w2 {vs m : Nat} {g : Goroutine} {w : World} : Goes p.P true (R0 p Mt) DC0 (AtW2 p Anch Fin vs) m g w → CS (.w2 vs) 0 p.n m 1 Mt g w
  | sw {m : Nat} {g : Goroutine} {w : World} : Goes p.P true (R0 p Mt) DC0 (AtMk p Mt (.write (smA p.Wg)) (AtW3 p Fin)) m g w → CS .w3 1 p.n m 1 Mt g w
  | w3 {m : Nat} {g : Goroutine} {w : World} : Goes p.P true (R0 p Mt) DC0 (AtW3 p Fin) m g w → CS .w3 0 p.n (m + 1) 1 Mt g w
  | blk {g : Goroutine} {w : World} : (∀ w₁, R0 p Mt w w₁ → AtW3 p Fin g w₁) → CS .blk 0 p.n 0 1 Mt { g with status := .blocked } w
  | w4 {m : Nat} {g : Goroutine} {w : World} : Goes p.P true (R0 p Mt) DC0 (AtW4 p Fin) m g w → CS .w4 0 p.n m 1 Mt g w
  | ke {m : Nat} {g : Goroutine} {w : World} : Goes p.P true (R0 p Mt) DC0 (AtMk p Mt .enable (AtAcq p Fin)) m g w → CS .ke 0 p.n m 1 Mt g w
  | acq {m : Nat} {g : Goroutine} {w : World} : Goes p.P true (R0 p Mt) DC0 (AtAcq p Fin) m g w → CS .acq 0 p.n m 0 Mt g w
end
end Go.Proofs.Ytmkpaciaollcbaa

/- Workers who read, add to one sum and leave, 2: what holds of the machine at every moment. -/
namespace Go.Proofs.Ytmkpaciaollcbaa
open Go.Conc Go.ConcN
open Go.ConcR (KK wgBlock WgAt stA smA rd wr mk Payload DC0 g_of_ofEvents ofEvent_mk again_blocked)

structure WX where
  d : WD
  e : Nat
  c : Nat
  v : Value
  m : Nat → Prop
def ds (X : Nat → WX) : Nat → WD := fun i => (X i).d
theorem ds_upd (X : Nat → WX) (i : Nat) (x : WX) : ds (upd X i x) = upd (ds X) i x.d := by
  funext a
  by_cases e : a = i
  · subst e; simp [ds, upd_same]
  · simp [ds, upd_ne _ _ e]
/-- What the sum holds. -/
def total (p : Ph) (j : Nat) (X : Nat → WX) : Nat := sumTo j fun i => if (X i).e = 0 then p.bit i else 0

structure Com (p : Ph) (j : Nat) (gs : Array Goroutine) (w : World) (t : Trace) (X : Nat → WX) (ow q : Nat → Nat) (d0 : Nat) (M0 : Nat → Prop) : Prop where
  size : gs.size = p.m0 + j
  old : ∀ i, 1 ≤ i → i < p.m0 → ∃ g, gs[i]? = some g ∧ QuitsD p.P (q i) (Deaf t i) g
  wk : ∀ i, i < j → ∃ g, gs[p.m0 + i]? = some g ∧ WS p i (X i).c (X i).v (X i).m (X i).e (X i).d.stage (X i).d.fuel (X i).d.deaf g w
  mc : ∀ i, i < j → (X i).m (X i).c
  mo : ∀ i, i < j → ∀ b, (X i).m b → ow b = p.m0 + i ∧ p.Low ≤ b ∧ b < w.heap.size
  m0 : ∀ b, M0 b → ow b = 0 ∧ p.Low ≤ b ∧ b < w.heap.size
  low : p.Low ≤ w.heap.size
  ti : TI p t ow w.heap.size (p.m0 + j)
  norel : NoRel p t
  deaf0 : Deaf t 0 = d0
  deafW : ∀ i, i < j → Deaf t (p.m0 + i) = (X i).d.deaf
  above : ∀ k, p.m0 + j ≤ k → Deaf t k = 0
  rel : ∀ i, i < j → (X i).d.stage ≤ 6 → ∃ r, RelBy (stA p.Wg) t (p.m0 + i) r ∧ p.t0.size ≤ r
  sum : SumAt p w (total p j X)

def Inv (p : Ph) (Anch Fin : Goroutine → World → Prop) (μ : Nat × Nat) (m : Machine) (t : Trace) : Prop :=
  ∃ (gs : Array Goroutine) (w : World) (sl : Option (Nat × Nat)) (j : Nat) (X : Nat → WX) (ow q : Nat → Nat) (tag : CTag) (e0 f0 d0 : Nat) (M0 : Nat → Prop) (a : Goroutine) (st sm : Int),
    m = crowd gs w sl ∧ gs[0]? = some a ∧ CS p Anch Fin tag e0 j f0 d0 M0 a w ∧ Com p j gs w t X ow q d0 M0 ∧ WgAt p.ty p.Wg w st sm ∧ ConcN.Mode j (ds X) tag st sm ∧
    μ = (phi p.n (Vc j (ds X)) tag + e0 + Ssum j (ds X) + sumTo j (fun i => (X i).e), f0 + 2 * Fsum j (ds X) + 2 * sumTo p.m0 q)

section
variable {p : Ph} {Anch Fin : Goroutine → World → Prop} {tag : CTag} {e0 j f d : Nat} {M0 : Nat → Prop} {a : Goroutine} {w w' : World}

theorem CS.rely (h : CS p Anch Fin tag e0 j f d M0 a w) (hr : R0 p M0 w w') : CS p Anch Fin tag e0 j f d M0 a w' := by
  cases h with
  | al hn h => exact .al hn (Goes.rely R0.tr h hr)
  | ow hn h => exact .ow hn (Goes.rely R0.tr h hr)
  | kd5 hn h => exact .kd5 hn (Goes.rely R0.tr h hr)
  | a1 hn h => exact .a1 hn (Goes.rely R0.tr h hr)
  | sr hn h => exact .sr hn (Goes.rely R0.tr h hr)
  | ke2 hn h => exact .ke2 hn (Goes.rely R0.tr h hr)
  | go hn h => exact .go hn (Goes.rely R0.tr h hr)
  | kd h => exact .kd (Goes.rely R0.tr h hr)
  | anch h => exact .anch (Goes.rely R0.tr h hr)
  | w1 h => exact .w1 (Goes.rely R0.tr h hr)
  | w2 h => exact .w2 (Goes.rely R0.tr h hr)
  | sw h => exact .sw (Goes.rely R0.tr h hr)
  | w3 h => exact .w3 (Goes.rely R0.tr h hr)
  | blk h => exact .blk (fun w₂ h₂ => h w₂ (hr.trans h₂))
  | w4 h => exact .w4 (Goes.rely R0.tr h hr)
  | ke h => exact .ke (Goes.rely R0.tr h hr)
  | acq h => exact .acq (Goes.rely R0.tr h hr)

theorem CS.status (hAr : ∀ g w, Anch g w → g.status = .running) (h : CS p Anch Fin tag e0 j f d M0 a w) : (a.status = .running ∧ tag ≠ .blk) ∨ (a.status = .blocked ∧ tag = .blk) := by
  cases h with
  | al _ h => exact .inl ⟨Goes.running (fun _ _ x => x.1) w (.refl w) h, by simp⟩
  | ow _ h => exact .inl ⟨Goes.running (fun _ _ x => x.1) w (.refl w) h, by simp⟩
  | kd5 _ h => exact .inl ⟨Goes.running (fun _ _ x => x.1) w (.refl w) h, by simp⟩
  | a1 _ h => exact .inl ⟨Goes.running (fun _ _ x => x.1) w (.refl w) h, by simp⟩
  | sr _ h => exact .inl ⟨Goes.running (fun _ _ x => x.1) w (.refl w) h, by simp⟩
  | ke2 _ h => exact .inl ⟨Goes.running (fun _ _ x => x.1) w (.refl w) h, by simp⟩
  | go _ h => exact .inl ⟨Goes.running (fun _ _ x => x.1) w (.refl w) h, by simp⟩
  | kd h => exact .inl ⟨Goes.running (fun _ _ x => x.1) w (.refl w) h, by simp⟩
  | anch h => exact .inl ⟨Goes.running hAr w (.refl w) h, by simp⟩
  | w1 h => exact .inl ⟨Goes.running (fun _ _ x => x.1) w (.refl w) h, by simp⟩
  | w2 h => exact .inl ⟨Goes.running (fun _ _ x => x.1) w (.refl w) h, by simp⟩
  | sw h => exact .inl ⟨Goes.running (fun _ _ x => x.1) w (.refl w) h, by simp⟩
  | w3 h => exact .inl ⟨Goes.running (fun _ _ x => x.1) w (.refl w) h, by simp⟩
  | blk h => exact .inr ⟨rfl, rfl⟩
  | w4 h => exact .inl ⟨Goes.running (fun _ _ x => x.1) w (.refl w) h, by simp⟩
  | ke h => exact .inl ⟨Goes.running (fun _ _ x => x.1) w (.refl w) h, by simp⟩
  | acq h => exact .inl ⟨Goes.running (fun _ _ x => x.1) w (.refl w) h, by simp⟩

/-- Under another's step: as it stood, or, blocked, let try again. -/
theorem CS.wokenBy (hAr : ∀ g w, Anch g w → g.status = .running) (h : CS p Anch Fin tag e0 j f d M0 a w) (hr : R0 p M0 w w') (g g' : Goroutine) :
    ∃ tag' f', CS p Anch Fin tag' e0 j f' d M0 (woken p.P g g' w' a) w' ∧ f' ≤ f + 1 ∧ (tag' = tag ∨ (tag = .blk ∧ tag' = .w3)) ∧ (mayWake p.P g = true → g'.status = .running → tag' ≠ .blk) := by
  have h' := h.rely hr
  unfold Go.Conc.woken
  split
  · rcases h'.status hAr with ⟨hs, hne⟩ | ⟨_, rfl⟩
    · exact ⟨tag, f, by rw [again_running _ (.inl hs)]; exact h', by omega, .inl rfl, fun _ _ => hne⟩
    · cases h' with
      | blk hb =>
        rename_i g0
        have h3 := hb w' (.refl w')
        exact ⟨.w3, 0 + 1, by rw [again_blocked h3.1 h3.2.1]; exact .w3 (Goes.stop hb), by omega, .inr ⟨rfl, rfl⟩, fun _ _ => by simp⟩
  · rename_i hc
    exact ⟨tag, f, h', by omega, .inl rfl, fun h1 h2 => absurd (by simp [h1, h2]) hc⟩

theorem CS.bound (h : CS p Anch Fin tag e0 j f d M0 a w) : j + pend tag ≤ p.n := by
  cases h <;> simp only [pend] <;> (try simp) <;> omega
end

section
variable {p : Ph} {Anch Fin : Goroutine → World → Prop} {gs : Array Goroutine} {w w' : World} {sl : Option (Nat × Nat)} {j : Nat} {X : Nat → WX} {ow ow' q : Nat → Nat} {tag : CTag} {e0 f0 d0 : Nat} {M0 : Nat → Prop} {a : Goroutine} {t : Trace}

theorem Com.at (h : Com p j gs w t X ow q d0 M0) (d : Nat) : Com p j gs (w.at d) t X ow q d0 M0 :=
  ⟨h.size, h.old, fun i hi => let ⟨g, hg, hs⟩ := h.wk i hi; ⟨g, hg, hs.rely (h.mc i hi) ⟨fun _ _ _ _ => rfl, fun _ _ => rfl, Nat.le_refl _, id, id⟩⟩, h.mc, h.mo, h.m0, h.low, h.ti, h.norel, h.deaf0, h.deafW, h.above, h.rel, h.sum⟩

theorem setGet (f : Goroutine → Goroutine) {a b : Nat} (x : Goroutine) (hb : a ≠ b) : ((gs.map f).setIfInBounds a x)[b]? = (gs[b]?).map f := by
  rw [Array.getElem?_setIfInBounds_ne hb, Array.getElem?_map]
theorem setGetS (f : Goroutine → Goroutine) {a : Nat} (x : Goroutine) (ha : a < gs.size) : ((gs.map f).setIfInBounds a x)[a]? = some x := by simp [ha]

/-- Whatever step of worker number i. -/
theorem workerStep (hAr : ∀ g w, Anch g w → g.status = .running) (hm1 : 1 ≤ p.m0)
    (ha : gs[0]? = some a) (hcs : CS p Anch Fin tag e0 j f0 d0 M0 a w) (hcom : Com p j gs w t X ow q d0 M0)
    {i : Nat} (hi : i < j) {g g' : Goroutine} {es : Array Event} {x' : WX} {st' sm' : Int} (hg : gs[p.m0 + i]? = some g) (hgo : stepG p.P false g w = .go g' w' es)
    {Z : Nat → Prop} (hT : Turn p Z w w') (hZ : ∀ b, Z b → b = p.Wg ∨ b = p.S ∨ (X i).m b) (hWS : p.Wg < p.Low ∧ p.S < p.Low)
    (how : ∀ b, b < w.heap.size → ow' b = ow b) (hmc : x'.m x'.c) (hm : ∀ b, x'.m b → ow' b = p.m0 + i ∧ p.Low ≤ b ∧ b < w'.heap.size)
    (hti : TI p (t ++ MemOp.ofEvents (p.m0 + i) g.frame.fn g.frame.place es) ow' w'.heap.size (p.m0 + j))
    (hs' : WS p i x'.c x'.v x'.m x'.e x'.d.stage x'.d.fuel x'.d.deaf g' w')
    (hnr : ∀ e ∈ es, e.loc ≠ .mark (.release (stA p.Wg))) (hdeaf : deafBehind (X i).d.deaf es = x'.d.deaf)
    (hrel : x'.d.stage ≤ 6 → ∃ r, RelBy (stA p.Wg) (t ++ MemOp.ofEvents (p.m0 + i) g.frame.fn g.frame.place es) (p.m0 + i) r ∧ p.t0.size ≤ r)
    (hsum : SumAt p w' (total p j (upd X i x'))) (hwg : WgAt p.ty p.Wg w' st' sm')
    (hmode : ∀ tag', (tag' = tag ∨ (tag = .blk ∧ tag' = .w3)) → (mayWake p.P g = true → g'.status = .running → tag' ≠ .blk) → ConcN.Mode j (upd (ds X) i x'.d) tag' st' sm')
    (hlt : (x'.d.stage + x'.e < (X i).d.stage + (X i).e ∧ cnt x'.d ≤ cnt (X i).d) ∨ (x'.d.stage = (X i).d.stage ∧ x'.e = (X i).e ∧ x'.d.fuel + 1 = (X i).d.fuel)) :
    ∃ m₁ ops μ', runT p.P (crowd gs w sl) (p.m0 + i) = (.next m₁, ops) ∧
      Lt2 μ' (phi p.n (Vc j (ds X)) tag + e0 + Ssum j (ds X) + sumTo j (fun i => (X i).e), f0 + 2 * Fsum j (ds X) + 2 * sumTo p.m0 q) ∧ Inv p Anch Fin μ' m₁ (t ++ ops) := by
  have hZ0 : ∀ b, Z b → b = p.Wg ∨ b = p.S ∨ p.Low ≤ b := fun b hb => (hZ b hb).imp id fun h => h.imp id fun h => (hcom.mo i hi b h).2.1
  have hM : ∀ (M : Nat → Prop) (k : Nat), k ≠ p.m0 + i → (∀ b, M b → ow b = k ∧ p.Low ≤ b ∧ b < w.heap.size) → ∀ b, M b → ¬ Z b ∧ b < w.heap.size := fun M k hk h b hb => by
    refine ⟨fun hz => ?_, (h b hb).2.2⟩
    have := (h b hb).2.1
    rcases hZ b hz with e | e | e
    · omega
    · omega
    · have := (hcom.mo i hi b e).1; have := (h b hb).1; omega
  have hr0 : R0 p M0 w w' := hT.r0 hcom.low hZ0 (hM M0 0 (by omega) hcom.m0)
  obtain ⟨tag', f', hcs', hf', htag, hwk⟩ := hcs.wokenBy hAr hr0 g g'
  have hrun := runT_crowd_go (P := p.P) (sl := sl) (i := p.m0 + i) hg (by rw [show (p.m0 + i == 0) = false by simp; omega]; exact hgo)
  have e1 := sumTo_upd (ds X) x'.d cnt hi
  have e2 := sumTo_upd (ds X) x'.d WD.stage hi
  have e3 := sumTo_upd (ds X) x'.d WD.fuel hi
  have e4 := sumTo_upd X x' WX.e hi
  have hsz := hT.size
  refine ⟨_, _, (phi p.n (Vc j (ds (upd X i x'))) tag' + e0 + Ssum j (ds (upd X i x')) + sumTo j (fun k => (upd X i x' k).e), f' + 2 * Fsum j (ds (upd X i x')) + 2 * sumTo p.m0 q), hrun, ?_,
    _, w', sl, j, upd X i x', ow', q, tag', e0, f', d0, M0, woken p.P g g' w' a, st', sm', rfl, by rw [setGet _ _ (by omega), ha]; rfl, hcs', ?_, hwg, by rw [ds_upd]; exact hmode tag' htag hwk, rfl⟩
  · rw [phi_retag p.n _ htag, ds_upd]
    simp only [Vc, Ssum, Fsum] at *
    rcases hlt with ⟨h1, h2⟩ | ⟨h1, h2, h3⟩
    · refine Prod.Lex.left _ _ ?_
      have := phi_mono p.n (v' := sumTo j fun a => cnt (upd (ds X) i x'.d a)) (v := sumTo j fun a => cnt (ds X a)) (by simp only [ds] at *; omega) tag
      simp only [ds] at *
      omega
    · have ec : cnt x'.d = cnt (ds X i) := by unfold cnt; rw [h1]; rfl
      have ev : (sumTo j fun a => cnt (upd (ds X) i x'.d a)) = sumTo j fun a => cnt (ds X a) := by omega
      have es' : (sumTo j fun a => (upd (ds X) i x'.d a).stage) = sumTo j fun a => (ds X a).stage := by simp only [ds] at *; omega
      rw [ev, es']
      have ee : (sumTo j fun k => (upd X i x' k).e) = sumTo j fun k => (X k).e := by omega
      rw [ee]
      refine Prod.Lex.right _ ?_
      simp only [ds] at *
      omega
  · refine ⟨by simp [hcom.size], fun k k1 k2 => ?_, fun k hk => ?_, fun k hk => ?_, fun k hk => ?_, fun b hb => ?_, by have := hcom.low; omega, hti, hcom.norel.app (norel_of hnr), by rw [Deaf_other t (by omega) _ g_of_ofEvents, hcom.deaf0], fun k hk => ?_, fun k hk => ?_, fun k hk hst => ?_, hsum⟩
    · obtain ⟨y, hy, hq⟩ := hcom.old k k1 k2
      exact ⟨y, by rw [setGet _ _ (by omega), hy, Option.map_some, woken_quitsD hq], by rw [Deaf_other t (by omega) _ g_of_ofEvents]; exact hq⟩
    · by_cases e : k = i
      · subst e
        exact ⟨g', setGetS _ _ (by rw [hcom.size]; omega), by rw [upd_same]; exact hs'⟩
      · obtain ⟨y, hy, hsy⟩ := hcom.wk k hk
        refine ⟨y, by rw [setGet _ _ (by omega), hy, Option.map_some, hsy.woken], ?_⟩
        rw [upd_ne X _ e]
        exact hsy.rely (hcom.mc k hk) (hT.r0 hcom.low hZ0 (hM _ (p.m0 + k) (by omega) (hcom.mo k hk))).rk
    · by_cases e : k = i
      · subst e; rw [upd_same]; exact hmc
      · rw [upd_ne X _ e]; exact hcom.mc k hk
    · by_cases e : k = i
      · subst e; rw [upd_same]; exact hm
      · rw [upd_ne X _ e]
        intro b hb
        obtain ⟨h1, h2, h3⟩ := hcom.mo k hk b hb
        exact ⟨(how b h3).trans h1, h2, by omega⟩
    · obtain ⟨h1, h2, h3⟩ := hcom.m0 b hb
      exact ⟨(how b h3).trans h1, h2, by omega⟩
    · by_cases e : k = i
      · subst e; rw [Deaf_own, hcom.deafW k hk, upd_same]; exact hdeaf
      · rw [Deaf_other t (by omega) _ g_of_ofEvents, hcom.deafW k hk, upd_ne X _ e]
    · rw [Deaf_other t (by omega) _ g_of_ofEvents]; exact hcom.above k hk
    · by_cases e : k = i
      · subst e; rw [upd_same] at hst; exact hrel hst
      · rw [upd_ne X _ e] at hst
        obtain ⟨r, hr, hr0⟩ := hcom.rel k hk hst
        exact ⟨r, hr.appOther g_of_ofEvents (by omega), hr0⟩

/-- Whatever step of the starter's that is no go statement. -/
theorem callerStep (hm1 : 1 ≤ p.m0)
    (ha : gs[0]? = some a) (hcom : Com p j gs w t X ow q d0 M0)
    {a' : Goroutine} {es : Array Event} {tag' : CTag} {e' f' : Nat} {M' : Nat → Prop} {st' sm' : Int} (hgo : stepG p.P true a w = .go a' w' es)
    {Z : Nat → Prop} (hT : Turn p Z w w') (hZ : ∀ b, Z b → b = p.Wg ∨ b = p.S ∨ M0 b) (hWS : p.Wg < p.Low ∧ p.S < p.Low)
    (how : ∀ b, b < w.heap.size → ow' b = ow b) (hm : ∀ b, M' b → ow' b = 0 ∧ p.Low ≤ b ∧ b < w'.heap.size)
    (hti : TI p (t ++ MemOp.ofEvents 0 a.frame.fn a.frame.place es) ow' w'.heap.size (p.m0 + j)) (hnr : ∀ e ∈ es, e.loc ≠ .mark (.release (stA p.Wg)))
    (hcs' : CS p Anch Fin tag' e' j f' (deafBehind d0 es) M' a' w') (hsum : SumAt p w' (total p j X)) (hwg : WgAt p.ty p.Wg w' st' sm') (hmode : ConcN.Mode j (ds X) tag' st' sm')
    (hlt : phi p.n (Vc j (ds X)) tag' + e' < phi p.n (Vc j (ds X)) tag + e0 ∨ (phi p.n (Vc j (ds X)) tag' + e' = phi p.n (Vc j (ds X)) tag + e0 ∧ f' < f0)) :
    ∃ m₁ ops μ', runT p.P (crowd gs w sl) 0 = (.next m₁, ops) ∧
      Lt2 μ' (phi p.n (Vc j (ds X)) tag + e0 + Ssum j (ds X) + sumTo j (fun i => (X i).e), f0 + 2 * Fsum j (ds X) + 2 * sumTo p.m0 q) ∧ Inv p Anch Fin μ' m₁ (t ++ ops) := by
  have hrun := runT_crowd_go (P := p.P) (sl := sl) (i := 0) ha (by simpa using hgo)
  have hsz := hT.size
  have hZ0 : ∀ b, Z b → b = p.Wg ∨ b = p.S ∨ p.Low ≤ b := fun b hb => (hZ b hb).imp id fun h => h.imp id fun h => (hcom.m0 b h).2.1
  refine ⟨_, _, (phi p.n (Vc j (ds X)) tag' + e' + Ssum j (ds X) + sumTo j (fun i => (X i).e), f' + 2 * Fsum j (ds X) + 2 * sumTo p.m0 q), hrun, ?_,
    _, w', sl, j, X, ow', q, tag', e', f', deafBehind d0 es, M', a', st', sm', rfl, setGetS _ _ (by rw [hcom.size]; omega), hcs', ?_, hwg, hmode, rfl⟩
  · rcases hlt with h | ⟨h1, h2⟩
    · exact Prod.Lex.left _ _ (by omega)
    · rw [h1]; exact Prod.Lex.right _ (by omega)
  · refine ⟨by simp [hcom.size], fun k k1 k2 => ?_, fun k hk => ?_, hcom.mc, fun k hk b hb => ?_, hm, by have := hcom.low; omega, hti, hcom.norel.app (norel_of hnr), by rw [Deaf_own, hcom.deaf0], fun k hk => by rw [Deaf_other t (by omega) _ g_of_ofEvents, hcom.deafW k hk], fun k hk => by rw [Deaf_other t (by omega) _ g_of_ofEvents]; exact hcom.above k hk, fun k hk hst => ?_, hsum⟩
    · obtain ⟨y, hy, hq⟩ := hcom.old k k1 k2
      exact ⟨y, by rw [setGet _ _ (by omega), hy, Option.map_some, woken_quitsD hq], by rw [Deaf_other t (by omega) _ g_of_ofEvents]; exact hq⟩
    · obtain ⟨y, hy, hsy⟩ := hcom.wk k hk
      refine ⟨y, by rw [setGet _ _ (by omega), hy, Option.map_some, hsy.woken], hsy.rely (hcom.mc k hk) (hT.r0 hcom.low hZ0 fun b hb => ?_).rk⟩
      obtain ⟨h1, h2, h3⟩ := hcom.mo k hk b hb
      refine ⟨fun hz => ?_, h3⟩
      rcases hZ b hz with e | e | e
      · omega
      · omega
      · have := (hcom.m0 b e).1; omega
    · obtain ⟨h1, h2, h3⟩ := hcom.mo k hk b hb
      exact ⟨(how b h3).trans h1, h2, by omega⟩
    · obtain ⟨r, hr, hr0⟩ := hcom.rel k hk hst
      exact ⟨r, hr.appOther g_of_ofEvents (by omega), hr0⟩

/-- A step of one who was there ahead of the phase and only leaves. -/
theorem oldStep (o : p.Ok) (hAr : ∀ g w, Anch g w → g.status = .running)
    (ha : gs[0]? = some a) (hcs : CS p Anch Fin tag e0 j f0 d0 M0 a w) (hcom : Com p j gs w t X ow q d0 M0) {st sm : Int} (hwg : WgAt p.ty p.Wg w st sm) (hmode : ConcN.Mode j (ds X) tag st sm)
    {i : Nat} (h1 : 1 ≤ i) (hi : i < p.m0) {g : Goroutine} (hg : gs[i]? = some g) (hrun : g.status = .running) :
    ∃ m₁ ops μ', runT p.P (crowd gs w sl) i = (.next m₁, ops) ∧
      Lt2 μ' (phi p.n (Vc j (ds X)) tag + e0 + Ssum j (ds X) + sumTo j (fun i => (X i).e), f0 + 2 * Fsum j (ds X) + 2 * sumTo p.m0 q) ∧ Inv p Anch Fin μ' m₁ (t ++ ops) := by
  obtain ⟨g₁, hg₁, hq⟩ := hcom.old i h1 hi
  obtain rfl : g = g₁ := by rw [hg] at hg₁; exact Option.some.inj hg₁
  cases hqi : q i with
  | zero => rw [hqi] at hq; rw [hq.1] at hrun; cases hrun
  | succ k =>
    rw [hqi] at hq
    rcases hq with ⟨hf, _⟩ | ⟨_, g', es, hmute, hstep, hq'⟩
    · rw [hf] at hrun; cases hrun
    have hnt : ∀ op ∈ MemOp.ofEvents i g.frame.fn g.frame.place es, op.act.touch? = none := fun op hop => by
      obtain ⟨e, he, rfl⟩ := Go.Conc.mem_ofEvents hop
      exact touch_mute (hmute e he)
    have hnr : ∀ e ∈ es, e.loc ≠ .mark (.release (stA p.Wg)) := fun e he hl => by
      have := hmute e he
      obtain ⟨l, wr, sy⟩ := e
      simp only at hl
      subst hl
      simp [Event.mute] at this
    obtain ⟨tag', f', hcs', hf', htag, _⟩ := hcs.wokenBy hAr (.refl w) g g'
    have hrT := runT_crowd_go (P := p.P) (sl := sl) (i := i) hg (by rw [show (i == 0) = false by simp; omega]; exact hstep w)
    have e1 : sumTo p.m0 (upd q i k) + (k + 1) = sumTo p.m0 q + k := by
      have := sumTo_upd q k id hi
      simpa [hqi] using this
    refine ⟨_, _, (phi p.n (Vc j (ds X)) tag' + e0 + Ssum j (ds X) + sumTo j (fun i => (X i).e), f' + 2 * Fsum j (ds X) + 2 * sumTo p.m0 (upd q i k)), hrT, ?_,
      _, w, sl, j, X, ow, upd q i k, tag', e0, f', d0, M0, woken p.P g g' w a, st, sm, rfl, by rw [setGet _ _ (by omega), ha]; rfl, hcs', ?_, hwg, hmode.retag htag, rfl⟩
    · rw [phi_retag p.n _ htag]
      refine Prod.Lex.right _ ?_
      omega
    · refine ⟨by simp [hcom.size], fun k' k1 k2 => ?_, fun k' hk => ?_, hcom.mc, hcom.mo, hcom.m0, hcom.low, hcom.ti.app o (g := i) (fun op hop => by obtain ⟨e, _, rfl⟩ := Go.Conc.mem_ofEvents hop; rfl) (fun op hop x hx => by rw [hnt op hop] at hx; cases hx), hcom.norel.app (norel_of hnr), by rw [Deaf_other t (by omega) _ g_of_ofEvents, hcom.deaf0],
        fun k' hk => by rw [Deaf_other t (by omega) _ g_of_ofEvents, hcom.deafW k' hk], fun k' hk => by rw [Deaf_other t (by omega) _ g_of_ofEvents]; exact hcom.above k' hk, fun k' hk hst => ?_, hcom.sum⟩
      · by_cases e : k' = i
        · subst e
          exact ⟨g', setGetS _ _ (by rw [hcom.size]; omega), by rw [upd_same, Deaf_own]; exact hq'⟩
        · obtain ⟨y, hy, hqy⟩ := hcom.old k' k1 k2
          exact ⟨y, by rw [setGet _ _ (by omega), hy, Option.map_some, woken_quitsD hqy], by rw [upd_ne q k e, Deaf_other t (by omega) _ g_of_ofEvents]; exact hqy⟩
      · obtain ⟨y, hy, hsy⟩ := hcom.wk k' hk
        exact ⟨y, by rw [setGet _ _ (by omega), hy, Option.map_some, hsy.woken], hsy⟩
      · obtain ⟨r, hr, hr0⟩ := hcom.rel k' hk hst
        exact ⟨r, hr.appOther g_of_ofEvents (by omega), hr0⟩
end
end Go.Proofs.Ytmkpaciaollcbaa
