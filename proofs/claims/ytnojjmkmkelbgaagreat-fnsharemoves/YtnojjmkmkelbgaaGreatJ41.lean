/- The law of promises 14 and 15: goroutine 0, one step at a time, slots by what is known of them. -/
import Derived.Test.YtnojjmkmkelbgaaGreatJ34
import Derived.Test.YtnojjmkmkelbgaaGreatJ37
import Derived.Orders
import Derived.Test.YtnojjmkmkelbgaaGreatJ26
import Derived.Test.YtnojjmkmkelbgaaGreatDna
import Derived.Test.YtnojjmkmkelbgaaGreatDn8
import Derived.Test.YtnojjmkmkelbgaaGreatDn6
import Derived.Test.YtnojjmkmkelbgaaGreatJ24
namespace Go.Proofs.YtnojjmkmkelbgaaGreat
open Go.Conc Go.RowKit

/-- What is known of the slots. -/
def Has (n : Nat) (T : Array Value) (l : List (Nat × Value)) : Prop := T.size = n ∧ ∀ p ∈ l, T[p.1]? = some p.2
theorem Has.get {n : Nat} {T : Array Value} {l : List (Nat × Value)} (h : Has n T l) (x : Nat) (v : Value) (hm : (x, v) ∈ l) : T[x]? = some v := h.2 _ hm
theorem Has.ev {n : Nat} {T : Array Value} {l : List (Nat × Value)} {ds : List Deferred} (h : Has n T l) (x : Nat) (v : Value) (hm : (x, v) ∈ l) : (⟨T, ds⟩ : Act).eval (.tmp x) = v := by
  have := h.get x v hm
  simp [Act.eval, this]
theorem Has.put {n : Nat} {T : Array Value} {l : List (Nat × Value)} (h : Has n T l) (d : Nat) (v : Value) (hd : d < n) (hn : ∀ p ∈ l, p.1 ≠ d) : Has n (T.setIfInBounds d v) ((d, v) :: l) := by
  refine ⟨by simp [h.1], fun p hp => ?_⟩
  rcases List.mem_cons.1 hp with rfl | hp
  · simp [h.1, hd]
  · rw [Array.getElem?_setIfInBounds_ne (Ne.symm (hn p hp))]
    exact h.2 p hp
theorem Has.sub {n : Nat} {T : Array Value} {l l' : List (Nat × Value)} (h : Has n T l) (hs : ∀ p ∈ l', p ∈ l) : Has n T l' := ⟨h.1, fun p hp => h.2 p (hs p hp)⟩
theorem want0 {o : Oper} (h : o.guard = none) (f : Nat → Option Bool) : Region.wanted o f = true := by simp [Region.wanted, h]
theorem want1 {o : Oper} {j : Nat} {t t' : Bool} {ops : Array Oper} {T : Array Value} {oj : Oper} {s : Nat} (h : o.guard = some (j, t)) (hj : ops[j]? = some oj) (hs : oj.dst = some s) (hT : T[s]? = some (.bool t')) : Region.wanted o (yielded ops T) = (t' == t) := by
  simp [Region.wanted, h, yielded, hj, hs, hT]

section
variable {P : Program} {Shun : Loc → Prop} {Post : Value → World → Prop} {b : Frame} {a : Act} {k : List Item} {cs : List Frame} {gs : Array Goroutine} {sl : Option (Nat × Nat)} {t : Trace} {V : World}
/-- A step of control. -/
theorem e_ctl {g g' : Goroutine} (hh : Here P Shun gs g t) (hr : g.status = .running) (hs : ∀ w, stepG P true g w = .go g' w #[]) (kk : ∀ gs' sl' t' d, Here P Shun gs' g' t' → EndsG P Post (crowd gs' (V.at d) sl') t') : EndsG P Post (crowd gs V sl) t := by
  have hG : Go.Conc.Goes P true AtRel (DE fun _ => False) (fun g w' => g = g' ∧ AtRel V w') 1 g V := Go.Conc.Goes.step hr fun w₁ h₁ => by
    rw [hs]
    simp only [goes_go]
    exact ⟨fun e he => by simp at he, Go.Conc.Goes.stop fun w₂ h₂ => ⟨rfl, atRel_trans _ _ _ h₁ h₂⟩⟩
  refine ends_walk (D := DE fun _ => False) (B0 := 0) (fun _ _ _ h e he => (h e he).elim) hh hG fun gs' g'' w' sl' t' hh' hst => ?_
  obtain ⟨rfl, d, rfl⟩ := hst
  exact kk _ _ _ _ hh'
/-- An order is drawn. -/
theorem e_draw {id : Nat} {ops : Array Oper} (hh : Here P Shun gs (G (b.at a (.code (.region id ops true) :: k)) cs) t) (kk : ∀ gs' sl' t' d x, Here P Shun gs' (G (b.at a (.inRegion ops (Region.schedule (P.follows .mixedOrders) ops x) :: k)) cs) t' → EndsG P Post (crowd gs' (V.at d) sl') t') : EndsG P Post (crowd gs V sl) t := by
  have hG : Go.Conc.Goes P true AtRel (DE fun _ => False) (fun g w' => (∃ x, g = G (b.at a (.inRegion ops (Region.schedule (P.follows .mixedOrders) ops x) :: k)) cs) ∧ AtRel V w') 1 (G (b.at a (.code (.region id ops true) :: k)) cs) V := Go.Conc.Goes.step rfl fun w₁ h₁ => by
    rw [stepG_region_draw]
    simp only [goes_go]
    refine ⟨fun e he => by simp at he, Go.Conc.Goes.stop fun w₂ h₂ => ⟨⟨_, rfl⟩, ?_⟩⟩
    obtain ⟨d, rfl⟩ := h₁
    obtain ⟨d', rfl⟩ := h₂
    exact ⟨d', rfl⟩
  refine ends_walk (D := DE fun _ => False) (B0 := 0) (fun _ _ _ h e he => (h e he).elim) hh hG fun gs' g'' w' sl' t' hh' hst => ?_
  obtain ⟨⟨x, rfl⟩, d, rfl⟩ := hst
  exact kk _ _ _ _ _ hh'
/-- An operation that yields a value, the world as it was. -/
theorem e_val {ops : Array Oper} {i : Nat} {rest : List Nat} {o : Oper} {v : Value} {dst : Option Tmp} (B : Nat) (hh : Here P Shun gs (G (b.at a (.inRegion ops (i :: rest) :: k)) cs) t) (ho : ops[i]? = some o) (hw : Region.wanted o (yielded ops a.tmps) = true) (hk : b.kind = .normal) (hdst : o.dst = dst)
    (hr : ∀ d, (execOp a.eval o).run P (V.at d) = .ok (.value v) (V.at d)) (he : ∀ d, ∀ e ∈ (execOp a.eval o).events P (V.at d) #[], EvL Shun B e)
    (kk : ∀ gs' sl' t' d, Here P Shun gs' (G (b.at (a.put dst v) (.inRegion ops rest :: k)) cs) t' → EndsG P Post (crowd gs' (V.at d) sl') t') : EndsG P Post (crowd gs V sl) t := by
  subst hdst
  have hG : Go.Conc.Goes P true AtRel (DE (EvL Shun B)) (fun g w' => g = G (b.at (a.put o.dst v) (.inRegion ops rest :: k)) cs ∧ AtRel V w') 1 (G (b.at a (.inRegion ops (i :: rest) :: k)) cs) V := Go.Conc.Goes.step rfl fun w₁ h₁ => by
    obtain ⟨d, rfl⟩ := h₁
    rw [stepG_value ho hw (by rw [hk]; intro h; cases h) (hr d)]
    simp only [goes_go]
    exact ⟨fun e hx => he d e (mem_listed hx), Go.Conc.Goes.stop fun w₂ h₂ => ⟨rfl, by obtain ⟨d', rfl⟩ := h₂; exact ⟨d', rfl⟩⟩⟩
  refine ends_walk (D := DE (EvL Shun B)) (B0 := B) (fun _ _ _ h => h) hh hG fun gs' g'' w' sl' t' hh' hst => ?_
  obtain ⟨rfl, d, rfl⟩ := hst
  exact kk _ _ _ _ hh'
theorem e_move {ops : Array Oper} {i : Nat} {rest : List Nat} {o : Oper} {v : Value} {x : Operand} {dst : Option Tmp} (hh : Here P Shun gs (G (b.at a (.inRegion ops (i :: rest) :: k)) cs) t) (ho : ops[i]? = some o) (hw : Region.wanted o (yielded ops a.tmps) = true) (hk : b.kind = .normal) (hdst : o.dst = dst) (hop : o.op = .move x ∨ o.op = .assign x) (hx : a.eval x = v)
    (kk : ∀ gs' sl' t' d, Here P Shun gs' (G (b.at (a.put dst v) (.inRegion ops rest :: k)) cs) t' → EndsG P Post (crowd gs' (V.at d) sl') t') : EndsG P Post (crowd gs V sl) t := by
  have e : execOp a.eval o = Pure.pure (.value v) := by unfold execOp; rcases hop with h | h <;> rw [h] <;> simp [hx]
  exact e_val 0 hh ho hw hk hdst (fun d => by rw [e]; rfl) (fun d x hx => by rw [e] at hx; simp at hx) kk
/-- An operation that is not wanted. -/
theorem e_skip {ops : Array Oper} {i : Nat} {rest : List Nat} {o : Oper} {dst : Option Tmp} (hh : Here P Shun gs (G (b.at a (.inRegion ops (i :: rest) :: k)) cs) t) (ho : ops[i]? = some o) (hw : Region.wanted o (yielded ops a.tmps) = false) (hdst : o.dst = dst)
    (kk : ∀ gs' sl' t' d, Here P Shun gs' (G (b.at (a.put dst undef) (.inRegion ops rest :: k)) cs) t' → EndsG P Post (crowd gs' (V.at d) sl') t') : EndsG P Post (crowd gs V sl) t := by
  subst hdst
  exact e_ctl hh rfl (fun w => by rw [stepG_unwanted ho hw]) kk
/-- Into a call. -/
theorem e_into {ops : Array Oper} {i : Nat} {rest : List Nat} {o : Oper} {f : FuncId} {fn : Func} {args : Array Operand} {ats : Array TypeId} {vs : Array Value} (hh : Here P Shun gs (G (b.at a (.inRegion ops (i :: rest) :: k)) cs) t) (ho : ops[i]? = some o) (hw : Region.wanted o (yielded ops a.tmps) = true) (hk : b.kind = .normal) (hop : o.op = .call { callee := .value (.func f), args, argTypes := ats })
    (hf : P.funcs[f]? = some fn) (hname : (fn.name == "runtime.NumGoroutine") = false) (hb : fn.body.isNone = false) (hvs : args.map a.eval = vs)
    (kk : ∀ gs' sl' t' d, Here P Shun gs' (G (Frame.enter P f vs .normal) (b.at a (.inRegion ops (i :: rest) :: k) :: cs)) t' → EndsG P Post (crowd gs' (V.at d) sl') t') : EndsG P Post (crowd gs V sl) t := by
  have hs : ∀ w, stepG P true (G (b.at a (.inRegion ops (i :: rest) :: k)) cs) w = .go (G (Frame.enter P f vs .normal) (b.at a (.inRegion ops (i :: rest) :: k) :: cs)) w #[] := fun w => by
    subst hvs
    rw [stepG_enter ho hw (by rw [hk]; intro h; cases h) (run_call_body hop hf hname hb)]
    have : listed P b.fn a o w = #[] := by unfold listed; rw [events_call_body hop hf hname hb]; exact seen_none P _
    rw [this]
  exact e_ctl hh rfl hs kk
/-- A call by its contract. -/
theorem e_call {X : Nat → Prop} {s : Nat → Bool} (S : SetOk P s) (hX : ShIn Shun X) (hbV : Base X V) {ops : Array Oper} {i : Nat} {rest : List Nat} {o : Oper} {f : FuncId} {fn : Func} {args : Array Operand} {ats : Array TypeId} {vs : Array Value} {dst : Option Tmp} (hh : Here P Shun gs (G (b.at a (.inRegion ops (i :: rest) :: k)) cs) t) (ho : ops[i]? = some o) (hw : Region.wanted o (yielded ops a.tmps) = true) (hk : b.kind = .normal) (hdst : o.dst = dst) (hop : o.op = .call { callee := .value (.func f), args, argTypes := ats })
    (hf : P.funcs[f]? = some fn) (hname : (fn.name == "runtime.NumGoroutine") = false) (hb : fn.body.isNone = false) (hsf : s f = true) (hvs : args.map a.eval = vs) {R : Value → World → Prop} (hR : ∀ v, Tapeless (R v))
    (hc : ∀ τ d, Calls P f vs (pzT X V τ d) fun e u' => (∃ v, e = .returned v ∧ R v u') ∧ Below (pzT X V τ d).heap.size (pzT X V τ d) u')
    (kk : ∀ gs' w' sl' t' v, Here P Shun gs' (G (b.at (a.put dst v) (.inRegion ops rest :: k)) cs) t' → Base X w' → (∀ τ d, R v (pzT X w' τ d) ∧ Below V.heap.size (pzT X V τ d) (pzT X w' τ d)) → EndsG P Post (crowd gs' w' sl') t') : EndsG P Post (crowd gs V sl) t := by
  subst hdst
  refine e_into hh ho hw hk hop hf hname hb hvs fun gs1 sl1 t1 d1 hh1 => ?_
  refine ends_run hX hh1 (call_back S hsf (hbV.at d1) (R := fun w v u => R v u ∧ Below w.heap.size w u) (fun τ d => (show Calls P f vs (pzT X V τ d) _ from hc τ d).mono ?_) _ cs) fun gs2 g2 w2 sl2 t2 hh2 hst2 => ?_
  · rintro e u' ⟨⟨v, rfl, h1⟩, h2⟩
    exact ⟨v, rfl, h1, h2⟩
  obtain ⟨v, rfl, hb2, hR2⟩ := hst2
  rw [Frame.finish_at, ho] at hh2
  exact kk _ _ _ _ v hh2 hb2 fun τ d => below_held (hR v) ((hR2 τ d).imp fun u h => let ⟨τ, d, h1, h2⟩ := h; ⟨τ, d, h1, by rw [pz_size] at h2; exact h2⟩)
/-- A call that goes. -/
theorem e_go {X : Nat → Prop} {ops : Array Oper} {i : Nat} {rest : List Nat} {o : Oper} {f : FuncId} {fn : Func} {args : Array Operand} {ats : Array TypeId} {vs : Array Value} {dst : Option Tmp} (hh : Here P Shun gs (G (b.at a (.inRegion ops (i :: rest) :: k)) cs) t) (ho : ops[i]? = some o) (hw : Region.wanted o (yielded ops a.tmps) = true) (hk : b.kind = .normal) (hdst : o.dst = dst) (hop : o.op = .call { callee := .value (.func f), args, argTypes := ats })
    (hf : P.funcs[f]? = some fn) (hname : (fn.name == "runtime.NumGoroutine") = false) (hb : fn.body.isNone = false) (hvs : args.map a.eval = vs) {R : Value → World → Prop}
    (hc : ∀ d, GCalls P f vs X Shun (V.at d) R)
    (kk : ∀ X' Shun' gs' w' sl' t' v, ShIn Shun' X' → (∀ b, X' b → X b ∨ V.heap.size ≤ b) → Here P Shun' gs' (G (b.at (a.put dst v) (.inRegion ops rest :: k)) cs) t' → Base X' w' → (∀ τ d, R v (pzT X' w' τ d) ∧ Below V.heap.size (pzT X V τ d) (pzT X' w' τ d)) → EndsG P Post (crowd gs' w' sl') t') : EndsG P Post (crowd gs V sl) t := by
  subst hdst
  refine e_into hh ho hw hk hop hf hname hb hvs fun gs1 sl1 t1 d1 hh1 => ?_
  refine hc d1 Post _ cs gs1 sl1 t1 hh1 fun X' Shun' gs' w' sl' t' v hX' hW' hh' hb' hR' => ?_
  rw [Frame.finish_at, ho] at hh'
  exact kk X' Shun' gs' w' sl' t' v hX' hW' hh' hb' hR'
end
end Go.Proofs.YtnojjmkmkelbgaaGreat

/- The orders that a region may draw, listed. -/
namespace Go.Proofs.YtnojjmkmkelbgaaGreat

def Ords (md : Region.Mode) (ops : Array Oper) : Nat → Array Bool → List (List Nat)
  | 0, _ => [[]]
  | fuel + 1, listed => match Region.ready md ops listed with
    | [] => [[]]
    | r => r.flatMap fun i => (Ords md ops fuel (listed.setIfInBounds i true)).map (i :: ·)
theorem ords_mem (md : Region.Mode) (ops : Array Oper) : ∀ (fuel t : Nat) (listed : Array Bool), Region.linearise.go md ops fuel t listed [] ∈ Ords md ops fuel listed := by
  intro fuel
  induction fuel with
  | zero => intro t listed; simp [Region.linearise.go, Ords]
  | succ fuel ih =>
    intro t listed
    simp only [Region.linearise.go, Ords]
    change (match (Region.ready md ops listed)[t % (Region.ready md ops listed).length]? with
      | some i => Region.linearise.go md ops fuel (t / (Region.ready md ops listed).length) (listed.setIfInBounds i true) [i]
      | none => [].reverse) ∈ _
    cases hr : Region.ready md ops listed with
    | nil => simp
    | cons x xs =>
      have hlt : t % (x :: xs).length < (x :: xs).length := Nat.mod_lt _ (by simp)
      rw [List.getElem?_eq_getElem hlt]
      simp only []
      rw [linearise_go_acc, List.reverse_singleton, List.singleton_append]
      exact List.mem_flatMap.2 ⟨_, List.getElem_mem hlt, List.mem_map.2 ⟨_, ih _ _, rfl⟩⟩
theorem sched_mem {P : Program} (hm : P.follows .mixedOrders = true) (ops : Array Oper) (x : Nat) : Region.schedule (P.follows .mixedOrders) ops x ∈ Ords .any ops ops.size (Array.replicate ops.size false) := by
  simp only [Region.schedule, hm, Bool.true_or, if_true]
  exact ords_mem .any ops ops.size x _
end Go.Proofs.YtnojjmkmkelbgaaGreat

/- Drawing for the share: a book; a thing; the draws of the laws. -/
namespace Go.Proofs.YtnojjmkmkelbgaaGreat
open Go.RowKit

/-- What lies where while a book is drawn: the result's block, the book's. -/
structure BJ (w W : World) (rb len N q : Nat) (v tv xv : Value) (b : Bk) : Prop where
  r : CB W w.heap.size [.slice none 0 0, .slice none 0 0]
  x : CB W q [tv, xv]
  rd : Rd W rb v len N
  g : w.grownBy W (some rb)
  bk : Dk W (w.heap.size + 1) (.agg #[tv, xv]) b
  qz : w.heap.size + 1 ≤ q
theorem Dk.parts {w : World} {base : Nat} {v : Value} {b : Bk} (h : Dk w base v b) : ∃ a1 c1 a2 c2, v = .agg #[.slice a1 b.things.length c1, .slice a2 b.bs.length c2] := by
  obtain ⟨a1, c1, a2, c2, _, e, _⟩ := h.1.parts
  exact ⟨a1, c1, a2, c2, e⟩
theorem DkL.parts {w : World} {base : Nat} {v : Value} {b : Bk} (h : DkL w base v b) : ∃ a1 c1 a2 c2, v = .agg #[.slice a1 b.things.length c1, .slice a2 b.bs.length c2] := by
  obtain ⟨a1, c1, a2, c2, _, e, _⟩ := h.1.parts
  exact ⟨a1, c1, a2, c2, e⟩

set_option maxRecDepth 20000 in
set_option maxHeartbeats 4000000 in
theorem book15_any (rb len N : Nat) (v : Value) (w : World) (hR : Rd w rb v len N) (hN : N ≤ 10000) :
    Calls Tryz.prog 32 #[.pointer (some ⟨rb, 0, none⟩)] w
      fun e w' => (∃ (u : Value) (b : Bk), e = .returned u ∧ Dk w' w.heap.size u b) ∧ Rd w' rb v len (N + 10000) ∧ w.grownBy w' (some rb) := by
  have hrl := hR.lt
  go_enter Tryz.func32, Tryz.ntmps32
  go_upto_region 1 with fail
  obtain ⟨W1, hW1, kR, hB1, hs1⟩ : ∃ W1, w.alloc (.cells #[.slice none 0 0, .slice none 0 0] 26) = W1 ∧ CB W1 w.heap.size [.slice none 0 0, .slice none 0 0] ∧ Below w.heap.size w W1 ∧ W1.heap.size = w.heap.size + 1 := ⟨_, rfl, cb1 w _ _⟩
  rw [hW1]
  clear hW1
  have hR1 := hR.kept hB1
  have hs1' : w.heap.size + 1 ≤ W1.heap.size := by omega
  clear hR hs1
  go_wp2_with fail
  refine (base15_any rb len N v _ hR1 (by omega)).mono ?_
  rintro e w2 ⟨⟨a1, c1, ts, rfl, hD⟩, hR2, hg2⟩
  have kR := kR.kept hg2 (by simp; omega)
  have hG2 := grown_trans (grown_below (r := some rb) hB1) hg2
  have hz2 := hg2.size
  have hD : Dk w2 (w.heap.size + 1) (.agg #[.slice a1 ts.length c1, .slice none 0 0]) ⟨ts, []⟩ := hD.low hs1'
  clear hB1 hg2 hR1
  go_upto_region 2 with fail
  obtain ⟨W3, hW3, kX, hb3, hs3⟩ : ∃ W3, w2.alloc (.cells #[.slice a1 ts.length c1, .slice none 0 0] 26) = W3 ∧ CB W3 w2.heap.size [.slice a1 ts.length c1, .slice none 0 0] ∧ Below w2.heap.size w2 W3 ∧ W3.heap.size = w2.heap.size + 1 := ⟨_, rfl, cb1 w2 _ _⟩
  rw [hW3]
  have J3 : BJ w W3 rb len (N + 10) w2.heap.size v (.slice a1 ts.length c1) (.slice none 0 0) ⟨ts, []⟩ := ⟨kR.up hb3 kR.2.2, kX, hR2.kept hb3, grown_trans hG2 (grown_below hb3), hD.up hb3, by omega⟩
  clear hW3 kX hb3 hs3 kR hR2 hG2 hD hz2 hs1'
  generalize w2.heap.size = q at *
  go_wp2_with fail
  refine (pick15_any rb len _ v 3 _ J3.rd (by omega)).mono ?_
  rintro e w4 ⟨⟨x, rfl, -, -⟩, hR4, hg4⟩
  have hqz := J3.qz
  have J4 : BJ w w4 rb len (N + 11) q v (.slice a1 ts.length c1) (.slice none 0 0) ⟨ts, []⟩ := ⟨J3.r.kept hg4 (by simp; omega), J3.x.kept hg4 (by simp; omega), hR4, grown_trans J3.g hg4, J3.bk.gr hg4 (by omega), J3.qz⟩
  clear J3 hR4 hg4
  by_cases hx : x = 0
  · subst hx
    obtain ⟨z0, z1⟩ := J4.x.c2'
    obtain ⟨⟨tu, bu, ps, hv, o1, -, -⟩, hz, ht, -, -⟩ := J4.bk
    obtain ⟨rfl, rfl⟩ : tu = .slice a1 ts.length c1 ∧ bu = .slice none 0 0 := by simp at hv; exact ⟨hv.1.symm, hv.2.symm⟩
    go_wp2_with fail
    refine (wild15_any rb len _ (w.heap.size + 1) v a1 c1 ts _ J4.rd (by omega) o1 hz.1 ht (by omega) J4.r.2.2).mono ?_
    rintro e w5 ⟨⟨u, b, rfl, hD5⟩, hR5, hg5⟩
    have kR := J4.r.kept hg5 (by simp; omega)
    have hG := grown_trans J4.g hg5
    obtain ⟨a3, c3, a4, c4, rfl⟩ := hD5.parts
    clear J4 z0 z1 hg5
    obtain ⟨⟨y0, y1⟩, g0, g1⟩ := kR.c2
    go_wp2_with fail
    refine end_cb2 Tryz.results32 Tryz.underlying26 rfl sizeBk1 kR rfl ?_
    exact ⟨⟨_, b, rfl, ((hD5.1.set (by omega)).set (by omega)).low (by omega), hD5.2⟩, ((hR5.setCell (by omega)).setCell (by omega)).mono (by omega), grown_setNew (grown_setNew hG (Nat.le_refl _) _) (Nat.le_refl _) _⟩
  have hx' : (x == 0) = false := by simpa using hx
  go_wp2_with fail
  refine (pick15_any rb len _ v 24 _ J4.rd (by omega)).mono ?_
  rintro e w5 ⟨⟨n, rfl, hn0, hn1⟩, hR5, hg5⟩
  have hn2 := hn1 (by omega)
  obtain ⟨m, rfl⟩ : ∃ m : Nat, n = (m : Int) := ⟨n.toNat, by omega⟩
  have J5 : BJ w w5 rb len (N + 12) q v (.slice a1 ts.length c1) (.slice none 0 0) ⟨ts, []⟩ := ⟨J4.r.kept hg5 (by simp; omega), J4.x.kept hg5 (by simp; omega), hR5, grown_trans J4.g hg5, J4.bk.gr hg5 (by omega), J4.qz⟩
  clear J4 hR5 hg5 hn0 hn1 hx'
  go_wp2_with fail
  go_loopw [4] (fun i w' => ∃ (k : Nat) (a1 : Option Addr) (c1 : Nat) (a2 : Option Addr) (c2 : Nat) (b : Bk), k ≤ m ∧ i = .int .i64 k ∧ BJ w w' rb len (N + 12 + 200 * (m - k)) q v (.slice a1 b.things.length c1) (.slice a2 b.bs.length c2) b) (fun i _ => (intOf i).toNat)
  case atStart => exact ⟨m, _, _, _, _, ⟨ts, []⟩, by omega, rfl, by simpa using J5⟩
  case round =>
    clear J5
    obtain ⟨k, a1, c1, a2, c2, b, hk, rfl, J⟩ := hrel
    by_cases hp : 0 < k
    · have hp' : (0 : Int) < (k : Int) := by omega
      have hS1 : World.cell? wr.drew ⟨q, 0, none⟩ = some (.slice a1 b.things.length c1) ∧ World.cell? wr.drew ⟨q, 1, none⟩ = some (.slice a2 b.bs.length c2) := J.x.c2'
      have Hm : Hid (200 * (m - (k - 1)) = 200 * (m - k) + 200) := by show _ = _; omega
      have hbig : N + 12 + 200 * (m - k) ≤ 800000 := by omega
      go_wp2_with fail
      refine wp_region_x 5 (fun w' => World.cell? w' ⟨q, 0, none⟩ = some (.slice a1 b.things.length c1) ∧ World.cell? w' ⟨q, 1, none⟩ = some (.slice a2 b.bs.length c2)) (by kernel_rfl) ?_
      refine anyX_take (i := 0) (v := ?_) rfl (by kernel_rfl) (by kernel_rfl) (by kernel_rfl) (by kernel_rfl) (fun _ _ _ h => h) (by rfl) hS1 ?_ ?_; rotate_left; focus (intro w hSw; (try dsimp only at hSw); go_simp; try with_reducible rfl); (try simp only [Act.put, List.setIfInBounds_toArray, List.set_cons_zero, List.set_cons_succ])
      refine anyX_take (i := 1) (v := ?_) rfl (by kernel_rfl) (by kernel_rfl) (by kernel_rfl) (by kernel_rfl) (fun _ _ _ h => h) (by rfl) hS1 ?_ ?_; rotate_left; focus (intro w hSw; (try dsimp only at hSw); go_simp; try with_reducible rfl); (try simp only [Act.put, List.setIfInBounds_toArray, List.set_cons_zero, List.set_cons_succ])
      refine anyX_take (i := 2) (v := ?_) rfl (by kernel_rfl) (by kernel_rfl) (by kernel_rfl) (by kernel_rfl) (fun _ _ _ h => h) (by rfl) hS1 ?_ ?_; rotate_left; focus (intro w hSw; (try dsimp only at hSw); go_simp; try with_reducible rfl); (try simp only [Act.put, List.setIfInBounds_toArray, List.set_cons_zero, List.set_cons_succ])
      refine onx 3 rfl (fun K hK => ?_)
      go_simp
      go_wp2_with (go_at_call 45; refine (does15_any rb len _ (w.heap.size + 1) v _ b _ J.rd.drew hbig (J.bk.up (Below.refl _ _).drew).loose (by omega)).mono ?_; rintro e w6 ⟨⟨kd, nm, al, cl, list, rfl, hol, hnz, hlz, hll⟩, hR6, hg6⟩)
      have hg6 : wr.grownBy w6 (some rb) := ⟨hg6.os, hg6.tape, hg6.output, hg6.size, hg6.block⟩
      have J6 : BJ w w6 rb len (N + 12 + 200 * (m - k) + 200) q v (.slice a1 b.things.length c1) (.slice a2 b.bs.length c2) b := ⟨J.r.kept hg6 (by simp; omega), J.x.kept hg6 (by simp; omega), hR6, grown_trans J.g hg6, J.bk.gr hg6 (by omega), J.qz⟩
      have hS6 : World.cell? w6 ⟨q, 0, none⟩ = some (.slice a1 b.things.length c1) ∧ World.cell? w6 ⟨q, 1, none⟩ = some (.slice a2 b.bs.length c2) := J6.x.c2'
      have hLl := hol.lst.ls hlz
      clear J hR6 hg6 hS1 hol hlz hbig
      refine gox hK hS6 ?_; clear hK K; (try simp only [Act.put, List.setIfInBounds_toArray, List.set_cons_zero, List.set_cons_succ])
      refine onx 4 rfl (fun K hK => ?_)
      go_simp
      go_wp2_with (go_at_call 48; refine (step15_any b _ kd nm al cl list (w.heap.size + 1) _ J6.bk hLl hnz (by omega)).mono ?_; rintro e w7 ⟨⟨u, b', rfl, hD7⟩, hb7⟩)
      obtain ⟨a3, c3, a4, c4, rfl⟩ := hD7.parts
      have hS7 : World.cell? w7 ⟨q, 0, none⟩ = some (.slice a1 b.things.length c1) ∧ World.cell? w7 ⟨q, 1, none⟩ = some (.slice a2 b.bs.length c2) := ⟨(hb7.cell (p := ⟨q, 0, none⟩) J6.x.2.2).trans hS6.1, (hb7.cell (p := ⟨q, 1, none⟩) J6.x.2.2).trans hS6.2⟩
      have kR7 := J6.r.up hb7 J6.r.2.2
      have kX7 := J6.x.up hb7 J6.x.2.2
      have hqz6 := J6.x.2.2
      have hrz := J6.r.2.2
      have hR7 := J6.rd.kept hb7
      have hG7 := grown_trans J6.g (grown_below hb7)
      clear J6 hS6 hLl hb7
      refine gox hK hS7 ?_; clear hK K; (try simp only [Act.put, List.setIfInBounds_toArray, List.set_cons_zero, List.set_cons_succ])
      obtain ⟨⟨j0, j1⟩, m0, m1⟩ := kX7.c2
      refine onx 5 rfl (fun K hK => ?_)
      go_simp
      refine finx hK ?_
      clear hK K
      refine anyX_done (by kernel_rfl) ?_ _
      have J8 : BJ w ((w7.setCell ⟨q, 0, none⟩ (.slice a3 b'.things.length c3)).setCell ⟨q, 1, none⟩ (.slice a4 b'.bs.length c4)) rb len (N + 12 + 200 * (m - k) + 200) q v (.slice a3 b'.things.length c3) (.slice a4 b'.bs.length c4) b' :=
        ⟨(kR7.other (by omega)).other (by omega), kX7.copy2 _ _, (hR7.setCell (by omega)).setCell (by omega), grown_setNew (grown_setNew hG7 (by omega) _) (by omega) _, ⟨((hD7.1.set hqz6).set hqz6).low (by omega), hD7.2⟩, by omega⟩
      clear j0 j1 m0 m1 hS7 kR7 kX7 hR7 hG7 hD7
      go_wp2_with fail
      go_roundw
      case rel => exact ⟨k - 1, _, _, _, _, b', by omega, by go_num, by rw [Hm.out]; exact J8⟩
      case measure => simp [intOf]; omega
    · have hp' : ¬ (0 : Int) < (k : Int) := by omega
      have kR := J.r
      obtain ⟨z0, z1⟩ := J.x.c2'
      obtain ⟨⟨y0, y1⟩, g0, g1⟩ := kR.c2
      go_wp2_with fail
      refine end_cb2 Tryz.results32 Tryz.underlying26 rfl sizeBk1 kR rfl ?_
      exact ⟨⟨_, rfl, b, ((J.bk.1.set (by omega)).set (by omega)).low (by omega), J.bk.2⟩, ((J.rd.setCell (by omega)).setCell (by omega)).mono (by omega), grown_setNew (grown_setNew J.g (Nat.le_refl _) _) (Nat.le_refl _) _⟩
end Go.Proofs.YtnojjmkmkelbgaaGreat

/- Drawing for the share: any book. -/
namespace Go.Proofs.YtnojjmkmkelbgaaGreat
open Go.RowKit


set_option maxRecDepth 20000 in
set_option maxHeartbeats 4000000 in
theorem any15_any (rb len N : Nat) (v : Value) (w : World) (hR : Rd w rb v len N) (hN : N ≤ 10000) :
    Calls Tryz.prog 16 #[.pointer (some ⟨rb, 0, none⟩)] w
      fun e w' => (∃ (u : Value) (b : Bk), e = .returned u ∧ DkL w' w.heap.size u b) ∧ Rd w' rb v len (N + 11000) ∧ w.grownBy w' (some rb) := by
  have hrl := hR.lt
  go_enter Tryz.func16, Tryz.ntmps16
  go_upto_region 1 with fail
  obtain ⟨W1, hW1, kR, hB1, hs1⟩ : ∃ W1, w.alloc (.cells #[.slice none 0 0, .slice none 0 0] 26) = W1 ∧ CB W1 w.heap.size [.slice none 0 0, .slice none 0 0] ∧ Below w.heap.size w W1 ∧ W1.heap.size = w.heap.size + 1 := ⟨_, rfl, cb1 w _ _⟩
  rw [hW1]
  clear hW1
  have hR1 := hR.kept hB1
  have hs1' : w.heap.size + 1 ≤ W1.heap.size := by omega
  clear hR hs1
  go_wp2_with fail
  refine (book15_any rb len N v _ hR1 (by omega)).mono ?_
  rintro e w2 ⟨⟨u, b, rfl, hD⟩, hR2, hg2⟩
  have kR := kR.kept hg2 (by simp; omega)
  have hG2 := grown_trans (grown_below (r := some rb) hB1) hg2
  have hz2 := hg2.size
  have hD := hD.low hs1'
  obtain ⟨a1, c1, a2, c2, rfl⟩ := hD.parts
  clear hB1 hg2 hR1
  go_upto_region 2 with fail
  obtain ⟨W3, hW3, kX, hb3, hs3⟩ : ∃ W3, w2.alloc (.cells #[.slice a1 b.things.length c1, .slice a2 b.bs.length c2] 26) = W3 ∧ CB W3 w2.heap.size [.slice a1 b.things.length c1, .slice a2 b.bs.length c2] ∧ Below w2.heap.size w2 W3 ∧ W3.heap.size = w2.heap.size + 1 := ⟨_, rfl, cb1 w2 _ _⟩
  rw [hW3]
  have J3 : BJ w W3 rb len (N + 10000) w2.heap.size v (.slice a1 b.things.length c1) (.slice a2 b.bs.length c2) b := ⟨kR.up hb3 kR.2.2, kX, hR2.kept hb3, grown_trans hG2 (grown_below hb3), hD.up hb3, by omega⟩
  clear hW3 kX hb3 hs3 kR hR2 hG2 hD hz2 hs1'
  generalize w2.heap.size = q at *
  go_wp2_with fail
  refine (pick15_any rb len _ v 20 _ J3.rd (by omega)).mono ?_
  rintro e w4 ⟨⟨x, rfl, -, -⟩, hR4, hg4⟩
  have hqz := J3.qz
  have J4 : BJ w w4 rb len (N + 10001) q v (.slice a1 b.things.length c1) (.slice a2 b.bs.length c2) b := ⟨J3.r.kept hg4 (by simp; omega), J3.x.kept hg4 (by simp; omega), hR4, grown_trans J3.g hg4, J3.bk.gr hg4 (by omega), J3.qz⟩
  clear J3 hR4 hg4
  obtain ⟨z0, z1⟩ := J4.x.c2'
  by_cases hx : x = 0
  · subst hx
    go_wp2_with fail
    refine (spoil15_any rb len _ (w.heap.size + 1) v _ b _ J4.rd (by omega) J4.bk).mono ?_
    rintro e w5 ⟨⟨u, b', rfl, hD5⟩, hR5, hg5⟩
    have kR := J4.r.kept hg5 (by simp; omega)
    have hG := grown_trans J4.g hg5
    have hrz := J4.r.2.2
    obtain ⟨a3, c3, a4, c4, rfl⟩ := hD5.parts
    clear J4 z0 z1 hg5
    obtain ⟨⟨y0, y1⟩, g0, g1⟩ := kR.c2
    go_wp2_with fail
    refine end_cb2 Tryz.results16 Tryz.underlying26 rfl sizeBk1 kR rfl ?_
    exact ⟨⟨_, b', rfl, ((hD5.1.set hrz).set hrz).low (by omega), hD5.2⟩, ((hR5.setCell (by omega)).setCell (by omega)).mono (by omega), grown_setNew (grown_setNew hG (Nat.le_refl _) _) (Nat.le_refl _) _⟩
  have hx' : (x == 0) = false := by simpa using hx
  have kR := J4.r
  obtain ⟨⟨y0, y1⟩, g0, g1⟩ := kR.c2
  go_wp2_with fail
  refine end_cb2 Tryz.results16 Tryz.underlying26 rfl sizeBk1 kR rfl ?_
  exact ⟨⟨_, b, rfl, ((J4.bk.loose.1.set (by omega)).set (by omega)).low (by omega), J4.bk.loose.2⟩, ((J4.rd.setCell (by omega)).setCell (by omega)).mono (by omega), grown_setNew (grown_setNew J4.g (Nat.le_refl _) _) (Nat.le_refl _) _⟩
end Go.Proofs.YtnojjmkmkelbgaaGreat

/- Drawing for the share: a book, a name and things. -/
namespace Go.Proofs.YtnojjmkmkelbgaaGreat
open Go.RowKit


theorem ret_cb3 {P : Program} {fn : Func} {q q2 q3 : Tmp} {T : TypeId} (h : fn.results = #[.cell q T, .tmp q2, .tmp q3]) {d : TypeDesc} (hu : P.underlying T = some d) (hd : d.isRow = true) {tmps : Array Value} {Z : World} {rk : Nat} {cs : List Value} (hi : (P.info? T).map (·.size) = some cs.length)
    {v u : Value} (ht : tmps.getD q undef = .pointer (some ⟨rk, 0, none⟩)) (hv : tmps.getD q2 undef = v) (hu' : tmps.getD q3 undef = u) (hZ : CB Z rk cs) : (results fn tmps).run P Z = .ok (.tuple #[.agg cs.toArray, v, u]) Z := by
  have hl := run_loadVar_mid (P := P) Z rk 0 T cs d hZ.1 hu hd hi
  have ha : (asAddr (.pointer (some ⟨rk, 0, none⟩))).run P Z = .ok ⟨rk, 0, none⟩ Z := by simp [go_sem]
  have ht' : tmps[q]?.getD undef = .pointer (some ⟨rk, 0, none⟩) := by simpa using ht
  have hv' : tmps[q2]?.getD undef = v := by simpa using hv
  have hw' : tmps[q3]?.getD undef = u := by simpa using hu'
  simp only [results, h]
  simp [Sem.run_bind, Result.andThen, ht', hv', hw', ha, hl]
theorem end_cb2c {P : Program} {fn : Func} {q q2 q3 : Tmp} {T : TypeId} (h : fn.results = #[.cell q T, .tmp q2, .tmp q3]) {d : TypeDesc} (hu : P.underlying T = some d) (hd : d.isRow = true) (hi : (P.info? T).map (·.size) = some 2) {R : Ending → World → Prop} {tmps : Array Value} {w : World} {rk : Nat} {y0 y1 x0 x1 v u : Value}
    (k : CB w rk [y0, y1]) (ht : tmps.getD q undef = .pointer (some ⟨rk, 0, none⟩)) (hv : tmps.getD q2 undef = v) (hu' : tmps.getD q3 undef = u) (hR : R (.returned (.tuple #[.agg #[x0, x1], v, u])) ((w.setCell ⟨rk, 0, none⟩ x0).setCell ⟨rk, 1, none⟩ x1)) :
    bodyPost P fn R .ret { tmps := tmps, defers := [] } ((w.setCell ⟨rk, 0, none⟩ x0).setCell ⟨rk, 1, none⟩ x1) :=
  bodyPost_ret (ret_cb3 (cs := [x0, x1]) h hu hd hi ht hv hu' (k.copy2 x0 x1)) rfl hR

theorem end_cb2cd {P : Program} {fn : Func} {q q2 q3 : Tmp} {T : TypeId} (h : fn.results = #[.cell q T, .tmp q2, .tmp q3]) {d : TypeDesc} (hu : P.underlying T = some d) (hd : d.isRow = true) (hi : (P.info? T).map (·.size) = some 2) {R : Ending → World → Prop} {tmps : Array Value} {w : World} {rk : Nat} {y0 y1 x0 x1 v u : Value}
    (k : CB w rk [y0, y1]) (ht : tmps.getD q undef = .pointer (some ⟨rk, 0, none⟩)) (hv : tmps.getD q2 undef = v) (hu' : tmps.getD q3 undef = u) (hR : R (.returned (.tuple #[.agg #[x0, x1], v, u])) ((w.setCell ⟨rk, 0, none⟩ x0).setCell ⟨rk, 1, none⟩ x1).drew) :
    bodyPost P fn R .ret { tmps := tmps, defers := [] } ((w.setCell ⟨rk, 0, none⟩ x0).setCell ⟨rk, 1, none⟩ x1).drew :=
  bodyPost_ret (ret_cb3 (cs := [x0, x1]) h hu hd hi ht hv hu' (k.copy2 x0 x1)) rfl hR

/-- What is drawn: a book, a name, things. -/
def Drawn15 (w w' : World) (e : Ending) : Prop := ∃ (u : Value) (b : Bk) (nm : ByteArray) (al : Option Addr) (cl : Nat) (list : List ByteArray), e = .returned (.tuple #[u, .string nm, .slice al list.length cl]) ∧ DkL w' w.heap.size u b ∧ nm.size ≤ maxLen ∧ OwnT w' w.heap.size (.slice al list.length cl) list ∧ (∀ s ∈ list, s.size ≤ maxLen) ∧ list.length ≤ 101

set_option maxRecDepth 20000 in
set_option maxHeartbeats 4000000 in
theorem asks15_any (a : Option Addr) (n cap : Nat) (w : World) (h : BytesAt w w.heap.size (.slice a n cap) n) (hcap : n ≤ cap) (hbig : cap ≤ maxLen) :
    Calls Tryz.prog 30 #[.slice a n cap] w fun e w' => Drawn15 w w' e ∧ Below w.heap.size w w' := by
  go_enter Tryz.func30, Tryz.ntmps30
  go_upto_region 1 with fail
  obtain ⟨W1, hW1, kR, hB1, hs1⟩ : ∃ W1, w.alloc (.cells #[.slice none 0 0, .slice none 0 0] 26) = W1 ∧ CB W1 w.heap.size [.slice none 0 0, .slice none 0 0] ∧ Below w.heap.size w W1 ∧ W1.heap.size = w.heap.size + 1 := ⟨_, rfl, cb1 w _ _⟩
  rw [hW1]
  clear hW1
  go_wp2_with fail
  refine (open15_any a n cap _ (h.up hB1 (by omega)) hcap hbig).mono ?_
  rintro e w2 ⟨⟨rb, len, v, rfl, hR2, hrb⟩, hb2⟩
  have kR := kR.up hb2 (by omega)
  have hB2 := up_trans hB1 hb2
  have hrb' : w.heap.size + 1 ≤ rb := by omega
  have hrl := hR2.lt
  clear hB1 hb2 hs1 hrb
  go_wp2_with fail
  refine (any15_any rb len 0 v _ hR2 (by omega)).mono ?_
  rintro e w3 ⟨⟨u, b, rfl, hD⟩, hR3, hg3⟩
  have kR := kR.kept hg3 (by simp; omega)
  have hB3 := below_gr hB2 hg3 (by omega)
  have hz3 := hg3.size
  obtain ⟨a1, c1, a2, c2, rfl⟩ := hD.parts
  clear hB2 hg3 hR2
  go_upto_region 3 with fail
  obtain ⟨W4, hW4, kX, hb4, hs4⟩ : ∃ W4, w3.alloc (.cells #[.slice a1 b.things.length c1, .slice a2 b.bs.length c2] 26) = W4 ∧ CB W4 w3.heap.size [.slice a1 b.things.length c1, .slice a2 b.bs.length c2] ∧ Below w3.heap.size w3 W4 ∧ W4.heap.size = w3.heap.size + 1 := ⟨_, rfl, cb1 w3 _ _⟩
  rw [hW4]
  have kR := kR.up hb4 kR.2.2
  have hB4 := up_trans hB3 hb4
  have hD4 := hD.up hb4
  have hR4 := hR3.kept hb4
  clear hW4 hB3 hb4 hD hR3
  have hqz : w.heap.size + 1 ≤ w3.heap.size := by omega
  have hqr : w3.heap.size ≠ rb := by omega
  generalize w3.heap.size = q at *
  obtain ⟨z0, z1⟩ := kX.c2'
  go_wp2_with fail
  refine (does15_any rb len _ w2.heap.size v _ b _ hR4 (by omega) hD4 hrl).mono ?_
  rintro e w5 ⟨⟨kd, nm, al, cl, list, rfl, hol, hnz, hlz, hll⟩, -, hg5⟩
  have kX := kX.kept hg5 (by simp; omega)
  have kR := kR.kept hg5 (by simp; omega)
  have hB5 := below_gr hB4 hg5 (by omega)
  have hD5 := hD4.gr hg5 hrl
  have hL5 := hol.lst.ls hlz
  have hz5 := hg5.size
  clear z0 z1 hR4 hD4 hB4 hg5 hL5
  go_upto_region 4 with fail
  obtain ⟨W6, hW6, kD, hb6, hs6⟩ : ∃ W6, w5.alloc (.cells #[.int .i64 kd, .string nm, .slice al list.length cl] 82) = W6 ∧ CB W6 w5.heap.size [.int .i64 kd, .string nm, .slice al list.length cl] ∧ Below w5.heap.size w5 W6 ∧ W6.heap.size = w5.heap.size + 1 := ⟨_, rfl, cb1 w5 _ _⟩
  try rw [hW6]
  have kX := kX.up hb6 kX.2.2
  have kR := kR.up hb6 kR.2.2
  have hB6 := up_trans hB5 hb6
  have hD6 := hD5.up hb6
  have hol := hol.up hb6
  clear hW6 hb6 hB5 hD5 hs6
  obtain ⟨z0, z1⟩ := kX.c2'
  obtain ⟨⟨d0, d1, d2⟩, -⟩ := kD.c3
  obtain ⟨⟨y0, y1⟩, g0, g1⟩ := kR.c2
  have hrl6 := kR.2.2
  have hn5 : w.heap.size + 1 ≤ w5.heap.size := by omega
  have hn6 : ¬ w5.heap.size = w.heap.size := by omega
  have hn7 : ¬ w.heap.size = w5.heap.size := by omega
  have hD7 := ((hD6.1.set (j := 0) (u := .slice a1 b.things.length c1) (show w.heap.size < w2.heap.size by omega)).set (j := 1) (u := .slice a2 b.bs.length c2) (show w.heap.size < w2.heap.size by omega)).low (show w.heap.size ≤ w2.heap.size by omega)
  have hB7 := below_set2 hB6 (Nat.le_refl _) (.slice a1 b.things.length c1) (.slice a2 b.bs.length c2)
  have hol7 : OwnT ((W6.setCell ⟨w.heap.size, 0, none⟩ (.slice a1 b.things.length c1)).setCell ⟨w.heap.size, 1, none⟩ (.slice a2 b.bs.length c2)) W4.heap.size (.slice al list.length cl) list := own_grown hol (grown_setCell (rb := w.heap.size) (grown_setCell (rb := w.heap.size) (grown_refl W6 _) _) _) (by omega)
  have hol8 := own_low hol7 (show w.heap.size ≤ W4.heap.size by omega)
  go_region
  all_goals
    go_wp2_with fail
    refine end_cb2cd Tryz.results30 Tryz.underlying26 rfl sizeBk1 kR rfl rfl rfl ?_
    exact ⟨⟨_, b, nm, al, cl, list, rfl, ⟨hD7.up (Below.refl _ _).drew, hD6.2⟩, hnz, hol8, hlz, by omega⟩, hB7.drew⟩

end Go.Proofs.YtnojjmkmkelbgaaGreat
