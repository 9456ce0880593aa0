/- What opening an argument leans on: lists, cells, texts and numbers that can be read. -/
import Derived.Test.YtnojjmkmkelbgaaGreatRows
import Derived.Test.YtnojjmkmkelbgaaGreatJ1
import Derived.ProofKit
import Derived.OpenShut
import Derived.OpenVars
import Derived.LaidLaws
import Derived.Lib.LaidTab
import Derived.ChangeBears2
import Derived.Deep.DeepHandedRow
import Derived.Test.YtnojjmkmkelbgaaGreatJ8
import Derived.Below
import Derived.Conc.LeavingOf
import Derived.Test.YtnojjmkmkelbgaaGreatDn0
import Derived.Test.YtnojjmkmkelbgaaGreatJ22
import Derived.Test.YtnojjmkmkelbgaaGreatKp7
import Derived.Test.YtnojjmkmkelbgaaGreatJ6
namespace Go.Proofs.YtnojjmkmkelbgaaGreat
open Go.ChangeShapes Go.WideShapes Go.ChangeAt Go.RowKit

theorem own : ownKnob Tryz.prog.godebug = none := by kernel_rfl
theorem laidOut : laidOutB Tryz.prog = true := by kernel_rfl
theorem cellsString : Tryz.prog.cellsOf 9 = 1 := by kernel_rfl
theorem cellsInt : Tryz.prog.cellsOf 3 = 1 := by kernel_rfl
theorem str_of_trod {H : Type} {enc : TypeId × Value → H} {w : World} {base : Nat} {sp : Nat → Bool} {held : Bool} {fuel : Nat} {c : Value} {y : DataW H × List MemPlace}
    (h : DataW.trod enc Tryz.prog w base sp held fuel 9 [c] = some y) : ∃ s : ByteArray, c = .string s ∧ y = (.lit (.string s.data.toList), []) ∧ s.size ≤ maxLen := by
  obtain ⟨s, hc, hy, hs⟩ := DataW.trod_string Tryz.underlying9 h
  simp only [List.cons.injEq, and_true] at hc
  exact ⟨s, hc, hy, hs⟩
theorem int_of_trod {H : Type} {enc : TypeId × Value → H} {w : World} {base : Nat} {sp : Nat → Bool} {held : Bool} {fuel : Nat} {c : Value} {y : DataW H × List MemPlace}
    (h : DataW.trod enc Tryz.prog w base sp held fuel 3 [c] = some y) : ∃ n : Int, c = .int .i64 n ∧ y = (.lit (.int .i64 n), []) ∧ (Lit.int .i64 n).wf = true := by
  obtain ⟨s, hc, hy, hs⟩ := DataW.trod_int Tryz.underlying3 h
  simp only [List.cons.injEq, and_true] at hc
  exact ⟨s, hc, hy, hs⟩
theorem ba_of_list {s : ByteArray} {l : List UInt8} (h : s.data.toList = l) : s = ⟨l.toArray⟩ := by cases s; simp_all [← h]
theorem one_var {H : Type} {enc : TypeId × Value → H} {W : World} {sp : Nat → Bool} {n : String} {gs : List (DataW H)} {q : List MemPlace} (h : DataW.TrodVars enc Tryz.prog W sp [n] gs q) : ∃ g, gs = [g] := by
  match gs, h with
  | [], h => exact h.elim
  | [g], _ => exact ⟨g, rfl⟩
  | _ :: _ :: _, ⟨_, _, _, _, _, _, _, _, _, _, h, _⟩ => exact h.elim
theorem list_of {α : Type} (n : Nat) (Q : Nat → α → Prop) (h : ∀ i, i < n → ∃ p, Q i p) : ∃ ps : List α, ps.length = n ∧ ∀ (i : Nat) (p : α), ps[i]? = some p → Q i p := by
  induction n with
  | zero => exact ⟨[], rfl, fun i p hp => by simp at hp⟩
  | succ n ih =>
    obtain ⟨ps, hl, hq⟩ := ih fun i hi => h i (by omega)
    obtain ⟨p, hp⟩ := h n (by omega)
    refine ⟨ps ++ [p], by simp [hl], fun i q hq' => ?_⟩
    rw [List.getElem?_append] at hq'
    split at hq'
    · exact hq i q hq'
    · rename_i hi
      have : i = n := by
        rcases Nat.lt_or_ge (i - ps.length) 1 with h1 | h1
        · omega
        · rw [List.getElem?_eq_none (by simpa using h1)] at hq'; cases hq'
      subst this
      rw [hl, Nat.sub_self] at hq'
      obtain rfl : p = q := by simpa using hq'
      exact hp
theorem rangeAt_of_cells {w : World} {base b o n : Nat} {cs : List Value} (h : w.cells? base ⟨b, o, none⟩ n = some cs) : w.rangeAt b o cs := by
  unfold World.cells? at h
  split at h
  · intro j v hv
    have hl : cs.length = n := by simpa using Lib.mapM_length h
    have hj : j < n := by rw [← hl]; exact (List.getElem?_eq_some_iff.1 hv).1
    obtain ⟨x, hx, hc⟩ := Lib.mapM_at h j j (by simp [hj])
    rw [hv] at hx
    obtain rfl := Option.some.inj hx
    rwa [Addr.add_mid] at hc
  · cases h
theorem cellsBool : Tryz.prog.cellsOf 4 = 1 := by kernel_rfl
theorem list3 {α : Type} {l : List α} (h : l.length = 3) : ∃ c0 c1 c2, l = [c0, c1, c2] := by
  match l, h with
  | [c0, c1, c2], _ => exact ⟨c0, c1, c2, rfl⟩
theorem list2 {α : Type} {l : List α} (h : l.length = 2) : ∃ c0 c1, l = [c0, c1] := by
  match l, h with
  | [c0, c1], _ => exact ⟨c0, c1, rfl⟩
theorem bool_of_trod {H : Type} {enc : TypeId × Value → H} {w : World} {base : Nat} {sp : Nat → Bool} {held : Bool} {fuel : Nat} {c : Value} {y : DataW H × List MemPlace}
    (h : DataW.trod enc Tryz.prog w base sp held fuel 4 [c] = some y) : ∃ b : Bool, c = .bool b ∧ y = (.lit (.bool b), []) := by
  obtain ⟨s, hc, hy⟩ := DataW.trod_bool Tryz.underlying4 h
  simp only [List.cons.injEq, and_true] at hc
  exact ⟨s, hc, hy⟩
theorem list8 {α : Type} {l : List α} (h : l.length = 8) : ∃ c0 c1 c2 c3 c4 c5 c6 c7, l = [c0, c1, c2, c3, c4, c5, c6, c7] := by
  match l, h with
  | [c0, c1, c2, c3, c4, c5, c6, c7], _ => exact ⟨c0, c1, c2, c3, c4, c5, c6, c7, rfl⟩
end Go.Proofs.YtnojjmkmkelbgaaGreat

/- Runs carried over, 15: a call by its contract, beside others who only leave. -/
namespace Go.Proofs.YtnojjmkmkelbgaaGreat
open Go.Conc

section
variable {P : Program} {X : Nat → Prop} {s : Nat → Bool}

/-- What a contract says of the emptied worlds, of an end in one of them up to the tape. -/
def Told (P : Program) (X : Nat → Prop) (w : World) (R : World → Value → World → Prop) (fe : Frame) (ue : World) : Prop :=
  ∃ τ d u0 v, R (pzT X w τ d) v u0 ∧ fe.leaving P u0 (.returned v) ∧ Full (fun _ => False) u0 ue
theorem told_full {w : World} {R : World → Value → World → Prop} (fe : Frame) (u v : World) (h : Full (fun _ => False) u v) (k : Told P X w R fe u) : Told P X w R fe v := by
  obtain ⟨τ, d, u0, x, h1, h2, h3⟩ := k
  exact ⟨τ, d, u0, x, h1, h2, h3.trans h⟩

theorem noview_run (S : SetOk P s) {fr fe : Frame} {seg : List Frame} {u ue : World} : ∀ (N : Nat), FrOk P s fr → (∀ c ∈ seg, FrOk P s c) → Full (fun _ => False) u u → runN P N (lone fr (seg ++ [c0 P]) u) = .next (lone fe [c0 P] ue) → Full (fun _ => False) ue ue := fun N h hr hf hrun => by
  obtain ⟨ve, q1, q2⟩ := shift S N h hr hf hrun
  rw [hrun, Stepped.next.injEq] at q1
  obtain ⟨_, _, e⟩ := lone_inj q1
  rw [← e] at q2
  exact q2

/-- A call whose contract holds in the emptied world on every tape is carried out beside leavers. -/
theorem calls_run (S : SetOk P s) {f : FuncId} (hf : s f = true) {args : Array Value} {w : World} (hb : Base X w) {R : World → Value → World → Prop}
    (hc : ∀ τ d, Calls P f args (pzT X w τ d) fun e u' => ∃ v, e = .returned v ∧ R (pzT X w τ d) v u') (bw : List Frame) :
    Run P X (Left P X s (Told P X w R) bw) (G (Frame.enter P f args .normal) bw) w := by
  have h0 := enter_ok S hf args
  have hst : St P X s Rtn (Told P X w R) (Frame.enter P f args .normal) [] w := ⟨h0, by simp, hb, fun τ d => by
    obtain ⟨e, u', fr, ⟨v, rfl, hR⟩, ⟨N, hN⟩, _, hl⟩ := hc τ d [c0 P]
    have hs : Sim X 0 w (pzT X w τ d) := sim_pz hb (fun i q hi => by omega)
    have hfu : Full (fun _ => False) (pzT X w τ d) (pzT X w τ d) := fun n => ⟨rfl, fun _ h => h.elim, fun _ _ => rfl, fun _ h => h.elim, hs.pendU, rfl, rfl, fun _ _ _ => rfl⟩
    exact ⟨N, fr, u', hN, hl.1, τ, d, u', v, hR, hl, noview_run S N h0 (seg := []) (by simp) hfu hN⟩⟩
  exact run_of_st S told_full bw hst
end
end Go.Proofs.YtnojjmkmkelbgaaGreat

/- Runs carried over, 16: the return to the caller. -/
namespace Go.Proofs.YtnojjmkmkelbgaaGreat
open Go.Conc

section
variable {P : Program} {X : Nat → Prop} {s : Nat → Bool} {α β : Type}

/-- A term that leaves the world as it is, where it comes to a value. -/
def Keeps (P : Program) (q : Sem α) : Prop := ∀ w es a w' es', q.runT P w es = (.ok a w', es') → w' = w
theorem keeps_pure (a : α) : Keeps P (Pure.pure a : Sem α) := fun w es a w' es' h => by cases h; rfl
theorem keeps_halt (k : Halt) : Keeps P (Sem.halt k : Sem α) := fun w es a w' es' h => by cases h
theorem keeps_bind {q : Sem α} {f : α → Sem β} (h : Keeps P q) (hf : ∀ a, Keeps P (f a)) : Keeps P (q >>= f) := fun w es a w' es' hr => by
  have hr : (q.bind f).runT P w es = _ := hr
  rw [Sem.runT_bind'] at hr
  match hq : q.runT P w es, hr with
  | (.ok b w1, e1), hr => rw [hf b _ _ _ _ _ hr, h _ _ _ _ _ hq]
  | (.halt k w1, e1), hr => cases hr
theorem keeps_program {f : Program → Sem α} (h : Keeps P (f P)) : Keeps P (program >>= f) := fun w es a w' es' hr => h w es a w' es' hr
theorem keeps_load (a : Addr) (m : Mode) : Keeps P (load a m) := fun w es v w' es' hr => by
  simp only [load, Sem.runT] at hr
  split at hr
  · cases hr; rfl
  · split at hr
    · cases hr; rfl
    · cases hr
theorem keeps_und (t : TypeId) : Keeps P (underlying t) := by
  unfold underlying
  refine keeps_program ?_
  split <;> first | exact keeps_pure _ | exact keeps_halt _
theorem keeps_info (t : TypeId) : Keeps P (typeInfo t) := by
  unfold typeInfo
  refine keeps_program ?_
  split <;> first | exact keeps_pure _ | exact keeps_halt _
theorem keeps_loads (a : Addr) : ∀ (n i : Nat) (acc : Array Value), Keeps P (loadCellsFrom a i n acc)
  | 0, _, _ => keeps_pure _
  | n + 1, i, _ => keeps_bind (keeps_load _ _) (fun _ => keeps_loads a n (i + 1) _)
theorem keeps_loadVar (t : TypeId) (a : Addr) : Keeps P (loadVar t a) := by
  unfold loadVar
  refine keeps_bind (by unfold isAgg; refine keeps_bind (keeps_und t) (fun _ => ?_); split <;> exact keeps_pure _) (fun b => ?_)
  split
  · exact keeps_bind (keeps_bind (keeps_info t) (fun _ => keeps_pure _)) (fun n => keeps_bind (keeps_loads a _ _ _) (fun _ => keeps_pure _))
  · exact keeps_load _ _
theorem keeps_addr (v : Value) : Keeps P (asAddr v) := by
  unfold asAddr
  split
  · exact keeps_pure _
  · exact fun w es a w' es' hr => by cases hr
  · exact keeps_halt _
theorem keeps_results (fn : Func) (tmps : Array Value) : Keeps P (results fn tmps) := by
  unfold results
  refine keeps_bind ?_ (fun _ => keeps_pure _)
  rw [Array.mapM_eq_mapM_toList]
  refine keeps_bind (f := fun l => Pure.pure (List.toArray l)) ?_ (fun _ => keeps_pure _)
  induction fn.results.toList with
  | nil => exact keeps_pure _
  | cons x l ih =>
    rw [List.mapM_cons]
    refine keeps_bind ?_ (fun _ => keeps_bind ih (fun _ => keeps_pure _))
    split
    · exact keeps_pure _
    · exact keeps_bind (keeps_addr _) (fun _ => keeps_loadVar _ _)

theorem res_at {Y : Nat → Prop} {fn : Func} {tmps : Array Value} {x y : World} {v : Value} {es : Array Event} (hs : Sim Y 0 x y) (h : (results fn tmps).runT P y #[] = (.ok v y, es)) :
    (results fn tmps).runT P x #[] = (.ok v x, es) ∧ ∀ e ∈ es, Fine Y e := by
  have ha := s_results (P := P) (X := Y) fn tmps 0 x y #[] hs (.inr (by rw [h]; exact Nat.le_refl _))
  rw [h] at ha
  obtain ⟨hev, x', hx, _⟩ := ha
  have e := keeps_results fn tmps _ _ _ _ _ hx
  rw [e] at hx
  exact ⟨hx, fun e he => (hev e he).elim (fun h => by simp at h) id⟩
/-- The call's value goes to the caller; what the contract says holds of the emptied world. -/
theorem left_ret {w : World} {R : World → Value → World → Prop} {c : Frame} {cs : List Frame} {g : Goroutine} {w' : World} (h : Left P X s (Told P X w R) (c :: cs) g w') :
    ∃ v, (∀ d, ∃ es, stepG P true g (w'.at d) = .go (G (c.finish v) cs) (w'.at d) es ∧ ∀ e ∈ es, Fine X e) ∧ Base X w' ∧ ∀ τ d, ∃ τ0 d0 u0, R (pzT X w τ0 d0) v u0 ∧ Full (fun _ => False) u0 (pzT X w' τ d) := by
  obtain ⟨fe, rfl, hm, hok, hb, hT⟩ := h
  have at_u : ∀ {fn : Func} {u0 : World} {v : Value}, (results fn fe.tmps).run P u0 = .ok v u0 → ∃ es, (results fn fe.tmps).runT P u0 #[] = (.ok v u0, es) := fun {fn u0 v} hr => by
    have e := Sem.runT_fst P (results fn fe.tmps) u0 #[]
    rw [hr] at e
    exact ⟨_, Prod.ext e rfl⟩
  obtain ⟨τ0, d0, u0, v, hR, ⟨_, _, _, fn, hfn, hres⟩, hfu⟩ := hT (fun _ _ => 0) 0
  obtain ⟨es, e0⟩ := at_u hres
  have e1 := (res_at (hfu.symm 0) e0).1
  refine ⟨v, fun d => ?_, hb, fun τ d => ?_⟩
  · have hs : Sim X 0 (w'.at d) (pzT X w' (fun _ _ => 0) 0) := sim_pz (hb.at d) (fun i q hi => by omega)
    obtain ⟨e2, hfine⟩ := res_at hs e1
    refine ⟨seen P fe.fn es ++ #[], ?_, fun e he => ?_⟩
    · simp only [stepG, G, hm, unwind, hok.defers, hfn, e2, doReturn, hok.kind, GStep.after]
    · rw [Array.append_empty] at he
      exact hfine e (mem_seen he)
  · obtain ⟨τ1, d1, u1, v1, hR1, ⟨_, _, _, fn1, hfn1, hres1⟩, hfu1⟩ := hT τ d
    rw [hfn] at hfn1
    cases hfn1
    obtain ⟨es1, f0⟩ := at_u hres1
    have f1 := (res_at (hfu1.symm 0) f0).1
    have hs0 : ∀ (τ : Nat → Question → Nat) (d : Nat), Sim X 0 w' (pzT X w' τ d) := fun τ d => sim_pz hb (fun i q hi => by omega)
    have hy : Sim (fun _ => False) 0 (pzT X w' (fun _ _ => 0) 0) (pzT X w' τ d) := ⟨rfl, fun _ h => h.elim, fun _ _ => rfl, fun _ h => h.elim, (hs0 _ _).pendU, rfl, rfl, fun i q hi => by omega⟩
    have f2 := (res_at hy f1).1
    rw [e1] at f2
    have hv : v = v1 := by cases f2; rfl
    subst hv
    exact ⟨τ1, d1, u1, hR1, hfu1⟩
end
end Go.Proofs.YtnojjmkmkelbgaaGreat

/- Runs carried over, 17: a list of functions that call no others than their texts name and the list holds, by a look at the program. -/
namespace Go.Proofs.YtnojjmkmkelbgaaGreat
open Go.Conc

def setCheck (P : Program) (l : List Nat) : Bool := (l.all fun f => match P.funcs[f]? with
  | some fn => (match fn.body with | some b => codeOk P (fun g => l.contains g) b | none => false) && !(fn.name == "runtime.NumGoroutine")
  | none => false) && P.funcs.all fun f => (f.body.map readies).all (·.all (· < gN))
theorem step_of {P : Program} (h : (P.funcs.all fun f => (f.body.map readies).all (·.all (· < gN))) = true) (g : Nat) (hg : gN ≤ g) : P.stepOf g = none := by
  unfold Program.stepOf
  rw [Array.findIdx?_eq_none_iff]
  intro f hf
  have h1 := Array.all_eq_true'.1 h f hf
  cases hb : f.body with
  | none => rfl
  | some b =>
    rw [hb] at h1
    simp only [Option.map_some, Option.all_some, List.all_eq_true, decide_eq_true_eq] at h1
    simp only [Option.map_some, Option.any_some]
    cases hc : (readies b).contains g with
    | false => rfl
    | true => have := h1 g (by simpa using hc); omega
theorem setOk_of {P : Program} {l : List Nat} (h : setCheck P l = true) : SetOk P (fun g => l.contains g) := ⟨fun f hf => by
  have hm : f ∈ l := by simpa using hf
  have h1 := List.all_eq_true.1 (Bool.and_eq_true_iff.1 h).1 f hm
  cases hfn : P.funcs[f]? with
  | none => simp only [hfn] at h1; cases h1
  | some fn =>
    simp only [hfn, Bool.and_eq_true] at h1
    cases hb : fn.body with
    | none => simp only [hb] at h1; cases h1.1
    | some b =>
      simp only [hb] at h1
      exact ⟨fn, b, rfl, hb, h1.1, by simpa using h1.2⟩, step_of (Bool.and_eq_true_iff.1 h).2⟩
end Go.Proofs.YtnojjmkmkelbgaaGreat

/- Runs carried over, 18: a frame cut off: what comes behind is not looked at. -/
namespace Go.Proofs.YtnojjmkmkelbgaaGreat
open Go.Conc

/-- More is to be done behind. -/
def ext (k : List Item) (fr : Frame) : Frame := { fr with todo := fr.todo ++ k }

section
variable {P : Program} {X : Nat → Prop} {s : Nat → Bool}

theorem exitTo_app {id : Nat} (k : List Item) : ∀ {l l' : List Item}, exitTo id l = some l' → exitTo id (l ++ k) = some (l' ++ k)
  | [], _, h => by cases h
  | it :: l, l', h => by
    cases it with
    | inBlock id' =>
      simp only [List.cons_append, exitTo] at h ⊢
      split at h
      · rename_i hc
        rw [if_pos hc]
        cases h; rfl
      · rename_i hc
        rw [if_neg hc]
        exact exitTo_app k h
    | _ => simp only [List.cons_append, exitTo] at h ⊢; exact exitTo_app k h
theorem finish_ext {fr : Frame} (k : List Item) (hne : fr.todo ≠ []) (v : Value) : (ext k fr).finish v = ext k (fr.finish v) := by
  obtain ⟨fn, tmps, todo, defers, mode, kind, rO⟩ := fr
  cases todo with
  | nil => exact absurd rfl hne
  | cons it l =>
    cases it with
    | inRegion ops ord => cases ord <;> rfl
    | _ => rfl
theorem raise_ext (k : List Item) (fr : Frame) (c : List PanicEntry) : (ext k fr).raise c = ext k (fr.raise c) := by
  obtain ⟨fn, tmps, todo, defers, mode, kind, rO⟩ := fr
  cases mode <;> rfl

theorem apply_top (S : SetOk P s) {fr : Frame} (h : FrOk P s fr) {ops : Array Oper} {l : List Nat} {k0 : List Item} (ht : fr.todo = .inRegion ops l :: k0) {q : Sem Next} (he : Ends P (fun n => Plain n ∨ ∃ f args, s f = true ∧ n = .enter f args) q)
    (hq : Sound P (fun _ => False) q) {cu : List Frame} {w : World} (hw : Full (fun _ => False) w w) {g' : Goroutine} {w' : World} {es : Array Event} (hst : stepG.apply P true fr cu none q w = .go g' w' es) :
    (∃ fr', g' = G fr' cu ∧ (∀ cw, stepG.apply P true fr cw none q w = .go (G fr' cw) w' es) ∧ ∀ k cw, stepG.apply P true (ext k fr) cw none q w = .go (G (ext k fr') cw) w' es) ∨
    (∃ fr', g' = G fr' (fr :: cu) ∧ (∀ cw, stepG.apply P true fr cw none q w = .go (G fr' (fr :: cw)) w' es) ∧ ∀ k cw, stepG.apply P true (ext k fr) cw none q w = .go (G fr' (ext k fr :: cw)) w' es) := by
  have hk : (fr.kind == CallKind.early) = false := by rw [h.kind]; rfl
  have hne : fr.todo ≠ [] := by rw [ht]; simp
  have hx : ∀ k, (ext k fr).todo = .inRegion ops l :: (k0 ++ k) := fun k => by simp [ext, ht]
  have hxk : ∀ k, ((ext k fr).kind == CallKind.early) = false := fun k => hk
  have hxf : ∀ k, (ext k fr).fn = fr.fn := fun k => rfl
  have sane := fun k w1 es => Sound.sane hq (hw 0) (k := k) (w1 := w1) (es := es)
  unfold stepG.apply at hst ⊢
  generalize hu : q.runT P w #[] = ru at hst
  simp only [hk, ht, if_true, Bool.false_eq_true, if_false] at hst
  match ru, hu, hst with
  | (.ok n u1, eu), hu, hst =>
    rcases he _ _ _ _ _ hu with (⟨v, rfl⟩ | rfl) | ⟨f, args, hf, rfl⟩ <;> simp only [GStep.after] at hst <;> cases hst
    · refine .inl ⟨fr.finish v, rfl, fun cw => ?_, fun k cw => ?_⟩
      · simp only [hk, if_true, Bool.false_eq_true, if_false, GStep.after]; rfl
      · simp only [hxk, hxf, if_true, Bool.false_eq_true, if_false, GStep.after, finish_ext k hne]; rfl
    · refine .inl ⟨fr.finish undef, rfl, fun cw => ?_, fun k cw => ?_⟩
      · simp only [hk, if_true, Bool.false_eq_true, if_false, GStep.after]; rfl
      · simp only [hxk, hxf, if_true, Bool.false_eq_true, if_false, GStep.after, finish_ext k hne]; rfl
    · refine .inr ⟨Frame.enter P f args .normal, rfl, fun cw => ?_, fun k cw => ?_⟩
      · simp only [hk, ht, if_true, Bool.false_eq_true, if_false, GStep.after]; rfl
      · simp only [hxk, hx, hxf, if_true, Bool.false_eq_true, if_false, GStep.after]; rfl
  | (.halt k u1, eu), hu, hst =>
    have h0 := sane k u1 eu hu
    cases k with
    | panic v =>
      simp only [GStep.after] at hst
      cases hst
      refine .inl ⟨fr.raise [{ v, recovered := false }], rfl, fun cw => ?_, fun k cw => ?_⟩
      · simp only [hk, if_true, Bool.false_eq_true, if_false, GStep.after]; rfl
      · simp only [hxk, hxf, if_true, Bool.false_eq_true, if_false, GStep.after, raise_ext]; rfl
    | stuck x => simp only [GStep.after] at hst; cases hst
    | unsupported x =>
      cases x with
      | initOrder g =>
        have hg : gN ≤ g := by simpa [early?] using h0
        rcases early_cases (fr := fr) S hg cu u1 with ⟨o, x, es, e⟩ | ⟨c, t, hp, hfo, e⟩
        · simp only [e, GStep.after] at hst; cases hst
        · simp only [e, GStep.after] at hst
          cases hst
          have ew : ∀ (fr : Frame) (cw : List Frame), early P fr cw none g u1 = .go (G fr cw) { u1 with heap := u1.heap.setIfInBounds g (.cells c t) } #[] := fun fr cw => by
            unfold early
            simp only [hfo, Bool.not_false, if_true, hp]
            rfl
          refine .inl ⟨fr, rfl, fun cw => ?_, fun k cw => ?_⟩
          · simp only [hk, if_true, Bool.false_eq_true, if_false, GStep.after, ew]
          · simp only [hxk, hxf, if_true, Bool.false_eq_true, if_false, GStep.after, ew]
      | _ => first | (cases h0; done) | (simp only [GStep.after] at hst; cases hst)
    | _ => cases h0

/-- One step of a frame at work does not look at its callers, nor at what is to be done far behind. -/
theorem top_step (S : SetOk P s) {fr : Frame} (h : FrOk P s fr) (hm : fr.mode = .run) {cu : List Frame} {w : World} (hw : Full (fun _ => False) w w) {g' : Goroutine} {w' : World} {es : Array Event} (hst : stepG P true (G fr cu) w = .go g' w' es) :
    (∃ fr', g' = G fr' cu ∧ (∀ cw, stepG P true (G fr cw) w = .go (G fr' cw) w' es) ∧ (fr.todo ≠ [] → ∀ k cw, stepG P true (G (ext k fr) cw) w = .go (G (ext k fr') cw) w' es)) ∨
    (∃ fr', g' = G fr' (fr :: cu) ∧ fr.todo ≠ [] ∧ (∀ cw, stepG P true (G fr cw) w = .go (G fr' (fr :: cw)) w' es) ∧ ∀ k cw, stepG P true (G (ext k fr) cw) w = .go (G fr' (ext k fr :: cw)) w' es) := by
  have hr := h.round
  have ht := h.todo
  have hmx : ∀ k, (ext k fr).mode = .run := fun k => hm
  have hrx : ∀ k, (ext k fr).roundOf = none := fun k => hr
  have still : ∀ {fr' : Frame}, (∀ cs x, stepG P true (G fr cs) x = .go (G fr' cs) x #[]) → (fr.todo ≠ [] → ∀ k cs x, stepG P true (G (ext k fr) cs) x = .go (G (ext k fr') cs) x #[]) →
      (∃ fr', g' = G fr' cu ∧ (∀ cw, stepG P true (G fr cw) w = .go (G fr' cw) w' es) ∧ (fr.todo ≠ [] → ∀ k cw, stepG P true (G (ext k fr) cw) w = .go (G (ext k fr') cw) w' es)) := fun e1 e2 => by
    rw [e1] at hst
    cases hst
    exact ⟨_, rfl, fun cw => e1 cw w, fun hne k cw => e2 hne k cw w⟩
  cases hto : fr.todo with
  | nil => exact .inl (by
      have := still (fr' := { fr with mode := .returning }) (fun cs x => by simp [stepG, stepG.exec, G, hm, hto, hr]) (fun hne => absurd hto hne)
      rwa [hto] at this)
  | cons it l =>
    rw [hto] at ht
    have hi : itemOk P s it := ht it (by simp)
    have htx : ∀ k, (ext k fr).todo = it :: (l ++ k) := fun k => by simp [ext, hto]
    rw [hto] at still
    have go1 : ∀ (l' : List Item), (∀ cs x, stepG P true (G fr cs) x = .go (G { fr with todo := l' } cs) x #[]) → (∀ k cs x, stepG P true (G (ext k fr) cs) x = .go (G { fr with todo := l' ++ k } cs) x #[]) →
        (∃ fr', g' = G fr' cu ∧ (∀ cw, stepG P true (G fr cw) w = .go (G fr' cw) w' es) ∧ (it :: l ≠ [] → ∀ k cw, stepG P true (G (ext k fr) cw) w = .go (G (ext k fr') cw) w' es)) := fun l' e1 e2 => still e1 (fun _ => e2)
    cases it with
    | inBlock id => exact .inl (go1 l (fun cs x => by simp [stepG, stepG.exec, G, hm, hto]) (fun k cs x => by simp [stepG, stepG.exec, G, ext, hm, hto]))
    | inScope b => exact .inl (go1 l (fun cs x => by simp [stepG, stepG.exec, G, hm, hto]) (fun k cs x => by simp [stepG, stepG.exec, G, ext, hm, hto]))
    | inLoop b => exact .inl (go1 (.code b :: .inLoop b :: l) (fun cs x => by simp [stepG, stepG.exec, G, hm, hto]) (fun k cs x => by simp [stepG, stepG.exec, G, ext, hm, hto]))
    | inRegion ops ord =>
      cases ord with
      | nil => exact .inl (go1 l (fun cs x => by simp [stepG, stepG.exec, G, hm, hto]) (fun k cs x => by simp [stepG, stepG.exec, G, ext, hm, hto]))
      | cons i rest =>
        have hne : fr.todo ≠ [] := by rw [hto]; simp
        cases ho : ops[i]? with
        | none => exact .inl (still (fr' := fr.finish undef) (fun cs x => by simp [stepG, stepG.exec, G, hm, hto, ho]) (fun _ k cs x => by simp [stepG, stepG.exec, G, hmx, htx, ho, finish_ext k hne]))
        | some o =>
          cases hwt : Region.wanted o (yielded ops fr.tmps) with
          | false => exact .inl (still (fr' := fr.finish undef) (fun cs x => by simp [stepG, stepG.exec, G, hm, hto, ho, hwt]) (fun _ k cs x => by
              have : Region.wanted o (yielded ops (ext k fr).tmps) = false := hwt
              simp [stepG, stepG.exec, G, hmx, htx, ho, this, finish_ext k hne]))
          | true =>
            have hoo : opOk P s o.op = true := hi i (by simp) o ho
            obtain ⟨q1, q2⟩ := ok_op (X := fun _ => False) S fr o hoo
            have e : ∀ cs x, stepG P true (G fr cs) x = stepG.apply P true fr cs none (execOp fr.eval o) x := fun cs x => by
              simp [stepG, stepG.exec, G, hm, hto, ho, hwt, stepG.oper, Frame.oper?, hr]
            have ex : ∀ k cs x, stepG P true (G (ext k fr) cs) x = stepG.apply P true (ext k fr) cs none (execOp fr.eval o) x := fun k cs x => by
              have e1 : Region.wanted o (yielded ops (ext k fr).tmps) = true := hwt
              have e2 : (ext k fr).eval = fr.eval := rfl
              simp [stepG, stepG.exec, G, hmx, htx, ho, e1, stepG.oper, Frame.oper?, hrx, e2]
            rw [e] at hst
            rcases apply_top S h hto q2 q1 hw hst with ⟨fr', a1, a2, a3⟩ | ⟨fr', a1, a2, a3⟩
            · exact .inl ⟨fr', a1, fun cw => (e cw w).trans (a2 cw), fun _ k cw => (ex k cw w).trans (a3 k cw)⟩
            · exact .inr ⟨fr', a1, by simp, fun cw => (e cw w).trans (a2 cw), fun k cw => (ex k cw w).trans (a3 k cw)⟩
    | code c =>
      have hc : codeOk P s c = true := hi
      cases c with
      | skip => exact .inl (go1 l (fun cs x => by simp [stepG, stepG.exec, G, hm, hto]) (fun k cs x => by simp [stepG, stepG.exec, G, ext, hm, hto]))
      | label b => exact .inl (go1 l (fun cs x => by simp [stepG, stepG.exec, G, hm, hto]) (fun k cs x => by simp [stepG, stepG.exec, G, ext, hm, hto]))
      | seq a b => exact .inl (go1 (.code a :: .code b :: l) (fun cs x => by simp [stepG, stepG.exec, G, hm, hto]) (fun k cs x => by simp [stepG, stepG.exec, G, ext, hm, hto]))
      | block id b => exact .inl (go1 (.code b :: .inBlock id :: l) (fun cs x => by simp [stepG, stepG.exec, G, hm, hto]) (fun k cs x => by simp [stepG, stepG.exec, G, ext, hm, hto]))
      | loop b => exact .inl (go1 (.code b :: .inLoop b :: l) (fun cs x => by simp [stepG, stepG.exec, G, hm, hto]) (fun k cs x => by simp [stepG, stepG.exec, G, ext, hm, hto]))
      | scope b => exact .inl (go1 (.code b :: .inScope b :: l) (fun cs x => by simp [stepG, stepG.exec, G, hm, hto]) (fun k cs x => by simp [stepG, stepG.exec, G, ext, hm, hto]))
      | cond c a b =>
        cases hv : fr.eval c with
        | bool t =>
          have hvx : ∀ k, (ext k fr).eval c = .bool t := fun k => hv
          exact .inl (go1 (.code (if t then a else b) :: l) (fun cs x => by simp only [stepG, stepG.exec, G, hm, hto, hv]) (fun k cs x => by simp only [stepG, stepG.exec, G, hmx, htx, hvx]; simp [ext, hm]))
        | _ => exact absurd hst (by simp only [stepG, stepG.exec, G, hm, hto, hv]; intro e; cases e)
      | ret => exact .inl (still (fr' := { fr with mode := .returning }) (fun cs x => by simp [stepG, stepG.exec, G, hm, hto, hr]) (fun _ k cs x => by simp [stepG, stepG.exec, G, ext, hm, hto, hr]))
      | exit id =>
        cases hx : exitTo id l with
        | some l' =>
          have hxx : ∀ k, exitTo id (l ++ k) = some (l' ++ k) := fun k => exitTo_app k hx
          exact .inl (go1 l' (fun cs x => by simp [stepG, stepG.exec, G, hm, hto, hx]) (fun k cs x => by simp [stepG, stepG.exec, G, ext, hm, hto, hxx]))
        | none => exact absurd hst (by simp [stepG, stepG.exec, G, hm, hto, hx, hr])
      | region id ops d =>
        cases d with
        | false => exact .inl (go1 (.inRegion ops (List.range ops.size) :: l) (fun cs x => by simp [stepG, stepG.exec, G, hm, hto]) (fun k cs x => by simp [stepG, stepG.exec, G, ext, hm, hto]))
        | true =>
          have e : ∀ cs x, stepG P true (G fr cs) x = .go (G { fr with todo := .inRegion ops (Region.schedule (P.follows .mixedOrders) ops (x.tape x.drawn (.order fr.fn id))) :: l } cs) { x with drawn := x.drawn + 1 } #[] := fun cs x => by
            simp [stepG, stepG.exec, G, hm, hto, choose, Sem.run, Question.forced, Question.cut]
          have ex : ∀ k cs x, stepG P true (G (ext k fr) cs) x = .go (G { fr with todo := .inRegion ops (Region.schedule (P.follows .mixedOrders) ops (x.tape x.drawn (.order fr.fn id))) :: (l ++ k) } cs) { x with drawn := x.drawn + 1 } #[] := fun k cs x => by
            simp [stepG, stepG.exec, G, ext, hm, hto, choose, Sem.run, Question.forced, Question.cut]
          rw [e] at hst
          cases hst
          exact .inl ⟨_, rfl, fun cw => e cw w, fun _ k cw => ex k cw w⟩
      | rangeFunc => cases hc
      | goto => cases hc
      | refuse => cases hc
    | _ => exact hi.elim
end
end Go.Proofs.YtnojjmkmkelbgaaGreat

/- Runs carried over, 19: a run to the place where a frame is cut off. -/
namespace Go.Proofs.YtnojjmkmkelbgaaGreat
open Go.Conc

/-- The last frame has more to do behind. -/
def extL (k : List Item) : List Frame → List Frame
  | [] => []
  | [r] => [ext k r]
  | a :: b :: t => a :: extL k (b :: t)
theorem extL_app (k : List Item) (c : Frame) (t : List Frame) : ∀ new : List Frame, extL k (new ++ c :: t) = new ++ extL k (c :: t)
  | [] => rfl
  | [a] => rfl
  | a :: b :: n => by
    have := extL_app k c t (b :: n)
    simp only [List.cons_append] at this ⊢
    rw [extL, this]
/-- The goroutine whose frames are these above the base. -/
def gx (k : List Item) (fr : Frame) (seg bw : List Frame) : Goroutine :=
  match seg with
  | [] => G (ext k fr) bw
  | c :: t => G fr (extL k (c :: t) ++ bw)

section
variable {P : Program} {X : Nat → Prop} {s : Nat → Bool} {F : Frame → World → Prop}

theorem gx_step (S : SetOk P s) (k : List Item) {fr : Frame} {seg bw : List Frame} (h : FrOk P s fr) (hg : Going fr seg) (hne : seg = [] → fr.todo ≠ []) (hne' : ∀ c ∈ seg, c.todo ≠ []) {w : World} (hw : Full (fun _ => False) w w)
    {fr' : Frame} {seg' : List Frame} {w' : World} {es : Array Event} (hst : stepG P true (G fr (seg ++ bw)) w = .go (G fr' (seg' ++ bw)) w' es) :
    stepG P true (gx k fr seg bw) w = .go (gx k fr' seg' bw) w' es ∧ ∀ c ∈ seg', c.todo ≠ [] := by
  have gi : ∀ {a b : Frame} {l l' : List Frame}, G a l = G b l' → a = b ∧ l = l' := fun e => ⟨congrArg (·.frame) e, congrArg (·.callers) e⟩
  cases hm : fr.mode with
  | run =>
    rcases top_step S h hm hw hst with ⟨f1, a1, a2, a3⟩ | ⟨f1, a1, a2, a3, a4⟩
    · obtain ⟨rfl, e⟩ := gi a1
      have e := List.append_cancel_right e
      subst e
      refine ⟨?_, hne'⟩
      cases seg' with
      | nil => exact a3 (hne rfl) k bw
      | cons c t => exact a2 _
    · obtain ⟨rfl, e⟩ := gi a1
      rw [show fr :: (seg ++ bw) = (fr :: seg) ++ bw from rfl] at e
      have e := List.append_cancel_right e
      subst e
      refine ⟨?_, fun c hc => (List.mem_cons.1 hc).elim (fun e => e ▸ a2) (hne' c)⟩
      cases seg with
      | nil => exact a4 k bw
      | cons c t => exact a3 _
  | returning =>
    cases seg with
    | nil => rcases hg with hg | hg; · rw [hm] at hg; cases hg
             · exact absurd rfl hg
    | cons c t =>
      obtain ⟨fn, hf⟩ := h.fn
      generalize hu : (results fn fr.tmps).runT P w #[] = ru
      have step : ∀ (c : Frame) (cs : List Frame), stepG P true (G fr (c :: cs)) w = GStep.after (seen P fr.fn ru.2) (match ru.1 with
          | .ok v w => doReturn P true fr (c :: cs) none v w
          | .halt k w => (match k with | .stuck x => .ended (.stuck x (fr.pos P)) w | .unsupported x => .ended (.unsupported x (fr.pos P)) w | _ => .ended (.stuck "" (fr.pos P)) w)) ∨ ∃ o x es, stepG P true (G fr (c :: cs)) w = .ended o x es := fun c cs => by
        match ru, hu with
        | (.ok v u1, eu), hu => exact .inl (by simp only [stepG, G, hm, unwind, h.defers, hf, hu])
        | (.halt k u1, eu), hu => exact .inr (by cases k <;> exact ⟨_, _, _, by simp only [stepG, G, hm, unwind, h.defers, hf, hu, GStep.after]; rfl⟩)
      match ru, hu, step with
      | (.halt k u1, eu), hu, step =>
        exfalso
        rcases step c (t ++ bw) with e | ⟨o, x, es1, e⟩
        · rw [List.cons_append, e] at hst
          cases k <;> (simp only [GStep.after] at hst; cases hst)
        · rw [List.cons_append, e] at hst; cases hst
      | (.ok v u1, eu), hu, step =>
        have go : ∀ (c : Frame) (cs : List Frame), stepG P true (G fr (c :: cs)) w = .go (G (c.finish v) cs) u1 (seen P fr.fn eu ++ #[]) := fun c cs => by
          simp only [stepG, G, hm, unwind, h.defers, hf, hu, doReturn, h.kind, GStep.after]
        rw [List.cons_append, go] at hst
        rw [GStep.go.injEq] at hst
        obtain ⟨e1, rfl, rfl⟩ := hst
        obtain ⟨rfl, e2⟩ := gi e1
        have e3 := List.append_cancel_right e2
        subst e3
        refine ⟨?_, fun x hx => hne' x (by simp [hx])⟩
        cases t with
        | nil =>
          have := go (ext k c) bw
          rw [finish_ext k (hne' c (by simp))] at this
          exact this
        | cons d t => exact go c _
  | panicking ch =>
    cases seg with
    | nil => rcases hg with hg | hg; · rw [hm] at hg; cases hg
             · exact absurd rfl hg
    | cons c t =>
      obtain ⟨fn, hf⟩ := h.fn
      have hcat : fr.catches P = false := by unfold Frame.catches; rw [hf]
      have go : ∀ (c : Frame) (cs : List Frame), stepG P true (G fr (c :: cs)) w = .go (G (c.raise ch) cs) w #[] := fun c cs => by
        simp only [stepG, G, hm, unwind, h.defers, hcat, Bool.false_eq_true, if_false]
      rw [List.cons_append, go] at hst
      rw [GStep.go.injEq] at hst
      obtain ⟨e1, rfl, rfl⟩ := hst
      obtain ⟨rfl, e2⟩ := gi e1
      have e3 := List.append_cancel_right e2
      subst e3
      refine ⟨?_, fun x hx => hne' x (by simp [hx])⟩
      cases t with
      | nil =>
        have := go (ext k c) bw
        rw [raise_ext] at this
        exact this
      | cons d t => exact go c _

/-- Nothing is left to do. -/
abbrev OutE (fr : Frame) : Prop := fr.mode = .run ∧ fr.todo = []
/-- The cut-off frame has come to its end. -/
def AtCut (P : Program) (X : Nat → Prop) (s : Nat → Bool) (F : Frame → World → Prop) (k : List Item) (bw : List Frame) (g : Goroutine) (w : World) : Prop :=
  ∃ fe, g = G (ext k fe) bw ∧ FrOk P s fe ∧ Base X w ∧ OutE fe ∧ ∀ τ d, F fe (pzT X w τ d)

theorem cut_of (S : SetOk P s) {fr : Frame} {w : World} (h : St P X s OutE F fr [] w) (hc : fr.mode ≠ .run ∨ fr.todo = []) (k : List Item) (bw : List Frame) (d : Nat) : AtCut P X s F k bw (gx k fr [] bw) (w.at d) := by
  have key : ∀ τ d, OutE fr ∧ F fr (pzT X w τ d) := fun τ d => by
    obtain ⟨N, fe, ue, hr, hmo, hF⟩ := h.ends τ d
    have rest : ∀ {f : Frame} {N : Nat}, FrOk P s f → f.mode ≠ .run → runN P N (lone f [c0 P] (pzT X w τ d)) = .next (lone fe [c0 P] ue) → f = fe := fun {f N} hf hm hr => by
      have hN := root_last S hf (fun hh => hh.elim hm (fun h => h rfl)) hr
      subst hN
      simp only [runN, Stepped.next.injEq] at hr
      exact (lone_inj hr).1
    simp only [List.nil_append] at hr
    by_cases hm : fr.mode = .run
    · have ht : fr.todo = [] := hc.resolve_left fun h => h hm
      have hstep : step P (lone fr [c0 P] (pzT X w τ d)) = .next (lone { fr with mode := .returning } [c0 P] (pzT X w τ d)) := lone_next (es := #[]) (by simp [stepG, stepG.exec, G, hm, ht, h.top.round])
      cases N with
      | zero =>
        simp only [runN, Stepped.next.injEq] at hr
        obtain ⟨e1, _, e3⟩ := lone_inj hr
        subst e1 e3
        exact ⟨hmo, hF⟩
      | succ N =>
        simp only [runN, hstep] at hr
        have e := rest (mode_ok h.top .returning) (by simp) hr
        rw [← e] at hmo
        exact absurd hmo.1 (by simp)
    · have e := rest h.top hm hr
      rw [← e] at hmo
      exact absurd hmo.1 hm
  exact ⟨fr, rfl, h.top, h.base.at d, (key (fun _ _ => 0) 0).1, fun τ d => (key τ d).2⟩

def BadC (P : Program) (X : Nat → Prop) (s : Nat → Bool) (F : Frame → World → Prop) (k : List Item) (bw : List Frame) (x : Frame × List Frame × World) : Prop :=
  St P X s OutE F x.1 x.2.1 x.2.2 ∧ (∀ c ∈ x.2.1, c.todo ≠ []) ∧ ¬ Run P X (AtCut P X s F k bw) (gx k x.1 x.2.1 bw) x.2.2

theorem badC_next (S : SetOk P s) (hF : ∀ fe u v, Full (fun _ => False) u v → F fe u → F fe v) {k0 : List Item} {bw : List Frame} {x : Frame × List Frame × World} (h : BadC P X s F k0 bw x) :
    (x.2.1 = [] → ¬ OutE x.1) ∧ ∃ (d k : Nat) (y : Frame × List Frame × World), BadC P X s F k0 bw y ∧ y.2.2.tape = x.2.2.tape ∧
      ∀ τ d0, (∀ i q, i < k → τ (d0 + i) q = x.2.2.tape (d + i) q) → step P (lone x.1 (x.2.1 ++ [c0 P]) (pzT X x.2.2 τ d0)) = .next (lone y.1 (y.2.1 ++ [c0 P]) (pzT X y.2.2 τ (d0 + k))) := by
  obtain ⟨hst, hmid, hn⟩ := h
  have hcut : x.2.1 = [] → x.1.mode = .run ∧ x.1.todo ≠ [] := fun e => by
    refine Classical.byContradiction fun hno => hn (.stop fun d => ?_)
    obtain ⟨fr, seg, w⟩ := x
    simp only at e
    subst e
    exact cut_of S hst (Classical.byContradiction fun hh => hno ⟨Classical.byContradiction fun h1 => hh (.inl h1), fun h1 => hh (.inr h1)⟩) k0 bw d
  have hg : Going x.1 x.2.1 := by
    by_cases e : x.2.1 = []
    · exact .inl (hcut e).1
    · exact .inr e
  have hE : x.2.1 = [] → ¬ OutE x.1 := fun e h => (hcut e).2 h.2
  refine ⟨hE, Classical.byContradiction fun hno => hn ?_⟩
  have hs := fun d => step_st S hF hst hg hE bw d
  let fr' := fun d => Classical.choose (hs d)
  let seg' := fun d => Classical.choose (Classical.choose_spec (hs d))
  let w' := fun d => Classical.choose (Classical.choose_spec (Classical.choose_spec (hs d)))
  let es := fun d => Classical.choose (Classical.choose_spec (Classical.choose_spec (Classical.choose_spec (hs d))))
  have sp : ∀ d, ∃ k, stepG P true (G x.1 (x.2.1 ++ bw)) (x.2.2.at d) = .go (G (fr' d) (seg' d ++ bw)) (w' d) (es d) ∧ (∀ e ∈ es d, Fine X e) ∧ St P X s OutE F (fr' d) (seg' d) (w' d) ∧ (w' d).tape = x.2.2.tape ∧ (w' d).drawn = d + k ∧
      ∀ τ d0, (∀ i q, i < k → τ (d0 + i) q = x.2.2.tape (d + i) q) → step P (lone x.1 (x.2.1 ++ [c0 P]) (pzT X x.2.2 τ d0)) = .next (lone (fr' d) (seg' d ++ [c0 P]) (pzT X (w' d) τ (d0 + k))) :=
    fun d => Classical.choose_spec (Classical.choose_spec (Classical.choose_spec (Classical.choose_spec (hs d))))
  have self : ∀ d, Full (fun _ => False) (x.2.2.at d) (x.2.2.at d) := fun d n => ⟨rfl, fun _ h => h.elim, fun _ _ => rfl, fun _ h => h.elim, hst.base.pend, rfl, rfl, fun _ _ _ => rfl⟩
  have gs := fun d => gx_step S k0 hst.top hg (fun e => (hcut e).2) hmid (self d) (sp d).choose_spec.1
  refine .step (by unfold gx; split <;> rfl) (fun d => gx k0 (fr' d) (seg' d) bw) w' es (fun d => (gs d).1) (fun d => (sp d).choose_spec.2.1) (fun d => ?_)
  refine Classical.byContradiction fun hr => hno ?_
  obtain ⟨k, _, _, a3, a4, _, a6⟩ := sp d
  exact ⟨d, k, (fr' d, seg' d, w' d), ⟨a3, (gs d).2, hr⟩, a4, a6⟩

/-- A lone run of a frame that is cut off, carried over to the whole frame. -/
theorem run_to_cut (S : SetOk P s) (hF : ∀ fe u v, Full (fun _ => False) u v → F fe u → F fe v) (k : List Item) (bw : List Frame) {fr : Frame} {w : World} (h : St P X s OutE F fr [] w) : Run P X (AtCut P X s F k bw) (G (ext k fr) bw) w :=
  Classical.byContradiction fun hn => no_chain (B0 := BadC P X s F k bw) (fun _ hx => badC_next S hF hx) ⟨h, by simp, hn⟩ h.ends
end
end Go.Proofs.YtnojjmkmkelbgaaGreat

/- Runs carried over, 20: pieces of a function's text, by what is shown of them alone. -/
namespace Go.Proofs.YtnojjmkmkelbgaaGreat
open Go.Conc

/-- One behind the other. -/
def joinC : List Code → Code → Code
  | [], B => B
  | r :: l, B => .seq r (joinC l B)
def Nest (P : Program) : List Code → (Exit → Act → World → Prop) → Act → World → Prop
  | [], Q => Q .normal
  | r :: l, Q => r.wp P (Exit.then (Nest P l Q) Q)

section
variable {P : Program} {X : Nat → Prop} {s : Nat → Bool}

theorem Run.bind {Stop Stop' : Goroutine → World → Prop} {g : Goroutine} {w : World} (h : Run P X Stop g w) (hk : ∀ g w, Stop g w → Run P X Stop' g w) : Run P X Stop' g w := by
  induction h with
  | stop h => exact hk _ _ (h _)
  | step hr g' w' es hs hf _ ih => exact .step hr g' w' es hs hf ih
theorem Run.mono {Stop Stop' : Goroutine → World → Prop} {g : Goroutine} {w : World} (h : Run P X Stop g w) (hk : ∀ g w, Stop g w → Stop' g w) : Run P X Stop' g w := by
  induction h with
  | stop h => exact .stop fun d => hk _ _ (h d)
  | step hr g' w' es hs hf _ ih => exact .step hr g' w' es hs hf ih
/-- A silent step. -/
theorem Run.one {Stop : Goroutine → World → Prop} {g g' : Goroutine} {w : World} (hr : g.status = .running) (hs : ∀ x, stepG P true g x = .go g' x #[]) (h : Run P X Stop g' w) : Run P X Stop g w :=
  .step hr (fun _ => g') (fun d => w.at d) (fun _ => #[]) (fun d => hs (w.at d)) (fun _ _ he => by simp at he) (fun d => h.at d)

/-- What is held of a world up to its tape. -/
def Held (Q : World → Prop) (u : World) : Prop := ∃ u0, Q u0 ∧ Full (fun _ => False) u0 u
theorem Held.full {Q : World → Prop} {u v : World} (h : Held Q u) (hf : Full (fun _ => False) u v) : Held Q v := let ⟨u0, h1, h2⟩ := h; ⟨u0, h1, h2.trans hf⟩
theorem pz_full {w : World} (hb : Base X w) (τ : Nat → Question → Nat) (d : Nat) : Full (fun _ => False) (pzT X w τ d) (pzT X w τ d) := by
  have hs : Sim X 0 w (pzT X w τ d) := sim_pz hb (fun i q hi => by omega)
  exact fun n => ⟨rfl, fun _ h => h.elim, fun _ _ => rfl, fun _ h => h.elim, hs.pendU, rfl, rfl, fun _ _ _ => rfl⟩
theorem held_of {w : World} (hb : Base X w) {Q : World → Prop} (h : ∀ τ d, Q (pzT X w τ d)) (τ : Nat → Question → Nat) (d : Nat) : Held Q (pzT X w τ d) := ⟨_, h τ d, pz_full hb τ d⟩

/-- A frame of the walk's form. -/
structure FrB (P : Program) (b : Frame) : Prop where
  kind : b.kind = .normal
  fn : ∃ fn, P.funcs[b.fn]? = some fn

theorem FrB.ok {b : Frame} (h : FrB P b) {a : Act} (hd : a.defers = []) {l : List Item} (hl : ∀ i ∈ l, itemOk P s i) : FrOk P s (b.at a l) := ⟨hl, hd, h.kind, rfl, h.fn⟩
theorem ext_at (b : Frame) (a : Act) (l k : List Item) : ext k (b.at a l) = b.at a (l ++ k) := rfl

/-- The state at a stop: the frame with this ahead of it; what is held. -/
def Stands (X : Nat → Prop) (b : Frame) (k : List Item) (bw : List Frame) (Q : Act → World → Prop) (g : Goroutine) (w : World) : Prop :=
  ∃ a, g = G (b.at a k) bw ∧ a.defers = [] ∧ Base X w ∧ ∀ τ d, Held (Q a) (pzT X w τ d)

theorem piece_run (S : SetOk P s) {r : Code} (hr : codeOk P s r = true) {b : Frame} (hb : FrB P b) {a : Act} (hd : a.defers = []) {w : World} (hw : Base X w) {Q : Act → World → Prop}
    (h : ∀ τ d, Held (fun u => r.wp P (fun e a' u' => e = .normal ∧ Q a' u') a u) (pzT X w τ d)) (k : List Item) (bw : List Frame) :
    Run P X (Stands X b k bw Q) (G (b.at a (.code r :: k)) bw) w := by
  have hok : FrOk P s (b.at a [.code r]) := hb.ok hd (by intro i hi; simp at hi; subst hi; exact hr)
  have hst : St P X s OutE (fun fe u => ∃ a', fe = b.at a' [] ∧ Held (Q a') u) (b.at a [.code r]) [] w := by
    refine ⟨hok, by simp, hw, fun τ d => ?_⟩
    obtain ⟨u0, h1, h2⟩ := h τ d
    obtain ⟨e, a', u', ⟨rfl, hq⟩, ⟨N, hN⟩⟩ := h1 b [] [c0 P]
    obtain ⟨ve, q1, q2⟩ := shift S N hok (seg := []) (by simp) h2 hN
    exact ⟨N, b.at a' [], ve, q1, ⟨rfl, rfl⟩, a', rfl, _, hq, q2⟩
  refine (run_to_cut S (fun fe u v hf ⟨a', h1, h3⟩ => ⟨a', h1, h3.full hf⟩) k bw hst).mono fun g w' ⟨fe, h1, h2, h3, h4, h5⟩ => ?_
  obtain ⟨a', e, _⟩ := h5 (fun _ _ => 0) 0
  subst e
  refine ⟨a', h1, h2.defers, h3, fun τ d => ?_⟩
  obtain ⟨a'', e, hq⟩ := h5 τ d
  have e1 : a'.tmps = a''.tmps := congrArg Frame.tmps e
  have e2 : a'.defers = a''.defers := congrArg Frame.defers e
  obtain rfl : a' = a'' := by cases a'; cases a''; simp_all
  exact hq

/-- Pieces, one behind the other. -/
theorem nest_run (S : SetOk P s) {b : Frame} (hb : FrB P b) {Q : Act → World → Prop} (B : Code) (k : List Item) (bw : List Frame) : ∀ (l : List Code), (∀ r ∈ l, codeOk P s r = true) → ∀ {a : Act} {w : World}, a.defers = [] → Base X w →
    (∀ τ d, Held (Nest P l (fun e a' u' => e = .normal ∧ Q a' u') a) (pzT X w τ d)) →
    Run P X (Stands X b (.code B :: k) bw Q) (G (b.at a (.code (joinC l B) :: k)) bw) w
  | [], _, a, w, hd, hw, h => .stop fun d => ⟨a, rfl, hd, hw.at d, fun τ d => let ⟨u0, h1, h2⟩ := h τ d; ⟨u0, h1.2, h2⟩⟩
  | r :: l, hl, a, w, hd, hw, h => by
    refine .one rfl (fun x => stepG_seq) ?_
    refine (piece_run S (hl r (by simp)) hb hd hw (Q := fun a' u => Nest P l (fun e a' u' => e = .normal ∧ Q a' u') a' u) (fun τ d => ?_) (.code (joinC l B) :: k) bw).bind fun g w' ⟨a', h1, h2, h3, h4⟩ => ?_
    · obtain ⟨u0, h1, h2⟩ := h τ d
      exact ⟨u0, wp_mono h1 (fun e a' u' hq => by
        cases e with
        | normal => exact ⟨rfl, hq⟩
        | _ => exact absurd hq.1 (by simp)), h2⟩
    · subst h1
      exact nest_run S hb B k bw l (fun r hr => hl r (by simp [hr])) h2 h3 h4
end
end Go.Proofs.YtnojjmkmkelbgaaGreat

/- Runs carried over, 21: to the end of the run. -/
namespace Go.Proofs.YtnojjmkmkelbgaaGreat
open Go.Conc
open Go.ConcN (sumTo)

/-- The run ends well from here. -/
def EndsG (P : Program) (Post : Value → World → Prop) (m : Machine) (t : Trace) : Prop :=
  ∃ N last o w' t', runNT P (N + 1) m t = (.ended o w', t') ∧ runN P N m = .next last ∧ step P last = .ended o w' ∧ Go.Conc.Good P Post last o w' t'

section
variable {P : Program} {X : Nat → Prop} {Shun : Loc → Prop} {Post : Value → World → Prop}

theorem EndsG.of_run {N : Nat} {m m' : Machine} {t t' : Trace} (h : runNT P N m t = (.next m', t')) (k : EndsG P Post m' t') : EndsG P Post m t := by
  obtain ⟨K, last, o, w', t'', e1, e2, e3, e4⟩ := k
  refine ⟨N + K, last, o, w', t'', ?_, ?_, e3, e4⟩
  · rw [Nat.add_assoc, runNT_add, h]; exact e1
  · rw [runN_add, ← runNT_fst P _ _ #[]]
    have := runNT_fst P N m t
    rw [h] at this
    rw [runNT_fst, ← this]
    exact e2

/-- Goroutine 0 stands here beside leavers. -/
structure Here (P : Program) (Shun : Loc → Prop) (gs : Array Goroutine) (a : Goroutine) (t : Trace) : Prop where
  zero : gs[0]? = some a
  leave : ∃ q, Leavers P t gs q
  fr : ∃ B, Fr Shun B t

theorem ends_run (hX : ∀ l, Shun l → ∃ a, l = .cell a ∧ X a.block) {Stop : Goroutine → World → Prop} {gs : Array Goroutine} {a : Goroutine} {w : World} {sl : Option (Nat × Nat)} {t : Trace} (hh : Here P Shun gs a t) (h : Run P X Stop a w)
    (k : ∀ gs' a' w' sl' t', Here P Shun gs' a' t' → Stop a' w' → EndsG P Post (crowd gs' w' sl') t') : EndsG P Post (crowd gs w sl) t := by
  obtain ⟨q, hL⟩ := hh.leave
  obtain ⟨B, hF⟩ := hh.fr
  obtain ⟨N, gs', a', w', sl', t', q', B', hr, _, h0, hS, hL', hF', _⟩ := run_beside hX h _ gs w.drawn sl t q B (Nat.le_refl _) hh.zero hL hF
  exact EndsG.of_run hr (k gs' a' w' sl' t' ⟨h0, ⟨q', hL'⟩, ⟨B', hF'⟩⟩ hS)

/-- .. by a walk whose steps' entries are well. -/
theorem ends_goes {D : World → World → Array Event → Prop} {B0 : Nat} (hD : ∀ w w' es, D w w' es → ∀ e ∈ es, EvL Shun B0 e) {Stop : Goroutine → World → Prop} :
    ∀ (n M : Nat) {gs : Array Goroutine} {a : Goroutine} {w : World} {sl : Option (Nat × Nat)} {t : Trace} {q : Nat → Nat} {B : Nat}, sumTo gs.size q ≤ M → gs[0]? = some a → Leavers P t gs q → Fr Shun B t → B0 ≤ B → Goes P true AtRel D Stop n a w →
      (∀ gs' a' w' sl' t', Here P Shun gs' a' t' → Stop a' w' → EndsG P Post (crowd gs' w' sl') t') → EndsG P Post (crowd gs w sl) t := by
  intro n
  induction n with
  | zero => exact fun M gs a w sl t q B _ h0 hL hF _ hG k => k gs a w sl t ⟨h0, ⟨q, hL⟩, ⟨B, hF⟩⟩ (hG w (atRel_refl w))
  | succ n ihn =>
    intro M
    induction M with
    | zero =>
      intro gs a w sl t q B hM h0 hL hF hB hG k
      rcases hG with hstop | ⟨hrun, hstep⟩
      · exact k gs a w sl t ⟨h0, ⟨q, hL⟩, ⟨B, hF⟩⟩ (hstop w (atRel_refl w))
      obtain ⟨d, sl', h1 | ⟨gs1, t1, q1, _, _, _, _, _, hlt⟩⟩ := beside_one h0 hrun hL hF w sl
      · have hs := hstep (w.at d) ⟨d, rfl⟩
        cases hgo : stepG P true a (w.at d) with
        | go a' w' es =>
          rw [hgo, goes_go] at hs
          obtain ⟨gs1, t1, r1, z1, a1, L1, P1⟩ := h1 _ _ _ B hgo (fun e he => by have := hD _ _ _ hs.1 e he; exact ⟨this.1, this.2.1, this.2.2.1, MemAct.low_mono hB this.2.2.2⟩) (Nat.le_refl _)
          exact EndsG.of_run r1 (ihn _ (Nat.le_refl _) a1 L1 P1 hB hs.2 k)
        | _ => rw [hgo] at hs; exact hs.elim
      · omega
    | succ M ihM =>
      intro gs a w sl t q B hM h0 hL hF hB hG k
      rcases hG with hstop | ⟨hrun, hstep⟩
      · exact k gs a w sl t ⟨h0, ⟨q, hL⟩, ⟨B, hF⟩⟩ (hstop w (atRel_refl w))
      obtain ⟨d, sl', h1 | ⟨gs1, t1, q1, r1, z1, a1, L1, P1, hlt⟩⟩ := beside_one h0 hrun hL hF w sl
      · have hs := hstep (w.at d) ⟨d, rfl⟩
        cases hgo : stepG P true a (w.at d) with
        | go a' w' es =>
          rw [hgo, goes_go] at hs
          obtain ⟨gs1, t1, r1, z1, a1, L1, P1⟩ := h1 _ _ _ B hgo (fun e he => by have := hD _ _ _ hs.1 e he; exact ⟨this.1, this.2.1, this.2.2.1, MemAct.low_mono hB this.2.2.2⟩) (Nat.le_refl _)
          exact EndsG.of_run r1 (ihn _ (Nat.le_refl _) a1 L1 P1 hB hs.2 k)
        | _ => rw [hgo] at hs; exact hs.elim
      · exact EndsG.of_run r1 (ihM (by rw [z1]; omega) a1 L1 P1 hB (Goes.rely atRel_trans (.inr ⟨hrun, hstep⟩) ⟨d, rfl⟩) k)

theorem ends_walk {D : World → World → Array Event → Prop} {B0 : Nat} (hD : ∀ w w' es, D w w' es → ∀ e ∈ es, EvL Shun B0 e) {Stop : Goroutine → World → Prop} {n : Nat} {gs : Array Goroutine} {a : Goroutine} {w : World} {sl : Option (Nat × Nat)} {t : Trace} (hh : Here P Shun gs a t) (hG : Goes P true AtRel D Stop n a w)
    (k : ∀ gs' a' w' sl' t', Here P Shun gs' a' t' → Stop a' w' → EndsG P Post (crowd gs' w' sl') t') : EndsG P Post (crowd gs w sl) t := by
  obtain ⟨q, hL⟩ := hh.leave
  obtain ⟨B, hF⟩ := hh.fr
  exact ends_goes hD n _ (Nat.le_refl _) hh.zero hL (hF.mono (Nat.le_max_left B B0)) (Nat.le_max_right B B0) hG k

/-- The last step. -/
theorem ends_last {gs : Array Goroutine} {a : Goroutine} {w : World} {sl : Option (Nat × Nat)} {t : Trace} (hh : Here P Shun gs a t) (hr : a.status = .running) {v : Value} (hs : ∀ x : World, stepG P true a x = .ended (.done v) x #[]) (hp : ∀ d, Post v (w.at d)) : EndsG P Post (crowd gs w sl) t := by
  obtain ⟨q, hL⟩ := hh.leave
  obtain ⟨B, hF⟩ := hh.fr
  exact beside_ends (P := P) (Post := Post) (sl := sl) (D := fun _ _ _ => False) (fun _ _ _ h => h.elim) hh.zero hL hF.past (n := 0) (fun w₁ ⟨d, hd⟩ => by subst hd; exact ⟨hr, v, #[], hs _, by simp, hp d⟩)
end
end Go.Proofs.YtnojjmkmkelbgaaGreat

/- Runs carried over, 22: the rest of a function, and a call, to the caller. -/
namespace Go.Proofs.YtnojjmkmkelbgaaGreat
open Go.Conc

section
variable {P : Program} {X : Nat → Prop} {s : Nat → Bool}

/-- Back at the caller. -/
def Back (X : Nat → Prop) (c : Frame) (cs : List Frame) (R : Value → World → Prop) (g : Goroutine) (w : World) : Prop :=
  ∃ v, g = G (c.finish v) cs ∧ Base X w ∧ ∀ τ d, Held (R v) (pzT X w τ d)

theorem back_of {w : World} {R : World → Value → World → Prop} {c : Frame} {cs : List Frame} {g : Goroutine} {w' : World} (h : Left P X s (Told P X w R) (c :: cs) g w') :
    Run P X (Back X c cs fun v u => ∃ τ d, R (pzT X w τ d) v u) g w' := by
  have hr : g.status = .running := by obtain ⟨fe, rfl, _⟩ := h; rfl
  obtain ⟨v, h1, h2, h3⟩ := left_ret h
  refine .step hr (fun _ => G (c.finish v) cs) (fun d => w'.at d) (fun d => (h1 d).choose) (fun d => (h1 d).choose_spec.1) (fun d => (h1 d).choose_spec.2) (fun d => .stop fun d' => ⟨v, rfl, (h2.at d).at d', fun τ d'' => ?_⟩)
  obtain ⟨τ0, d0, u0, h4, h5⟩ := h3 τ d''
  exact ⟨u0, ⟨τ0, d0, h4⟩, h5⟩

/-- A call, by its contract, to the caller. -/
theorem call_back (S : SetOk P s) {f : FuncId} (hf : s f = true) {args : Array Value} {w : World} (hb : Base X w) {R : World → Value → World → Prop}
    (hc : ∀ τ d, Calls P f args (pzT X w τ d) fun e u' => ∃ v, e = .returned v ∧ R (pzT X w τ d) v u') (c : Frame) (cs : List Frame) :
    Run P X (Back X c cs fun v u => ∃ τ d, R (pzT X w τ d) v u) (G (Frame.enter P f args .normal) (c :: cs)) w :=
  (calls_run S hf hb hc (c :: cs)).bind fun _ _ h => back_of h

/-- The rest of a function's text, to the caller. -/
theorem tail_back (S : SetOk P s) {b : Frame} (hb : FrB P b) {a : Act} (hd : a.defers = []) {r : Code} (hr : codeOk P s r = true) {fn : Func} (hf : P.funcs[b.fn]? = some fn) {w : World} (hw : Base X w) {R : Value → World → Prop}
    (h : ∀ τ d, Held (fun u => r.wp P (bodyPost P fn fun e u' => ∃ v, e = .returned v ∧ R v u') a u) (pzT X w τ d)) (c : Frame) (cs : List Frame) :
    Run P X (Back X c cs R) (G (b.at a [.code r]) (c :: cs)) w := by
  have hok : FrOk P s (b.at a [.code r]) := hb.ok hd (by intro i hi; simp at hi; subst hi; exact hr)
  have hst : St P X s Rtn (Told P X w fun _ => R) (b.at a [.code r]) [] w := by
    refine ⟨hok, by simp, hw, fun τ d => ?_⟩
    obtain ⟨u0, h1, h2⟩ := h τ d
    obtain ⟨e, a', u', hq, harr⟩ := h1 b [] [c0 P]
    have go : ∀ {N : Nat} {fe : Frame} {u1 : World} {v : Value}, runN P N (lone (b.at a [.code r]) ([] ++ [c0 P]) u0) = .next (lone fe [c0 P] u1) → fe.leaving P u1 (.returned v) → R v u1 →
        ∃ N fe ue, runN P N (lone (b.at a [.code r]) ([] ++ [c0 P]) (pzT X w τ d)) = .next (lone fe [c0 P] ue) ∧ Rtn fe ∧ Told P X w (fun _ => R) fe ue := fun {N fe u1 v} hN hl hR => by
      obtain ⟨ve, q1, q2⟩ := shift S N hok (seg := []) (by simp) h2 hN
      exact ⟨N, fe, ve, q1, hl.1, fun _ _ => 0, 0, u1, v, hR, hl, q2⟩
    cases e with
    | normal =>
      obtain ⟨hd', v, hres, v', e1, hR⟩ := hq
      cases e1
      obtain ⟨N, hN⟩ := Steps.trans harr (.one step_end)
      exact go hN ⟨rfl, hd', hb.kind, fn, hf, hres⟩ hR
    | ret =>
      obtain ⟨hd', v, hres, v', e1, hR⟩ := hq
      cases e1
      obtain ⟨todo, N, hN⟩ := harr
      exact go hN ⟨rfl, hd', hb.kind, fn, hf, hres⟩ hR
    | exit id => exact hq.elim
    | goto l => exact hq.elim
    | panic ch => obtain ⟨_, v, e1, _⟩ := hq; cases e1
    | outgrown => obtain ⟨v, e1, _⟩ := hq; cases e1
  exact (run_of_st S told_full (c :: cs) hst).bind fun _ _ h => (back_of h).mono fun g w' ⟨v, h1, h2, h3⟩ => ⟨v, h1, h2, fun τ d => let ⟨u0, ⟨_, _, q1⟩, q2⟩ := h3 τ d; ⟨u0, q1, q2⟩⟩
end
end Go.Proofs.YtnojjmkmkelbgaaGreat

/- Runs carried over, 23: what is held of an emptied world; a call that goes. -/
namespace Go.Proofs.YtnojjmkmkelbgaaGreat
open Go.Conc Go.RowKit

section
variable {P : Program} {X : Nat → Prop}

theorem full_eq {u v : World} (h : Full (fun _ => False) u v) : v = { u with tape := v.tape, drawn := v.drawn } := by
  have h1 := (h 0).eq_pz
  have h2 : (pz (fun _ => False) u).heap = u.heap := by
    apply Array.ext_getElem?
    intro b
    rw [pz_get]
    cases u.heap[b]? with
    | none => rfl
    | some o => simp [pzObj]
  rw [h1]
  simp only [pzT]
  rw [World.mk.injEq]
  exact ⟨h2, rfl, rfl, rfl, rfl⟩
theorem pz_size (W : World) (τ : Nat → Question → Nat) (d : Nat) : (pzT X W τ d).heap.size = W.heap.size := by simp [pzT, pz]
theorem pz_cell {W : World} {τ : Nat → Question → Nat} {d : Nat} {a : Addr} {v : Value} (h : (pzT X W τ d).cell? a = some v) : W.cell? a = some v ∧ ¬ X a.block := by
  unfold World.cell? at h ⊢
  have e : (pzT X W τ d).heap[a.block]? = (W.heap[a.block]?).map (pzObj X a.block) := pz_get W a.block
  rw [e] at h
  by_cases hx : X a.block
  · cases ho : W.heap[a.block]? with
    | none => rw [ho] at h; simp at h
    | some o => rw [ho] at h; cases o <;> simp [pzObj, hx] at h
  · refine ⟨?_, hx⟩
    cases ho : W.heap[a.block]? with
    | none => rw [ho] at h; simp at h
    | some o => rw [ho] at h; simpa [pzObj, hx] using h

/-- Of no tape. -/
def Tapeless (Q : World → Prop) : Prop := ∀ u τ d, Q u → Q { u with tape := τ, drawn := d }
theorem Held.out {Q : World → Prop} (hQ : Tapeless Q) {u : World} (h : Held Q u) : Q u := by
  obtain ⟨u0, h1, h2⟩ := h
  rw [full_eq h2]
  exact hQ _ _ _ h1
theorem below_held {X' : Nat → Prop} {W w' : World} {B : Nat} {Q : World → Prop} (hQ : Tapeless Q) {τ : Nat → Question → Nat} {d : Nat} (h : Held (fun u => ∃ τ d, Q u ∧ Below B (pzT X W τ d) u) (pzT X' w' τ d)) : Q (pzT X' w' τ d) ∧ Below B (pzT X W τ d) (pzT X' w' τ d) := by
  obtain ⟨u0, ⟨τ0, d0, h1, h2⟩, h3⟩ := h
  have e := full_eq h3
  refine ⟨by rw [e]; exact hQ _ _ _ h1, ?_⟩
  have e1 : (pzT X' w' τ d).heap = u0.heap := by rw [e]
  have e2 : (pzT X' w' τ d).os = u0.os := by rw [e]
  have e3 : (pzT X' w' τ d).output = u0.output := by rw [e]
  exact ⟨e2.trans h2.os, rfl, e3.trans h2.output, by rw [e1]; exact h2.size, fun k hk => by rw [e1]; exact h2.block k hk⟩
theorem below_pz {X' : Nat → Prop} {W w' : World} {B : Nat} (os : w'.os = W.os) (out : w'.output = W.output) (size : W.heap.size ≤ w'.heap.size) (low : ∀ b, b < B → w'.heap[b]? = W.heap[b]?) (hX : ∀ b, b < B → (X' b ↔ X b)) (τ : Nat → Question → Nat) (d : Nat) : Below B (pzT X W τ d) (pzT X' w' τ d) := by
  refine ⟨os, rfl, out, by rw [pz_size, pz_size]; exact size, fun k hk => ?_⟩
  show (pz X' w').heap[k]? = (pz X W).heap[k]?
  rw [pz_get, pz_get, low k hk]
  cases W.heap[k]? with
  | none => rfl
  | some o =>
    by_cases h : X k
    · have h' := (hX k hk).2 h
      simp [pzObj, h, h']
    · have h' : ¬ X' k := mt (hX k hk).1 h
      simp [pzObj, h, h']

/-- Piece by piece. -/
theorem nest_k {r : Code} {l : List Code} {Q : Exit → Act → World → Prop} {a : Act} {w : World} (h : ∀ K : Act → World → Prop, (∀ a w, Nest P l Q a w → K a w) → r.wp P (Exit.then K Q) a w) : Nest P (r :: l) Q a w := h _ fun _ _ h => h
/-- Pieces, the last of them one within. -/
theorem nest_in {s : Nat → Bool} (S : SetOk P s) {b : Frame} (hb : FrB P b) {Q : Act → World → Prop} (r c B : Code) (hr : codeOk P s r = true) (k : List Item) (bw : List Frame) : ∀ (l : List Code), (∀ r ∈ l, codeOk P s r = true) → ∀ {a : Act} {w : World}, a.defers = [] → Base X w →
    (∀ τ d, Held (Nest P (l ++ [r]) (fun e a' u' => e = .normal ∧ Q a' u') a) (pzT X w τ d)) →
    Run P X (Stands X b (.code c :: .code B :: k) bw Q) (G (b.at a (.code (joinC l (.seq (.seq r c) B)) :: k)) bw) w
  | [], _, a, w, hd, hw, h => by
    refine .one rfl (fun x => stepG_seq) (.one rfl (fun x => stepG_seq) ?_)
    refine piece_run S hr hb hd hw (fun τ d => ?_) (.code c :: .code B :: k) bw
    obtain ⟨u0, h1, h2⟩ := h τ d
    exact ⟨u0, wp_mono h1 (fun e a' u' hq => by
      cases e with
      | normal => exact hq
      | _ => exact absurd hq.1 (by simp)), h2⟩
  | r' :: l, hl, a, w, hd, hw, h => by
    refine .one rfl (fun x => stepG_seq) ?_
    refine (piece_run S (hl r' (by simp)) hb hd hw (Q := fun a' u => Nest P (l ++ [r]) (fun e a' u' => e = .normal ∧ Q a' u') a' u) (fun τ d => ?_) (.code (joinC l (.seq (.seq r c) B)) :: k) bw).bind fun g w' ⟨a', h1, h2, h3, h4⟩ => ?_
    · obtain ⟨u0, h1, h2⟩ := h τ d
      exact ⟨u0, wp_mono h1 (fun e a' u' hq => by
        cases e with
        | normal => exact ⟨rfl, hq⟩
        | _ => exact absurd hq.1 (by simp)), h2⟩
    · subst h1
      exact nest_in S hb r c B hr k bw l (fun r hr => hl r (by simp [hr])) h2 h3 h4
/-- Normally, and so that it holds. -/
def Only (Q : Act → World → Prop) : Exit → Act → World → Prop
  | .normal, a, u => Q a u
  | _, _, _ => False
theorem nest_only {Q : Act → World → Prop} : ∀ {l : List Code} {a : Act} {w : World}, Nest P l (Only Q) a w → Nest P l (fun e a u => e = .normal ∧ Q a u) a w
  | [], _, _, h => ⟨rfl, h⟩
  | _ :: _, _, _, h => wp_mono h fun e _ _ hq => by
    cases e with
    | normal => exact nest_only hq
    | _ => exact hq.elim
/-- Who is shunned lies in the emptied blocks. -/
def ShIn (Shun : Loc → Prop) (X : Nat → Prop) : Prop := ∀ l, Shun l → ∃ a, l = .cell a ∧ X a.block
/-- A call that may go, in an emptied world W: its answer, what is held behind it; what lies low stays. -/
def GCalls (P : Program) (f : FuncId) (args : Array Value) (X : Nat → Prop) (Shun : Loc → Prop) (W : World) (R : Value → World → Prop) : Prop :=
  ∀ (Post : Value → World → Prop) (c : Frame) (cs : List Frame) (gs : Array Goroutine) (sl : Option (Nat × Nat)) (t : Trace), Here P Shun gs (G (Frame.enter P f args .normal) (c :: cs)) t →
    (∀ X' Shun' gs' w' sl' t' v, ShIn Shun' X' → (∀ b, X' b → X b ∨ W.heap.size ≤ b) → Here P Shun' gs' (G (c.finish v) cs) t' → Base X' w' → (∀ τ d, R v (pzT X' w' τ d) ∧ Below W.heap.size (pzT X W τ d) (pzT X' w' τ d)) → EndsG P Post (crowd gs' w' sl') t') →
    EndsG P Post (crowd gs W sl) t
end
end Go.Proofs.YtnojjmkmkelbgaaGreat

/- From a good run at every shaped start to a row of a call that starts goroutines. -/
namespace Go.Proofs.YtnojjmkmkelbgaaGreat
open Go.Conc

theorem leaving_of {H : Type} {enc : TypeId × Value → H} {C : Checked} {os : Os} {f : FuncId} {fn : Func} {s : ChangeSpec} {conds : List PathCond}
    (own : ownKnob C.prog.godebug = none) (started : os.Started) (hfn : C.prog.funcs[f]? = some fn)
    (witness : ∃ (w : World) (tape : Tape) (i : Input), w.os = os ∧ (w.forCall tape i).Shaped C.prog ∧ i.vars = [] ∧ Input.okWide C.prog (w.forCall tape i) .any w.heap.size f i ∧
      s.pre6 enc C.prog fn conds false (w.forCall tape i).memory i.args ∧ ({} : Assume).holds C.prog (lone (Frame.enter C.prog f i.args .normal) [] (w.forCall tape i)))
    (runs : ∀ (W : World) (base : Nat) (args : Array Value) (ds gs : List (DataW H)) (before : List MemPlace), W.ShapedOpen C.prog →
      (∀ (j : Nat) t v, fn.params[j]? = some t → args[j]? = some v → Value.okWide C.prog W .any base t v) → DataW.Whole enc C.prog fn.params.toList s.vars false W args.toList ds gs before →
      EndsG C.prog (fun v W' => s.post enc C.prog fn false true false false W args v W') (crowd #[G (Frame.enter C.prog f args .normal) []] W none) #[]) :
    ReturnsInLeavingWide {} C os f .any (s.pre6 enc C.prog fn conds false) (s.post enc C.prog fn false true false false) := by
  refine returnsInLeavingWide_of_good own started witness fun w tape i _ hsh _ hok hpre _ => ?_
  obtain ⟨_, _, _, fn', hfn', _, _, _, _, hval⟩ := hok
  obtain rfl : fn' = fn := Option.some.inj (hfn'.symm.trans hfn)
  obtain ⟨⟨ds, gs, before, hw, _⟩, _⟩ := hpre
  obtain ⟨M, last, o, w', t', h1, h2, h3, h4⟩ := runs (w.forCall tape i) w.heap.size i.args ds gs before hsh hval (DataW.Whole.of_heap (by rfl) hw)
  exact ⟨M, last, o, w', t', h1, h2, h3, h4.mono fun v hp => ChangeSpec.post_blind hp⟩

theorem globals_size : Tryz.prog.globals.size = gN := by kernel_rfl
theorem globals_rows : ((List.range gN).all fun g => (((begin Tryz.prog (fun _ _ => 0) default).world.heap[g]?).bind Obj.row?).isSome) = true := by kernel_rfl
/-- No package-level variable waits. -/
theorem none_waits {W : World} (h : W.ShapedOpen Tryz.prog) (b : Nat) (c : Array Value) (t : TypeId) (hb : W.heap[b]? = some (Obj.pending c t)) : gN ≤ b := by
  refine Nat.le_of_not_lt fun hlt => ?_
  have h1 := List.all_eq_true.1 globals_rows b (List.mem_range.2 hlt)
  obtain ⟨⟨zero, e⟩, hr⟩ := Option.isSome_iff_exists.1 h1
  obtain ⟨cs, hc, _⟩ := h.1 b zero e (by rw [globals_size]; exact hlt) hr
  rw [hc] at hb
  cases hb
end Go.Proofs.YtnojjmkmkelbgaaGreat

/- Drawing for the share: names and lists of drawn batches are short. -/
namespace Go.Proofs.YtnojjmkmkelbgaaGreat
open Go.RowKit

/-- Names and lists of drawn batches are short. -/
def Psz (ps : List Bv) : Prop := ∀ p ∈ ps, p.1.nm.size ≤ maxLen ∧ p.1.has.length ≤ 40 ∧ p.1.needs.length ≤ 40 ∧ (∀ s ∈ p.1.has, s.size ≤ maxLen) ∧ ∀ s ∈ p.1.needs, s.size ≤ maxLen
theorem Psz.snoc {ps : List Bv} (h : Psz ps) {p : Bv} (h1 : p.1.nm.size ≤ maxLen) (h2 : p.1.has.length ≤ 40) (h3 : p.1.needs.length ≤ 40) (h4 : ∀ s ∈ p.1.has, s.size ≤ maxLen) (h5 : ∀ s ∈ p.1.needs, s.size ≤ maxLen) : Psz (ps ++ [p]) := fun x hx => by
  rcases List.mem_append.1 hx with hx | hx
  · exact h x hx
  · obtain rfl : x = p := by simpa using hx
    exact ⟨h1, h2, h3, h4, h5⟩
end Go.Proofs.YtnojjmkmkelbgaaGreat

/- The program's walk of ShareFits (chapter 12). -/
namespace Go.Proofs.YtnojjmkmkelbgaaGreat
open Go.RowKit

/-- The table says who is gone. -/
def GoneIs (ts : List Tr) (gone : List ByteArray) : Prop := ∀ (i : Nat) (p : Tr), ts[i]? = some p → p.2 = memS gone p.1.nm
theorem memS_snoc (l : List ByteArray) (s t : ByteArray) : memS (l ++ [s]) t = (memS l t || (s.toList == t.toList)) := by simp [memS]
theorem gone_step {bs : List Ba} (ha : Asc (nms bs)) {ts : List Tr} (h : ts.map (·.1) = bs) {gone : List ByteArray} (hG : GoneIs ts gone) {n : Nat} {p : Tr} (hp : ts[n]? = some p) : GoneIs (ts.set n (p.1, true)) (gone ++ [p.1.nm]) := fun i q hq => by
  rw [memS_snoc]
  by_cases e : n = i
  · subst e
    rw [List.getElem?_set, if_pos rfl, if_pos (List.getElem?_eq_some_iff.1 hp).1] at hq
    obtain rfl := Option.some.inj hq
    simp
  · rw [List.getElem?_set, if_neg e] at hq
    rw [hG i q hq]
    have : (p.1.nm.toList == q.1.nm.toList) = false := by
      rw [← Bool.not_eq_true, beq_iff_eq]
      intro h1
      refine e (asc_ne ha (a := p.1.nm) ?_ ?_)
      · rw [nms, List.getElem?_map, map_at h hp]; rfl
      · rw [nms, List.getElem?_map, map_at h hq, toL_eq h1]; rfl
    rw [this, Bool.or_false]
theorem set_fst {bs : List Ba} {ts : List Tr} (h : ts.map (·.1) = bs) {n : Nat} {p : Tr} (hp : ts[n]? = some p) : (ts.set n (p.1, true)).map (·.1) = bs := by
  rw [List.map_set, h]
  have := map_at h hp
  obtain ⟨hn, e⟩ := List.getElem?_eq_some_iff.1 this
  show bs.set n p.1 = bs
  rw [← e, List.set_getElem_self]
theorem row_at {bs : List Ba} {ts : List Tr} (h : ts.map (·.1) = bs) {n : Nat} (hn : n < bs.length) : ∃ p, ts[n]? = some p ∧ p.1 = bs[n] := by
  have hl : n < ts.length := by rw [← h] at hn; simpa using hn
  refine ⟨ts[n], List.getElem?_eq_getElem hl, ?_⟩
  have := map_at h (List.getElem?_eq_getElem hl)
  rw [List.getElem?_eq_getElem hn] at this
  exact (Option.some.inj this).symm
theorem gone_none (bs : List Ba) (k : Nat) : GoneIs (ts0 bs k) [] := fun i p hp => by
  rw [ts0, List.getElem?_map, Option.map_eq_some_iff] at hp
  obtain ⟨x, _, rfl⟩ := hp
  rfl
end Go.Proofs.YtnojjmkmkelbgaaGreat

/- The program's first that can (chapter 12). -/
namespace Go.Proofs.YtnojjmkmkelbgaaGreat
open Go.RowKit

theorem good_tab {b : Bk} (hok : BookOk b) {ts : List Tr} (h : ts.map (·.1) = b.bs) {gone : List ByteArray} (hG : GoneIs ts gone) {a : Nat} {p : Tr} (hp : ts[a]? = some p) :
    (!p.2 && decide (bitsN b.things (memS p.1.needs) &&& (18446744073709551615 - (bitsN b.things (freeL ts) + bitsN b.things (memS p.1.has))) = 0)) = true ↔ Good b.bs gone a := by
  have hb := map_at h hp
  rw [Bool.and_eq_true, Bool.not_eq_true', decide_eq_true_eq]
  constructor
  · rintro ⟨h1, h2⟩
    exact ⟨p.1, hb, by rw [← hG a p hp]; exact h1, (can_tab hok h hG hp h1).1 h2⟩
  · rintro ⟨x, hx, h1, h2⟩
    rw [hb] at hx
    obtain rfl := Option.some.inj hx
    have h3 : p.2 = false := by rw [hG a p hp]; exact h1
    exact ⟨h3, (can_tab hok h hG hp h3).2 h2⟩

set_option maxHeartbeats 2000000 in
theorem first_any (tb : Nat) (b : Bk) (ts : List Tr) (gone : List ByteArray) (w : World) (h : Tab w tb b.things ts) (hok : BookOk b) (hm : ts.map (·.1) = b.bs) (hG : GoneIs ts gone) :
    Calls Tryz.prog 63 #[.pointer (some ⟨tb, 0, none⟩)] w fun e w' => ((∃ k : Nat, e = .returned (.tuple #[.int .i64 k, .bool true]) ∧ NextIs b.bs gone (k : Int)) ∨ (e = .returned (.tuple #[.int .i64 0, .bool false]) ∧ NextIs b.bs gone (-1))) ∧ Below w.heap.size w w' := by
  have hT := h
  obtain ⟨rv, hC, hown⟩ := h
  have h8 := hok.1.1
  have hlb : ts.length = b.bs.length := by rw [← hm]; simp
  have h5 : ts.length ≤ 5 := by have := hok.2.1; omega
  have Hlb : Hid (ts.length = b.bs.length) := hlb
  have HG : Hid (∀ (a : Nat) (p : Tr), ts[a]? = some p → ((!p.2 && decide (bitsN b.things (memS p.1.needs) &&& (18446744073709551615 - (bitsN b.things (freeL ts) + bitsN b.things (memS p.1.has))) = 0)) = true ↔ Good b.bs gone a)) := fun a p hp => good_tab hok hm hG hp
  obtain ⟨rva, rvc, rfl⟩ : ∃ a c, rv = .slice a ts.length c := by
    rcases hown.2 with ⟨h0, h1⟩ | ⟨g, cap, _, hv, _⟩
    · exact ⟨none, 0, by rw [h0, h1]⟩
    · exact ⟨_, cap, hv⟩
  obtain ⟨t0, t1⟩ := hC.c2'
  clear hC hown hlb hok hm hG
  go_enter Tryz.func63, Tryz.ntmps63
  go_wp2_with fail
  go_loopw [4, 10] (fun _ i w' => ∃ k : Nat, k ≤ ts.length ∧ i = .int .i64 k ∧ (∀ j, j < k → ¬ Good b.bs gone j) ∧ Below w.heap.size w w') (fun _ i _ => ts.length - (intOf i).toNat)
  case atStart => exact ⟨0, by omega, rfl, fun j hj => by omega, Below.refl _ _⟩
  case round =>
    obtain ⟨k, hk, rfl, hal, hB⟩ := hrel
    have Hal : Hid (∀ j, j < k → ¬ Good b.bs gone j) := hal
    clear hal
    by_cases hp : k < ts.length
    · have hpk := List.getElem?_eq_getElem hp
      have HI := HG.out k _ hpk
      have HI' : Hid ((!(ts[k]).2 && decide (bitsN b.things (memS (ts[k]).1.needs) &&& (18446744073709551615 - (bitsN b.things (freeL ts) + bitsN b.things (memS (ts[k]).1.has))) = 0)) = true ↔ Good b.bs gone k) := HI
      clear HI
      go_wp2_with fail
      refine (can_any tb k b.things ts _ _ (hT.up hB) h8 hpk h5).mono ?_
      rintro e w2 ⟨rfl, hb2⟩
      have hB2 := up_trans hB hb2
      clear hB hb2
      revert HI'
      generalize (!(ts[k]).2 && decide (bitsN b.things (memS (ts[k]).1.needs) &&& (18446744073709551615 - (bitsN b.things (freeL ts) + bitsN b.things (memS (ts[k]).1.has))) = 0)) = cb
      intro HI'
      cases cb
      · have Hs : Hid (∀ j, j < k + 1 → ¬ Good b.bs gone j) := goodTo_step Hal.out fun h => by have := HI'.out.2 h; cases this
        clear HI' HG
        go_wp2_with fail
        go_roundw
        case rel => exact ⟨k + 1, by omega, by go_num, Hs.out, hB2⟩
        case measure => simp [intOf]; omega
      · have Hs : Hid (NextIs b.bs gone (k : Int)) := .inr ⟨k, rfl, by have := Hlb.out; omega, HI'.out.1 rfl, Hal.out⟩
        clear HI' HG
        go_wp2_with fail
        go_returns
        exact ⟨.inl ⟨k, rfl, Hs.out⟩, hB2⟩
    · have Hs : Hid (NextIs b.bs gone (-1)) := .inl ⟨rfl, fun j hj => Hal.out j (by have := Hlb.out; omega)⟩
      go_wp2_with fail
      go_returns
      exact ⟨.inr ⟨rfl, Hs.out⟩, hB⟩
end Go.Proofs.YtnojjmkmkelbgaaGreat
