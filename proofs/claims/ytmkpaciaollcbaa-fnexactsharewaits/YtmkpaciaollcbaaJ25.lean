/- A book, a list of texts that can be read: opened. -/
import Derived.Test.YtmkpaciaollcbaaJ22
import Derived.Test.YtmkpaciaollcbaaJ16
namespace Go.Proofs.Ytmkpaciaollcbaa
open Go.ChangeShapes Go.WideShapes Go.ChangeAt Go.RowKit

theorem cellsBatch : Try.prog.cellsOf 64 = 3 := by kernel_rfl
theorem cellsBook : Try.prog.cellsOf 25 = 2 := by kernel_rfl
theorem cellsBatchS : Try.prog.cellsOf 23 = 1 := by kernel_rfl

theorem ba_of_trod {H : Type} {enc : TypeId × Value → H} {w : World} {base : Nat} {sp : Nat → Bool} {held : Bool} {fuel : Nat} {cs : List Value} {x : DataW H × List MemPlace}
    (h : DataW.trod enc Try.prog w base sp held fuel 64 cs = some x) : ∃ (y : Ba) (hv nv : Value), cs = [.string y.nm, hv, nv] ∧ Ls w hv y.has ∧ Ls w nv y.needs ∧ y.nm.size ≤ maxLen := by
  obtain ⟨xs, m, _, rfl, hl, hlen, hf⟩ := DataW.trod_struct Try.underlying64 h
  rw [cellsBatch] at hl
  obtain ⟨c0, c1, c2, rfl⟩ := list3 hl
  obtain ⟨y0, y1, y2, rfl⟩ := list3 (hlen.trans rfl : xs.length = 3)
  have h0 : DataW.trod enc Try.prog w base sp held m 9 (([c0, c1, c2].drop 0).take (Try.prog.cellsOf 9)) = some y0 := hf 0 { name := "Name", type := 9, offset := 0, embedded := false, tag := "", pkgPath := "", byteOffset := 0 } rfl
  have h1 : DataW.trod enc Try.prog w base sp held m 22 (([c0, c1, c2].drop 1).take (Try.prog.cellsOf 22)) = some y1 := hf 1 { name := "Has", type := 22, offset := 1, embedded := false, tag := "", pkgPath := "", byteOffset := 16 } rfl
  have h2 : DataW.trod enc Try.prog w base sp held m 22 (([c0, c1, c2].drop 2).take (Try.prog.cellsOf 22)) = some y2 := hf 2 { name := "Needs", type := 22, offset := 2, embedded := false, tag := "", pkgPath := "", byteOffset := 40 } rfl
  clear hf h
  rw [cellsString] at h0
  rw [cellsStrS] at h1 h2
  simp only [List.drop_succ_cons, List.drop_zero, List.take_succ_cons, List.take_zero] at h0 h1 h2
  obtain ⟨nm, rfl, rfl, z0⟩ := str_of_trod h0
  obtain ⟨has, l1⟩ := ls_of_trod h1
  obtain ⟨needs, l2⟩ := ls_of_trod h2
  exact ⟨⟨nm, has, needs⟩, c1, c2, rfl, l1, l2, z0⟩

theorem bs_of_trod {H : Type} {enc : TypeId × Value → H} {W : World} {base : Nat} {sp : Nat → Bool} {held : Bool} {fuel : Nat} {v : Value} {x : DataW H × List MemPlace}
    (h : DataW.trod enc Try.prog W base sp held fuel 23 [v] = some x) : ∃ bs, Bs W v bs := by
  rcases DataW.trod_slice Try.underlying23 h with ⟨hcs, _⟩ | ⟨a, len, cap, elems, rest, n, _, hcs, _, hb, hl, hm, hlen, hel, _, _⟩
  · obtain rfl : v = .slice none 0 0 := by simpa using hcs
    exact ⟨[], _, _, rfl, by simp, fun h => by simp at h⟩
  · obtain rfl : v = .slice (some a) len cap := by simpa using hcs
    clear hcs h
    rw [cellsBatch] at hel
    have each : ∀ i, i < len → ∃ y : Ba, ∃ hv nv : Value, W.cells? base (a.add (i * 3)) 3 = some [.string y.nm, hv, nv] ∧ Ls W hv y.has ∧ Ls W nv y.needs ∧ y.nm.size ≤ maxLen := by
      intro i hi
      have h1 := hel i hi
      rw [List.getElem?_eq_getElem (by omega)] at h1
      obtain ⟨cs, hc, ht⟩ := Option.bind_eq_some_iff.1 h1
      obtain ⟨y, hv, nv, rfl, r⟩ := ba_of_trod ht
      exact ⟨y, hv, nv, hc, r⟩
    obtain ⟨bs, hpl, hps⟩ := list_of len _ each
    rcases Nat.eq_zero_or_pos len with h0 | h0
    · subst h0
      exact ⟨[], _, _, rfl, by simp, fun h => by simp at h⟩
    · obtain ⟨b, o, spot⟩ := a
      have hs : spot = none := by
        obtain ⟨q, hv, nv, hq, _⟩ := each 0 h0
        simpa [Addr.add] using spot_none (by omega) hq
      subst hs
      have hra : BsAt W b o bs := by
        intro i q hq
        obtain ⟨hv, nv, this, r⟩ := hps i q hq
        rw [Addr.add_mid] at this
        exact ⟨hv, nv, rangeAt_of_cells this, r⟩
      subst hpl
      refine ⟨bs, _, cap, rfl, by omega, fun _ => ⟨b, o, rfl, hra, ?_⟩⟩
      obtain ⟨hv, nv, hr, -⟩ := hra 0 bs[0] (by simp [h0])
      exact World.block_lt_of_cell? W _ (hr 0 _ rfl)

theorem bk_of_trod {H : Type} {enc : TypeId × Value → H} {w : World} {base : Nat} {sp : Nat → Bool} {held : Bool} {fuel : Nat} {cs : List Value} {x : DataW H × List MemPlace}
    (h : DataW.trod enc Try.prog w base sp held fuel 25 cs = some x) : ∃ (b : Bk), BkV w (.agg cs.toArray) b := by
  obtain ⟨xs, m, _, rfl, hl, hlen, hf⟩ := DataW.trod_struct Try.underlying25 h
  rw [cellsBook] at hl
  obtain ⟨c0, c1, rfl⟩ := list2 hl
  obtain ⟨y0, y1, rfl⟩ := list2 (hlen.trans rfl : xs.length = 2)
  have h0 : DataW.trod enc Try.prog w base sp held m 22 (([c0, c1].drop 0).take (Try.prog.cellsOf 22)) = some y0 := hf 0 { name := "Things", type := 22, offset := 0, embedded := false, tag := "", pkgPath := "", byteOffset := 0 } rfl
  have h1 : DataW.trod enc Try.prog w base sp held m 23 (([c0, c1].drop 1).take (Try.prog.cellsOf 23)) = some y1 := hf 1 { name := "Batches", type := 23, offset := 1, embedded := false, tag := "", pkgPath := "", byteOffset := 24 } rfl
  clear hf h
  rw [cellsStrS] at h0
  rw [cellsBatchS] at h1
  simp only [List.drop_succ_cons, List.drop_zero, List.take_succ_cons, List.take_zero] at h0 h1
  obtain ⟨ts, l0⟩ := ls_of_trod h0
  obtain ⟨bs, l1⟩ := bs_of_trod h1
  exact ⟨⟨ts, bs⟩, c0, c1, rfl, l0, l1⟩
end Go.Proofs.Ytmkpaciaollcbaa

/- Runs carried over, 15: a call by its contract, beside others who only leave. -/
namespace Go.Proofs.Ytmkpaciaollcbaa
open Go.Conc

section
variable {P : Program} {X : Nat → Prop} {s : Nat → Bool}

/-- What a contract says of the emptied worlds, of an end in one of them up to the tape. -/
def Told (P : Program) (X : Nat → Prop) (w : World) (R : World → Value → World → Prop) (fe : Frame) (ue : World) : Prop :=
  ∃ τ d u0 v, R (pzT X w τ d) v u0 ∧ fe.leaving P u0 (.returned v) ∧ Full (fun _ => False) u0 ue
theorem told_full {w : World} {R : World → Value → World → Prop} (fe : Frame) (u v : World) (h : Full (fun _ => False) u v) (k : Told P X w R fe u) : Told P X w R fe v := by
  obtain ⟨τ, d, u0, x, h1, h2, h3⟩ := k
  exact ⟨τ, d, u0, x, h1, h2, h3.trans h⟩

theorem noview_run (S : SetOk P s) {fr fe : Frame} {seg : List Frame} {u ue : World} : ∀ (N : Nat), FrOk P s fr → (∀ c ∈ seg, FrOk P s c) → Full (fun _ => False) u u → runN P N (lone fr (seg ++ [c0 P]) u) = .next (lone fe [c0 P] ue) → Full (fun _ => False) ue ue := fun N h hr hf hrun => by
  obtain ⟨ve, q1, q2⟩ := shift S N h hr hf hrun
  rw [hrun, Stepped.next.injEq] at q1
  obtain ⟨_, _, e⟩ := lone_inj q1
  rw [← e] at q2
  exact q2

/-- A call whose contract holds in the emptied world on every tape is carried out beside leavers. -/
theorem calls_run (S : SetOk P s) {f : FuncId} (hf : s f = true) {args : Array Value} {w : World} (hb : Base X w) {R : World → Value → World → Prop}
    (hc : ∀ τ d, Calls P f args (pzT X w τ d) fun e u' => ∃ v, e = .returned v ∧ R (pzT X w τ d) v u') (bw : List Frame) :
    Run P X (Left P X s (Told P X w R) bw) (G (Frame.enter P f args .normal) bw) w := by
  have h0 := enter_ok S hf args
  have hst : St P X s Rtn (Told P X w R) (Frame.enter P f args .normal) [] w := ⟨h0, by simp, hb, fun τ d => by
    obtain ⟨e, u', fr, ⟨v, rfl, hR⟩, ⟨N, hN⟩, _, hl⟩ := hc τ d [c0 P]
    have hs : Sim X 0 w (pzT X w τ d) := sim_pz hb (fun i q hi => by omega)
    have hfu : Full (fun _ => False) (pzT X w τ d) (pzT X w τ d) := fun n => ⟨rfl, fun _ h => h.elim, fun _ _ => rfl, fun _ h => h.elim, hs.pendU, rfl, rfl, fun _ _ _ => rfl⟩
    exact ⟨N, fr, u', hN, hl.1, τ, d, u', v, hR, hl, noview_run S N h0 (seg := []) (by simp) hfu hN⟩⟩
  exact run_of_st S told_full bw hst
end
end Go.Proofs.Ytmkpaciaollcbaa

/- Runs carried over, 16: the return to the caller. -/
namespace Go.Proofs.Ytmkpaciaollcbaa
open Go.Conc

section
variable {P : Program} {X : Nat → Prop} {s : Nat → Bool} {α β : Type}

/-- A term that leaves the world as it is, where it comes to a value. -/
def Keeps (P : Program) (q : Sem α) : Prop := ∀ w es a w' es', q.runT P w es = (.ok a w', es') → w' = w
theorem keeps_pure (a : α) : Keeps P (Pure.pure a : Sem α) := fun w es a w' es' h => by cases h; rfl
theorem keeps_halt (k : Halt) : Keeps P (Sem.halt k : Sem α) := fun w es a w' es' h => by cases h
theorem keeps_bind {q : Sem α} {f : α → Sem β} (h : Keeps P q) (hf : ∀ a, Keeps P (f a)) : Keeps P (q >>= f) := fun w es a w' es' hr => by
  have hr : (q.bind f).runT P w es = _ := hr
  rw [Sem.runT_bind'] at hr
  match hq : q.runT P w es, hr with
  | (.ok b w1, e1), hr => rw [hf b _ _ _ _ _ hr, h _ _ _ _ _ hq]
  | (.halt k w1, e1), hr => cases hr
theorem keeps_program {f : Program → Sem α} (h : Keeps P (f P)) : Keeps P (program >>= f) := fun w es a w' es' hr => h w es a w' es' hr
theorem keeps_load (a : Addr) (m : Mode) : Keeps P (load a m) := fun w es v w' es' hr => by
  simp only [load, Sem.runT] at hr
  split at hr
  · cases hr; rfl
  · split at hr
    · cases hr; rfl
    · cases hr
theorem keeps_und (t : TypeId) : Keeps P (underlying t) := by
  unfold underlying
  refine keeps_program ?_
  split <;> first | exact keeps_pure _ | exact keeps_halt _
theorem keeps_info (t : TypeId) : Keeps P (typeInfo t) := by
  unfold typeInfo
  refine keeps_program ?_
  split <;> first | exact keeps_pure _ | exact keeps_halt _
theorem keeps_loads (a : Addr) : ∀ (n i : Nat) (acc : Array Value), Keeps P (loadCellsFrom a i n acc)
  | 0, _, _ => keeps_pure _
  | n + 1, i, _ => keeps_bind (keeps_load _ _) (fun _ => keeps_loads a n (i + 1) _)
theorem keeps_loadVar (t : TypeId) (a : Addr) : Keeps P (loadVar t a) := by
  unfold loadVar
  refine keeps_bind (by unfold isAgg; refine keeps_bind (keeps_und t) (fun _ => ?_); split <;> exact keeps_pure _) (fun b => ?_)
  split
  · exact keeps_bind (keeps_bind (keeps_info t) (fun _ => keeps_pure _)) (fun n => keeps_bind (keeps_loads a _ _ _) (fun _ => keeps_pure _))
  · exact keeps_load _ _
theorem keeps_addr (v : Value) : Keeps P (asAddr v) := by
  unfold asAddr
  split
  · exact keeps_pure _
  · exact fun w es a w' es' hr => by cases hr
  · exact keeps_halt _
theorem keeps_results (fn : Func) (tmps : Array Value) : Keeps P (results fn tmps) := by
  unfold results
  refine keeps_bind ?_ (fun _ => keeps_pure _)
  rw [Array.mapM_eq_mapM_toList]
  refine keeps_bind (f := fun l => Pure.pure (List.toArray l)) ?_ (fun _ => keeps_pure _)
  induction fn.results.toList with
  | nil => exact keeps_pure _
  | cons x l ih =>
    rw [List.mapM_cons]
    refine keeps_bind ?_ (fun _ => keeps_bind ih (fun _ => keeps_pure _))
    split
    · exact keeps_pure _
    · exact keeps_bind (keeps_addr _) (fun _ => keeps_loadVar _ _)

theorem res_at {Y : Nat → Prop} {fn : Func} {tmps : Array Value} {x y : World} {v : Value} {es : Array Event} (hs : Sim Y 0 x y) (h : (results fn tmps).runT P y #[] = (.ok v y, es)) :
    (results fn tmps).runT P x #[] = (.ok v x, es) ∧ ∀ e ∈ es, Fine Y e := by
  have ha := s_results (P := P) (X := Y) fn tmps 0 x y #[] hs (.inr (by rw [h]; exact Nat.le_refl _))
  rw [h] at ha
  obtain ⟨hev, x', hx, _⟩ := ha
  have e := keeps_results fn tmps _ _ _ _ _ hx
  rw [e] at hx
  exact ⟨hx, fun e he => (hev e he).elim (fun h => by simp at h) id⟩
/-- The call's value goes to the caller; what the contract says holds of the emptied world. -/
theorem left_ret {w : World} {R : World → Value → World → Prop} {c : Frame} {cs : List Frame} {g : Goroutine} {w' : World} (h : Left P X s (Told P X w R) (c :: cs) g w') :
    ∃ v, (∀ d, ∃ es, stepG P true g (w'.at d) = .go (G (c.finish v) cs) (w'.at d) es ∧ ∀ e ∈ es, Fine X e) ∧ Base X w' ∧ ∀ τ d, ∃ τ0 d0 u0, R (pzT X w τ0 d0) v u0 ∧ Full (fun _ => False) u0 (pzT X w' τ d) := by
  obtain ⟨fe, rfl, hm, hok, hb, hT⟩ := h
  have at_u : ∀ {fn : Func} {u0 : World} {v : Value}, (results fn fe.tmps).run P u0 = .ok v u0 → ∃ es, (results fn fe.tmps).runT P u0 #[] = (.ok v u0, es) := fun {fn u0 v} hr => by
    have e := Sem.runT_fst P (results fn fe.tmps) u0 #[]
    rw [hr] at e
    exact ⟨_, Prod.ext e rfl⟩
  obtain ⟨τ0, d0, u0, v, hR, ⟨_, _, _, fn, hfn, hres⟩, hfu⟩ := hT (fun _ _ => 0) 0
  obtain ⟨es, e0⟩ := at_u hres
  have e1 := (res_at (hfu.symm 0) e0).1
  refine ⟨v, fun d => ?_, hb, fun τ d => ?_⟩
  · have hs : Sim X 0 (w'.at d) (pzT X w' (fun _ _ => 0) 0) := sim_pz (hb.at d) (fun i q hi => by omega)
    obtain ⟨e2, hfine⟩ := res_at hs e1
    refine ⟨seen P fe.fn es ++ #[], ?_, fun e he => ?_⟩
    · simp only [stepG, G, hm, unwind, hok.defers, hfn, e2, doReturn, hok.kind, GStep.after]
    · rw [Array.append_empty] at he
      exact hfine e (mem_seen he)
  · obtain ⟨τ1, d1, u1, v1, hR1, ⟨_, _, _, fn1, hfn1, hres1⟩, hfu1⟩ := hT τ d
    rw [hfn] at hfn1
    cases hfn1
    obtain ⟨es1, f0⟩ := at_u hres1
    have f1 := (res_at (hfu1.symm 0) f0).1
    have hs0 : ∀ (τ : Nat → Question → Nat) (d : Nat), Sim X 0 w' (pzT X w' τ d) := fun τ d => sim_pz hb (fun i q hi => by omega)
    have hy : Sim (fun _ => False) 0 (pzT X w' (fun _ _ => 0) 0) (pzT X w' τ d) := ⟨rfl, fun _ h => h.elim, fun _ _ => rfl, fun _ h => h.elim, (hs0 _ _).pendU, rfl, rfl, fun i q hi => by omega⟩
    have f2 := (res_at hy f1).1
    rw [e1] at f2
    have hv : v = v1 := by cases f2; rfl
    subst hv
    exact ⟨τ1, d1, u1, hR1, hfu1⟩
end
end Go.Proofs.Ytmkpaciaollcbaa

/- Runs carried over, 17: a list of functions that call no others than their texts name and the list holds, by a look at the program. -/
namespace Go.Proofs.Ytmkpaciaollcbaa
open Go.Conc

def setCheck (P : Program) (l : List Nat) : Bool := (l.all fun f => match P.funcs[f]? with
  | some fn => (match fn.body with | some b => codeOk P (fun g => l.contains g) b | none => false) && !(fn.name == "runtime.NumGoroutine")
  | none => false) && P.funcs.all fun f => (f.body.map readies).all (·.all (· < gN))
theorem step_of {P : Program} (h : (P.funcs.all fun f => (f.body.map readies).all (·.all (· < gN))) = true) (g : Nat) (hg : gN ≤ g) : P.stepOf g = none := by
  unfold Program.stepOf
  rw [Array.findIdx?_eq_none_iff]
  intro f hf
  have h1 := Array.all_eq_true'.1 h f hf
  cases hb : f.body with
  | none => rfl
  | some b =>
    rw [hb] at h1
    simp only [Option.map_some, Option.all_some, List.all_eq_true, decide_eq_true_eq] at h1
    simp only [Option.map_some, Option.any_some]
    cases hc : (readies b).contains g with
    | false => rfl
    | true => have := h1 g (by simpa using hc); omega
theorem setOk_of {P : Program} {l : List Nat} (h : setCheck P l = true) : SetOk P (fun g => l.contains g) := ⟨fun f hf => by
  have hm : f ∈ l := by simpa using hf
  have h1 := List.all_eq_true.1 (Bool.and_eq_true_iff.1 h).1 f hm
  cases hfn : P.funcs[f]? with
  | none => simp only [hfn] at h1; cases h1
  | some fn =>
    simp only [hfn, Bool.and_eq_true] at h1
    cases hb : fn.body with
    | none => simp only [hb] at h1; cases h1.1
    | some b =>
      simp only [hb] at h1
      exact ⟨fn, b, rfl, hb, h1.1, by simpa using h1.2⟩, step_of (Bool.and_eq_true_iff.1 h).2⟩
end Go.Proofs.Ytmkpaciaollcbaa
