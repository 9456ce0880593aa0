/- Workers who read, add to one sum and leave, 4: the starter's step; the phase. -/
import Derived.Test.YtafgabakhaipnaaGw3
namespace Go.Proofs.Ytafgabakhaipnaa
open Go.Conc Go.ConcN
open Go.ConcR (KK wgBlock WgAt stA smA rd wr mk Payload DC0 Bk g_of_ofEvents ofEvent_mk)

/-- Behind the phase. -/
def Done (p : Ph) (Fin : Goroutine → World → Prop) (m : Machine) (t : Trace) : Prop :=
  ∃ (gs : Array Goroutine) (a : Goroutine) (w : World) (sl : Option (Nat × Nat)) (q : Nat → Nat) (B' : Nat), m = crowd gs w sl ∧ gs.size = p.m0 + p.n ∧ gs[0]? = some a ∧ Fin a w ∧ SumAt p w ((sumTo p.n p.bit : Nat) : Int) ∧ Leavers p.P t gs q ∧ Fr p.Sh B' t

theorem okT_mk {p : Ph} {ow : Nat → Nat} {h : Nat} {fn : FuncId} {pos : String} {k : Mark} (hk : k = .disable ∨ k = .enable ∨ (∃ a, k = .acquire a) ∨ ∃ a : Addr, a.block = p.Wg ∧ (k = .read a ∨ k = .write a)) :
    ∀ op ∈ MemOp.ofEvents 0 fn pos #[mk k], ∀ x, op.act.touch? = some x → OkT p ow h 0 x := fun op hop x hx => by
  obtain ⟨e, he, rfl⟩ := Go.Conc.mem_ofEvents hop
  simp only [Array.mem_singleton] at he
  subst he
  rw [ofEvent_mk] at hx
  rcases hk with rfl | rfl | ⟨a, rfl⟩ | ⟨a, ha, rfl | rfl⟩ <;> simp only [MemAct.touch?, Option.some.injEq, reduceCtorEq] at hx <;> subst hx <;> exact .inl ⟨.inl ⟨a, rfl, ha⟩, by simp, fun _ => rfl⟩

section
variable {p : Ph} {Anch Fin : Goroutine → World → Prop} {gs : Array Goroutine} {w w' : World} {sl : Option (Nat × Nat)} {j : Nat} {X : Nat → WX} {ow q : Nat → Nat} {tag tag' : CTag} {e0 e' f0 f' d0 B b : Nat} {M0 : Nat → Prop} {a a' : Goroutine} {t : Trace} {st sm st' sm' : Int} {es : Array Event}

theorem bookC (o : p.Ok) (ha : gs[0]? = some a) (hcom : Com p j gs w t X ow q d0 M0) (hgo : stepG p.P true a w = .go a' w' es) (hAs : Aside p.Wg w w') (hwg' : WgAt p.ty p.Wg w' st' sm')
    (hok : ∀ op ∈ MemOp.ofEvents 0 a.frame.fn a.frame.place es, ∀ x, op.act.touch? = some x → OkT p ow w.heap.size 0 x) (hnr : ∀ e ∈ es, e.loc ≠ .mark (.release (stA p.Wg)))
    (hcs' : CS p Anch Fin tag' e' j f' (deafBehind d0 es) M0 a' w') (hmode' : ConcN.Mode j (ds X) tag' st' sm')
    (hlt : phi p.n (Vc j (ds X)) tag' + e' < phi p.n (Vc j (ds X)) tag + e0 ∨ (phi p.n (Vc j (ds X)) tag' + e' = phi p.n (Vc j (ds X)) tag + e0 ∧ f' < f0)) :
    ∃ m₁ ops μ', runT p.P (crowd gs w sl) 0 = (.next m₁, ops) ∧
      Lt2 μ' (phi p.n (Vc j (ds X)) tag + e0 + Ssum j (ds X) + sumTo j (fun i => (X i).e), f0 + 2 * Fsum j (ds X) + 2 * sumTo p.m0 q) ∧ Inv p Anch Fin μ' m₁ (t ++ ops) :=
  callerStep (ow' := ow) o.m0 ha hcom hgo (Turn.wg hAs ⟨_, _, hwg'⟩ o.ne) (fun b hb => .inl hb) ⟨o.wg, o.s⟩ (fun _ _ => rfl) (fun b hb => by rw [hAs.size]; exact hcom.m0 b hb)
    (by rw [hAs.size]; exact hcom.ti.app o of_g fun op hop x hx => ⟨.inl rfl, hok op hop x hx⟩) hnr hcs' ((hAs.block _ (Ne.symm o.ne)).trans hcom.sum) hwg' hmode' hlt

theorem idleC (o : p.Ok) (ha : gs[0]? = some a) (hcom : Com p j gs w t X ow q d0 M0) (hwg : WgAt p.ty p.Wg w st sm) (hmode : ConcN.Mode j (ds X) tag st sm) (hgo : stepG p.P true a w = .go a' w #[])
    (hcs' : CS p Anch Fin tag e0 j f' d0 M0 a' w) (hf : f' < f0) :
    ∃ m₁ ops μ', runT p.P (crowd gs w sl) 0 = (.next m₁, ops) ∧
      Lt2 μ' (phi p.n (Vc j (ds X)) tag + e0 + Ssum j (ds X) + sumTo j (fun i => (X i).e), f0 + 2 * Fsum j (ds X) + 2 * sumTo p.m0 q) ∧ Inv p Anch Fin μ' m₁ (t ++ ops) :=
  bookC o ha hcom hgo (.refl p.Wg w) hwg (okT_none (by simp)) (by simp) hcs' hmode (.inr ⟨rfl, hf⟩)

/-- The go statement. -/
theorem Com.spawn (h : Com p j gs w t X ow q 0 (One b)) (o : p.Ok) {child : Goroutine} {x y : MemOp} {C e m : Nat} {v : Value} (hx : x.g = 0 ∧ x.act = .go (p.m0 + j)) (hy : y.g = p.m0 + j ∧ y.act = .start)
    (hC : One b C) (he : e = 0 → p.bit j = 0) (hc : Wk p j C v e (One b) m child w) :
    Com p (j + 1) ((gs.setIfInBounds 0 a').push child) w (t ++ #[x, y]) (upd X j ⟨⟨7, m, 0⟩, e, C, v, One b⟩) (upd ow b (p.m0 + j)) q 0 Mt := by
  have hm : ∀ op ∈ #[x, y], op = x ∨ op = y := by intro op hop; simpa using hop
  have hm1 := o.m0
  have hst : ∀ op ∈ #[x, y], op.act ≠ .mark .disable ∧ op.act ≠ .mark .enable := by
    intro op hop
    rcases hm op hop with rfl | rfl
    · rw [hx.2]; exact ⟨by simp, by simp⟩
    · rw [hy.2]; exact ⟨by simp, by simp⟩
  have hb := h.m0 b rfl
  have hget : ∀ k, 1 ≤ k → k < p.m0 + j → ((gs.setIfInBounds 0 a').push child)[k]? = gs[k]? := fun k k1 k2 => by
    rw [Array.getElem?_push_lt (by simp [h.size]; omega), ← Array.getElem?_eq_getElem, Array.getElem?_setIfInBounds_ne (by omega)]
  refine ⟨by simp [h.size]; omega, fun k k1 k2 => ?_, fun k hk => ?_, fun k hk => ?_, fun k hk c hc' => ?_, fun c hc' => hc'.elim, h.low, ?_, h.norel.app fun op hop => ?_, by rw [Deaf_still t 0 _ hst, h.deaf0], fun k hk => ?_, fun k hk => by rw [Deaf_still t _ _ hst]; exact h.above k (by omega), fun k hk hs => ?_, ?_⟩
  · obtain ⟨g, hg, hq⟩ := h.old k k1 k2
    exact ⟨g, (hget k k1 (by omega)).trans hg, by rw [Deaf_still t _ _ hst]; exact hq⟩
  · rcases Nat.lt_or_ge k j with hlt | hge
    · obtain ⟨g, hg, hsg⟩ := h.wk k hlt
      exact ⟨g, (hget _ (by omega) (by omega)).trans hg, by rw [upd_ne X _ (by omega)]; exact hsg⟩
    · obtain rfl : k = j := by omega
      refine ⟨child, ?_, by rw [upd_same]; exact .pre hc⟩
      rw [show p.m0 + k = (gs.setIfInBounds 0 a').size by rw [Array.size_setIfInBounds, h.size], Array.getElem?_push_size]
  · rcases Nat.lt_or_ge k j with hlt | hge
    · rw [upd_ne X _ (by omega)]; exact h.mc k hlt
    · obtain rfl : k = j := by omega
      rw [upd_same]; exact hC
  · rcases Nat.lt_or_ge k j with hlt | hge
    · rw [upd_ne X _ (by omega)] at hc'
      obtain ⟨h1, h2, h3⟩ := h.mo k hlt c hc'
      exact ⟨by rw [upd_ne ow _ (fun e => by subst e; omega)]; exact h1, h2, h3⟩
    · obtain rfl : k = j := by omega
      rw [upd_same] at hc'
      obtain rfl : c = b := hc'
      exact ⟨upd_same _ _ _, hb.2⟩
  · refine h.ti.fork (by omega) (by omega) hx hy h.deaf0 (h.above _ (Nat.le_refl _)) fun c => ?_
    by_cases e : c = b
    · subst e; exact .inr ⟨hb.1, upd_same _ _ _⟩
    · exact .inl (upd_ne ow _ e)
  · rcases hm op hop with rfl | rfl
    · rw [hx.2]; simp
    · rw [hy.2]; simp
  · rw [Deaf_still t _ _ hst]
    rcases Nat.lt_or_ge k j with hlt | hge
    · rw [h.deafW k hlt, upd_ne X _ (by omega)]
    · obtain rfl : k = j := by omega
      rw [upd_same]
      exact h.above _ (Nat.le_refl _)
  · rcases Nat.lt_or_ge k j with hlt | hge
    · rw [upd_ne X _ (by omega)] at hs
      obtain ⟨r, hr, hr0⟩ := h.rel k hlt hs
      refine ⟨r, hr.appNot fun op hop => ?_, hr0⟩
      rcases hm op hop with rfl | rfl
      · rw [hx.1]; omega
      · rw [hy.1]; omega
    · obtain rfl : k = j := by omega
      rw [upd_same] at hs
      simp at hs
  · have e1 : total p (j + 1) (upd X j ⟨⟨7, m, 0⟩, e, C, v, One b⟩) = total p j X := by
      simp only [total, sumTo, upd_same]
      rw [sumTo_congr (g := fun a => if (X a).e = 0 then p.bit a else 0) (fun a ha => by rw [upd_ne X _ (by omega)])]
      split
      · rename_i h0; rw [he h0]; rfl
      · rfl
    rw [e1]
    exact h.sum

/-- Nobody is counted any more: all only leave. -/
theorem Com.leavers (h : Com p p.n gs w t X ow q d0 M0) (hq : AllQuit p.n (ds X)) : Leavers p.P t gs (fun k => if k < p.m0 then q k else (X (k - p.m0)).d.fuel) := by
  refine ⟨fun i g h0 hg => ?_, fun k hk => h.above k (by rw [← h.size]; exact hk)⟩
  have hlt : i < p.m0 + p.n := by have := (Array.getElem?_eq_some_iff.1 hg).1; rw [h.size] at this; exact this
  rcases Nat.lt_or_ge i p.m0 with hi | hi
  · obtain ⟨g', hg', hqq⟩ := h.old i h0 hi
    rw [hg] at hg'; cases hg'
    simp only [hi, if_true]
    exact hqq
  · obtain ⟨k, rfl⟩ : ∃ k, i = p.m0 + k := ⟨i - p.m0, by omega⟩
    obtain ⟨g', hg', hs⟩ := h.wk k (by omega)
    rw [hg] at hg'; cases hg'
    have h1 : (X k).d.stage = 1 := hq k (by omega)
    rw [if_neg (by omega), show p.m0 + k - p.m0 = k by omega, h.deafW k (by omega)]
    rw [h1] at hs
    generalize (X k).e = ee at hs
    cases hs with
    | post _ hs => exact hs.quits rfl

set_option maxHeartbeats 1600000 in
theorem w1Step (o : p.Ok) (ha : gs[0]? = some a) (hcom : Com p p.n gs w t X ow q 1 Mt) (hwg : WgAt p.ty p.Wg w st sm) (hmode : ConcN.Mode p.n (ds X) .w1 st sm)
    (h : Goes p.P true (R0 p Mt) DC0 (AtW1 p Anch Fin) f0 a w) :
    ∃ m₁ ops μ', runT p.P (crowd gs w sl) 0 = (.next m₁, ops) ∧
      Lt2 μ' (phi p.n (Vc p.n (ds X)) .w1 + 0 + Ssum p.n (ds X) + sumTo p.n (fun i => (X i).e), f0 + 2 * Fsum p.n (ds X) + 2 * sumTo p.m0 q) ∧ Inv p Anch Fin μ' m₁ (t ++ ops) := by
  rcases Goes.cases h with hstop | ⟨m', rfl, hstep⟩
  · obtain ⟨_, hall⟩ := hstop w (.refl w)
    obtain ⟨ho, rfl, rfl, _⟩ := hmode.open_inv trivial
    have hV := Vc_le p.n (ds X)
    have hn := o.n
    obtain ⟨a', hgo, h0, hne⟩ := hall (Vc p.n (ds X)) (by omega) (by simpa [pend] using hwg)
    by_cases hv : Vc p.n (ds X) = 0
    · obtain ⟨m₂, hk⟩ := h0 hv
      refine bookC o ha hcom hgo (.refl p.Wg w) hwg (okT_book bk_rd) (norel_of_Bk bk_rd) (tag' := .ke) (.ke hk) ?_ (.inl (by simp only [phi]; omega))
      have e : ((Vc p.n (ds X) + pend .w1 : Nat) : Int) * KK = 0 := by rw [hv]; simp [pend]
      rw [e]
      exact .fin trivial (allQuit_of ho hv)
    · obtain ⟨m₂, hk⟩ := hne hv
      exact bookC o ha hcom hgo (.refl p.Wg w) hwg (okT_book bk_rd) (norel_of_Bk bk_rd) (tag' := .w2 (Vc p.n (ds X))) (.w2 hk) (hmode.reopen trivial trivial rfl (fun vs e => by cases e; omega)) (.inl (by simp only [phi]; omega))
  · obtain ⟨a', w', es, hgo, ⟨rfl, rfl⟩, hg'⟩ := hstep w (.refl w)
    exact idleC o ha hcom hwg hmode hgo (.w1 hg') (by omega)

theorem nr_mk {k : Mark} (hk : ∀ a, k ≠ .release a) : ∀ e ∈ #[mk k], e.loc ≠ .mark (.release (stA p.Wg)) := fun e he hl => by
  simp only [Array.mem_singleton] at he
  subst he
  simp only [mk, Loc.mark.injEq] at hl
  exact hk _ hl

set_option maxHeartbeats 1600000 in
theorem stepCaller (o : p.Ok) (hAn : ∀ g w, Anch g w → ∃ m, Goes p.P true (R0 p Mt) DC0 (AtW1 p Anch Fin) m g w) (hf : Fr p.Shun B p.t0)
    (ha : gs[0]? = some a) (hcs : CS p Anch Fin tag e0 j f0 d0 M0 a w) (hcom : Com p j gs w t X ow q d0 M0) (hwg : WgAt p.ty p.Wg w st sm) (hmode : ConcN.Mode j (ds X) tag st sm) (hrun : a.status = .running) :
    (∃ m₁ ops, runT p.P (crowd gs w sl) 0 = (.next m₁, ops) ∧ Done p Fin m₁ (t ++ ops)) ∨
    (∃ m₁ ops μ', runT p.P (crowd gs w sl) 0 = (.next m₁, ops) ∧
      Lt2 μ' (phi p.n (Vc j (ds X)) tag + e0 + Ssum j (ds X) + sumTo j (fun i => (X i).e), f0 + 2 * Fsum j (ds X) + 2 * sumTo p.m0 q) ∧ Inv p Anch Fin μ' m₁ (t ++ ops)) := by
  have hVj := Vc_le j (ds X)
  have hn := o.n
  have hm1 := o.m0
  cases hcs with
  | al hr h =>
    rename_i r
    rcases Goes.cases h with hstop | ⟨m', rfl, hstep⟩
    · obtain ⟨_, a', w', hgo, hgr, m₂, hk⟩ := hstop w (.refl w)
      have hsz := hgr.size
      refine .inr (callerStep (ow' := upd ow w.heap.size 0) (tag' := .sp r 6) (M' := One w.heap.size) o.m0 ha hcom hgo (Turn.gr hgr o hcom.low) (fun b hb => hb.elim) ⟨o.wg, o.s⟩ (fun b hb => upd_ne ow _ (by omega)) (fun b hb => ?_) ?_ (by simp) (.ow hr hk)
        ((hgr.block _ (by have := hcom.low; have := o.s; omega)).trans hcom.sum) (hwg.of_block (hgr.block _ (by have := hcom.low; have := o.wg; omega))) (hmode.reopen trivial trivial rfl (by simp)) (.inl (by simp only [phi]; omega)))
      · obtain rfl : b = w.heap.size := hb
        exact ⟨upd_same _ _ _, hcom.low, by omega⟩
      · rw [ofEv_nil, hsz]; exact hcom.ti.fresh _
    · obtain ⟨a', w', es, hgo, ⟨rfl, rfl⟩, hg'⟩ := hstep w (.refl w)
      exact .inr (idleC o ha hcom hwg hmode hgo (.al hr hg') (by omega))
  | ow hr h =>
    rename_i r b
    rcases Goes.cases h with hstop | ⟨m', rfl, hstep⟩
    · obtain ⟨_, a', w', es, hgo, hD, m₂, hk⟩ := hstop w (.refl w)
      have hbo := hcom.m0 b rfl
      have hbW : ¬ One b p.Wg := fun e => by have : p.Wg = b := e; have := o.wg; omega
      have hbS : ¬ One b p.S := fun e => by have : p.S = b := e; have := o.s; omega
      have hdf : deafBehind 0 es = 0 := deafBehind_idle (fun e he => ⟨(hD.2 e he).2.1, (hD.2 e he).2.2.1⟩) 0
      refine .inr (callerStep (ow' := ow) (tag' := .sp r 5) (M' := One b) o.m0 ha hcom hgo (Turn.ow hD.1 hbW hbS) (fun c hc => .inr (.inr hc)) ⟨o.wg, o.s⟩ (fun _ _ => rfl) (fun c hc => by rw [hD.1.size]; exact hcom.m0 c hc) ?_ (fun e he => (hD.2 e he).2.2.2) (by rw [hdf]; exact .kd5 hr hk)
        ((hD.1.block _ hbS).trans hcom.sum) (hwg.of_block (hD.1.block _ hbW)) (hmode.reopen trivial trivial rfl (by simp)) (.inl (by simp only [phi]; omega)))
      rw [hD.1.size]
      exact hcom.ti.app o of_g fun op hop x hx => ⟨.inl rfl, okT_own (fun c hc => hcom.m0 c hc) hD.2 op hop x hx⟩
    · obtain ⟨a', w', es, hgo, ⟨rfl, rfl⟩, hg'⟩ := hstep w (.refl w)
      exact .inr (idleC o ha hcom hwg hmode hgo (.ow hr hg') (by omega))
  | kd5 hr h =>
    rcases Goes.cases h with hstop | ⟨m', rfl, hstep⟩
    · obtain ⟨_, a', hgo, m₂, hk⟩ := hstop w (.refl w)
      exact .inr (bookC o ha hcom hgo (.refl p.Wg w) hwg (okT_mk (.inl rfl)) (nr_mk (by simp)) (.a1 hr hk) (hmode.reopen trivial trivial rfl (by simp)) (.inl (by simp only [phi]; omega)))
    · obtain ⟨a', w', es, hgo, ⟨rfl, rfl⟩, hg'⟩ := hstep w (.refl w)
      exact .inr (idleC o ha hcom hwg hmode hgo (.kd5 hr hg') (by omega))
  | a1 hr h =>
    rename_i r b
    rcases Goes.cases h with hstop | ⟨m', rfl, hstep⟩
    · obtain ⟨_, hall⟩ := hstop w (.refl w)
      obtain ⟨ho, rfl, rfl, _⟩ := hmode.open_inv trivial
      obtain ⟨a', hgo, m₂, hk⟩ := hall (Vc (p.n - (r + 1)) (ds X)) (by omega) (by simpa [pend] using hwg)
      have e : (((Vc (p.n - (r + 1)) (ds X) : Nat) : Int) + 1) * KK = ((Vc (p.n - (r + 1)) (ds X) + 1 : Nat) : Int) * KK := by simp
      rcases hk with hk | hk
      · refine .inr (bookC o ha hcom hgo (aside_setCell w (stA p.Wg) _) (hwg.setSt _) (okT_book bk_rw) (norel_of_Bk bk_rw) (.sr hr hk) ?_ (.inl (by simp only [phi]; omega)))
        rw [e]
        exact .opn trivial ho (by simp)
      · refine .inr (bookC o ha hcom hgo (aside_setCell w (stA p.Wg) _) (hwg.setSt _) (okT_book bk_rw) (norel_of_Bk bk_rw) (.ke2 hr hk) ?_ (.inl (by simp only [phi]; omega)))
        rw [e]
        exact .opn trivial ho (by simp)
    · obtain ⟨a', w', es, hgo, ⟨rfl, rfl⟩, hg'⟩ := hstep w (.refl w)
      exact .inr (idleC o ha hcom hwg hmode hgo (.a1 hr hg') (by omega))
  | sr hr h =>
    rcases Goes.cases h with hstop | ⟨m', rfl, hstep⟩
    · obtain ⟨_, a', hgo, m₂, hk⟩ := hstop w (.refl w)
      exact .inr (bookC o ha hcom hgo (.refl p.Wg w) hwg (okT_mk (.inr (.inr (.inr ⟨_, rfl, .inl rfl⟩)))) (nr_mk (by simp)) (.ke2 hr hk) (hmode.reopen trivial trivial rfl (by simp)) (.inl (by simp only [phi]; omega)))
    · obtain ⟨a', w', es, hgo, ⟨rfl, rfl⟩, hg'⟩ := hstep w (.refl w)
      exact .inr (idleC o ha hcom hwg hmode hgo (.sr hr hg') (by omega))
  | ke2 hr h =>
    rcases Goes.cases h with hstop | ⟨m', rfl, hstep⟩
    · obtain ⟨_, a', hgo, m₂, hk⟩ := hstop w (.refl w)
      exact .inr (bookC o ha hcom hgo (.refl p.Wg w) hwg (okT_mk (.inr (.inl rfl))) (nr_mk (by simp)) (.go hr hk) (hmode.reopen trivial trivial rfl (by simp)) (.inl (by simp only [phi]; omega)))
    · obtain ⟨a', w', es, hgo, ⟨rfl, rfl⟩, hg'⟩ := hstep w (.refl w)
      exact .inr (idleC o ha hcom hwg hmode hgo (.ke2 hr hg') (by omega))
  | go hr h =>
    rename_i r b
    rcases Goes.cases h with hstop | ⟨m', rfl, hstep⟩
    · obtain ⟨_, a', child, hsp, ⟨C, v, e, m₂, hC, he2, he0, hwk⟩, hnext⟩ := hstop w (.refl w)
      obtain ⟨ho, rfl, rfl, _⟩ := hmode.open_inv trivial
      have hrun' := runT_crowd_spawn (P := p.P) (sl := sl) (i := 0) ha (by simpa using hsp)
      rw [hcom.size] at hrun'
      have hcom' := hcom.spawn o (a' := a') (x := { g := 0, fn := a.frame.fn, pos := a.frame.place, act := .go (p.m0 + (p.n - (r + 1))) }) (y := { g := p.m0 + (p.n - (r + 1)), fn := child.frame.fn, pos := a.frame.place, act := .start }) ⟨rfl, rfl⟩ ⟨rfl, rfl⟩ hC he0 hwk
      have eops : ((MemOp.ofEvents 0 a.frame.fn a.frame.place #[]).push { g := 0, fn := a.frame.fn, pos := a.frame.place, act := .go (p.m0 + (p.n - (r + 1))) }).push { g := p.m0 + (p.n - (r + 1)), fn := child.frame.fn, pos := a.frame.place, act := .start } = #[({ g := 0, fn := a.frame.fn, pos := a.frame.place, act := .go (p.m0 + (p.n - (r + 1))) } : MemOp), { g := p.m0 + (p.n - (r + 1)), fn := child.frame.fn, pos := a.frame.place, act := .start }] := by
        rw [ofEvents_eq]; simp
      rw [eops] at hrun'
      generalize hX : upd X (p.n - (r + 1)) ⟨⟨7, m₂, 0⟩, e, C, v, One b⟩ = X' at hcom'
      have hds : ds X' = upd (ds X) (p.n - (r + 1)) ⟨7, m₂, 0⟩ := by rw [← hX, ds_upd]
      have ej : p.n - (r + 1) + 1 = p.n - r := by omega
      have eV : Vc (p.n - r) (ds X') = Vc (p.n - (r + 1)) (ds X) + 1 := by
        rw [← ej, hds]
        simp only [Vc, sumTo, upd_same]
        rw [sumTo_upd_out (ds X) _ cnt (Nat.le_refl _)]; rfl
      have eS : Ssum (p.n - r) (ds X') = Ssum (p.n - (r + 1)) (ds X) + 7 := by
        rw [← ej, hds]
        simp only [Ssum, sumTo, upd_same]
        rw [sumTo_upd_out (ds X) _ WD.stage (Nat.le_refl _)]
      have eE : sumTo (p.n - r) (fun i => (X' i).e) = sumTo (p.n - (r + 1)) (fun i => (X i).e) + e := by
        rw [← ej, ← hX]
        simp only [sumTo, upd_same]
        rw [sumTo_upd_out X _ WX.e (Nat.le_refl _)]
      have ho' : OpenSt (p.n - r) (ds X') := fun i hi => by
        rw [hds]
        by_cases e : i = p.n - (r + 1)
        · subst e; rw [upd_same]; simp
        · rw [upd_ne (ds X) _ e]; exact ho i (by omega)
      have ha' : ((gs.setIfInBounds 0 a').push child)[0]? = some a' := by
        rw [Array.getElem?_push_lt (by simp [hcom.size]; omega), ← Array.getElem?_eq_getElem]
        rw [Array.getElem?_setIfInBounds_self_of_lt (by rw [hcom.size]; omega)]
      rw [ej] at hcom'
      have est : ∀ tag', pend tag' = 0 → ((Vc (p.n - (r + 1)) (ds X) + pend (.sp r 1) : Nat) : Int) * KK = ((Vc (p.n - r) (ds X') + pend tag' : Nat) : Int) * KK := fun tag' hp => by rw [eV, hp]; simp [pend]
      have fin : ∀ (tag' : CTag) (m₃ : Nat), CS p Anch Fin tag' 0 (p.n - r) m₃ 0 Mt a' w → isOpen tag' → pend tag' = 0 → (∀ vs, tag' ≠ .w2 vs) → phi p.n (Vc (p.n - r) (ds X')) tag' + 9 < phi p.n (Vc (p.n - (r + 1)) (ds X)) (.sp r 1) →
          ∃ m₁ ops μ', runT p.P (crowd gs w sl) 0 = (.next m₁, ops) ∧
            Lt2 μ' (phi p.n (Vc (p.n - (r + 1)) (ds X)) (.sp r 1) + 0 + Ssum (p.n - (r + 1)) (ds X) + sumTo (p.n - (r + 1)) (fun i => (X i).e), f0 + 2 * Fsum (p.n - (r + 1)) (ds X) + 2 * sumTo p.m0 q) ∧ Inv p Anch Fin μ' m₁ (t ++ ops) := fun tag' m₃ hc h1 h2 h3 h4 => by
        refine ⟨_, _, (phi p.n (Vc (p.n - r) (ds X')) tag' + 0 + Ssum (p.n - r) (ds X') + sumTo (p.n - r) (fun i => (X' i).e), m₃ + 2 * Fsum (p.n - r) (ds X') + 2 * sumTo p.m0 q), hrun', Prod.Lex.left _ _ (by omega),
          _, w, sl, p.n - r, X', _, q, tag', 0, m₃, 0, Mt, a', _, _, rfl, ha', hc, hcom', hwg, ?_, rfl⟩
        rw [est tag' h2]
        exact .opn h1 ho' (fun vs e => absurd e (h3 vs))
      cases r with
      | zero =>
        obtain ⟨m₃, hk⟩ := hnext
        exact .inr (fin .kd m₃ (.kd hk) trivial rfl (by simp) (by simp only [phi]; omega))
      | succ r' =>
        obtain ⟨m₃, hk⟩ := hnext
        exact .inr (fin (.sp r' 7) m₃ (.al (by omega) hk) trivial rfl (by simp) (by simp only [phi]; omega))
    · obtain ⟨a', w', es, hgo, ⟨rfl, rfl⟩, hg'⟩ := hstep w (.refl w)
      exact .inr (idleC o ha hcom hwg hmode hgo (.go hr hg') (by omega))
  | kd h =>
    rcases Goes.cases h with hstop | ⟨m', rfl, hstep⟩
    · obtain ⟨_, a', hgo, m₂, hk⟩ := hstop w (.refl w)
      exact .inr (bookC o ha hcom hgo (.refl p.Wg w) hwg (okT_mk (.inl rfl)) (nr_mk (by simp)) (.anch hk) (hmode.reopen trivial trivial rfl (by simp)) (.inl (by simp only [phi]; omega)))
    · obtain ⟨a', w', es, hgo, ⟨rfl, rfl⟩, hg'⟩ := hstep w (.refl w)
      exact .inr (idleC o ha hcom hwg hmode hgo (.kd hg') (by omega))
  | anch h =>
    rcases Goes.cases h with hstop | ⟨m', rfl, hstep⟩
    · obtain ⟨m₂, hk⟩ := hAn a w (hstop w (.refl w))
      obtain ⟨m₁, ops, μ', h1, h2, h3⟩ := w1Step (sl := sl) o ha hcom hwg (hmode.reopen trivial trivial rfl (by simp)) hk
      exact .inr ⟨m₁, ops, μ', h1, lt2_trans h2 (Prod.Lex.left _ _ (by simp only [phi]; omega)), h3⟩
    · obtain ⟨a', w', es, hgo, ⟨rfl, rfl⟩, hg'⟩ := hstep w (.refl w)
      exact .inr (idleC o ha hcom hwg hmode hgo (.anch hg') (by omega))
  | w1 h => exact .inr (w1Step o ha hcom hwg hmode h)
  | w2 h =>
    rename_i vs
    rcases Goes.cases h with hstop | ⟨m', rfl, hstep⟩
    · obtain ⟨_, hall⟩ := hstop w (.refl w)
      obtain ⟨ho, rfl, rfl, hw2⟩ := hmode.open_inv trivial
      obtain ⟨hle, h1⟩ := hw2 vs rfl
      obtain ⟨hhit, hmiss⟩ := hall (Vc p.n (ds X)) (by omega) (by simpa [pend] using hwg)
      by_cases e : Vc p.n (ds X) = vs
      · obtain ⟨a', hgo, m₂, hk⟩ := hhit e
        exact .inr (bookC o ha hcom hgo (aside_setCell w (stA p.Wg) _) (hwg.setSt _) (okT_book bk_rw) (norel_of_Bk bk_rw) (.sw hk) (.reg trivial ho (by omega)) (.inl (by simp only [phi]; omega)))
      · obtain ⟨a', hgo, m₂, hk⟩ := hmiss e
        exact .inr (bookC o ha hcom hgo (.refl p.Wg w) hwg (okT_book bk_rd) (norel_of_Bk bk_rd) (.anch hk) (hmode.reopen trivial trivial rfl (by simp)) (.inl (by simp only [phi]; omega)))
    · obtain ⟨a', w', es, hgo, ⟨rfl, rfl⟩, hg'⟩ := hstep w (.refl w)
      exact .inr (idleC o ha hcom hwg hmode hgo (.w2 hg') (by omega))
  | sw h =>
    rcases Goes.cases h with hstop | ⟨m', rfl, hstep⟩
    · obtain ⟨_, a', hgo, m₂, hk⟩ := hstop w (.refl w)
      exact .inr (bookC o ha hcom hgo (.refl p.Wg w) hwg (okT_mk (.inr (.inr (.inr ⟨_, rfl, .inr rfl⟩)))) (nr_mk (by simp)) (.w3 hk) hmode (.inl (by simp only [phi]; omega)))
    · obtain ⟨a', w', es, hgo, ⟨rfl, rfl⟩, hg'⟩ := hstep w (.refl w)
      exact .inr (idleC o ha hcom hwg hmode hgo (.sw hg') (by omega))
  | w3 h =>
    rcases Goes.cases h with hstop | ⟨m', rfl, hstep⟩
    · obtain ⟨_, hoff, hblk, htake⟩ := hstop w (.refl w)
      cases hmode with
      | opn h1 _ _ => exact h1.elim
      | reg h1 h2 h3 => exact .inr (bookC o ha hcom (hblk ⟨_, hwg⟩) (.refl p.Wg w) hwg (okT_none (by simp)) (by simp) (.blk hstop) (.reg trivial h2 h3) (.inr ⟨rfl, by omega⟩))
      | last L h1 h2 h3 h4 => exact .inr (bookC o ha hcom (hblk ⟨_, hwg⟩) (.refl p.Wg w) hwg (okT_none (by simp)) (by simp) (.blk hstop) (.last L trivial h2 h3 h4) (.inr ⟨rfl, by omega⟩))
      | sema h2 =>
        obtain ⟨a', hgo, m₂, hk⟩ := htake hwg
        exact .inr (bookC o ha hcom hgo (aside_setCell w (smA p.Wg) _) (hwg.setSm 0) (okT_book bk_sem) (norel_of_Bk bk_sem) (.w4 hk) (.fin trivial h2) (.inl (by simp only [phi]; omega)))
      | fin h1 _ => exact h1.elim
    · obtain ⟨a', w', es, hgo, ⟨rfl, rfl⟩, hg'⟩ := hstep w (.refl w)
      exact .inr (idleC o ha hcom hwg hmode hgo (.w3 hg') (by omega))
  | blk h => simp at hrun
  | w4 h =>
    rcases Goes.cases h with hstop | ⟨m', rfl, hstep⟩
    · obtain ⟨_, hx⟩ := hstop w (.refl w)
      obtain ⟨hq, rfl, rfl⟩ := hmode.fin_inv trivial
      obtain ⟨a', hgo, m₂, hk⟩ := hx hwg
      exact .inr (bookC o ha hcom hgo (.refl p.Wg w) hwg (okT_book bk_rd) (norel_of_Bk bk_rd) (.ke hk) (.fin trivial hq) (.inl (by simp only [phi]; omega)))
    · obtain ⟨a', w', es, hgo, ⟨rfl, rfl⟩, hg'⟩ := hstep w (.refl w)
      exact .inr (idleC o ha hcom hwg hmode hgo (.w4 hg') (by omega))
  | ke h =>
    rcases Goes.cases h with hstop | ⟨m', rfl, hstep⟩
    · obtain ⟨_, a', hgo, m₂, hk⟩ := hstop w (.refl w)
      obtain ⟨hq, rfl, rfl⟩ := hmode.fin_inv trivial
      exact .inr (bookC o ha hcom hgo (.refl p.Wg w) hwg (okT_mk (.inr (.inl rfl))) (nr_mk (by simp)) (.acq hk) (.fin trivial hq) (.inl (by simp only [phi]; omega)))
    · obtain ⟨a', w', es, hgo, ⟨rfl, rfl⟩, hg'⟩ := hstep w (.refl w)
      exact .inr (idleC o ha hcom hwg hmode hgo (.ke hg') (by omega))
  | acq h =>
    rcases Goes.cases h with hstop | ⟨m', rfl, hstep⟩
    · obtain ⟨_, a', hgo, hfin⟩ := hstop w (.refl w)
      obtain ⟨hq, rfl, rfl⟩ := hmode.fin_inv trivial
      have hrunT := runT_crowd_go (P := p.P) (sl := sl) (i := 0) ha (by simpa using hgo)
      have e1 : MemOp.ofEvents 0 a.frame.fn a.frame.place #[mk (.acquire (stA p.Wg))] = #[{ g := 0, fn := a.frame.fn, pos := a.frame.place, act := .mark (.acquire (stA p.Wg)) }] := by rw [ofEvents_eq]; simp [ofEvent_mk]
      have hL := hcom.leavers hq
      obtain ⟨B', _, hfr⟩ := hcom.ti.close o hf hcom.norel hcom.deaf0 (fun g h1 h2 => by
        obtain ⟨k, rfl⟩ : ∃ k, g = p.m0 + k := ⟨g - p.m0, by omega⟩
        exact hcom.rel k (by omega) (by have : (X k).d.stage = 1 := hq k (by omega); omega)) (y := { g := 0, fn := a.frame.fn, pos := a.frame.place, act := .mark (.acquire (stA p.Wg)) }) rfl rfl
      refine .inl ⟨_, _, hrunT, _, a', w, sl, (fun k => if k < p.m0 then q k else (X (k - p.m0)).d.fuel), B', rfl, by simp [hcom.size], setGetS _ _ (by rw [hcom.size]; omega), hfin, ?_, ⟨fun k x hk hx => ?_, fun k hk => ?_⟩, by rw [e1]; exact hfr⟩
      · have et : total p p.n X = sumTo p.n p.bit := sumTo_congr fun k hk => by
          obtain ⟨g, _, hs⟩ := hcom.wk k hk
          have h1 : (X k).d.stage = 1 := hq k hk
          rw [h1] at hs
          generalize hee : (X k).e = ee at hs ⊢
          cases hs with
          | post _ _ => simp
        rw [← et]; exact hcom.sum
      · rw [setGet _ _ (by omega)] at hx
        obtain ⟨y, hy, rfl⟩ := Option.map_eq_some_iff.1 hx
        have hqy := hL.old k y hk hy
        rw [woken_quitsD hqy, Deaf_other t (by omega) _ g_of_ofEvents]
        exact hqy
      · rw [Deaf_other t (by simp [hcom.size] at hk; omega) _ g_of_ofEvents]
        exact hL.above k (by simpa using hk)
    · obtain ⟨a', w', es, hgo, ⟨rfl, rfl⟩, hg'⟩ := hstep w (.refl w)
      exact .inr (idleC o ha hcom hwg hmode hgo (.acq hg') (by omega))
end
end Go.Proofs.Ytafgabakhaipnaa

/- Workers who read, add to one sum and leave, 5: the phase, on every tape. -/
namespace Go.Proofs.Ytafgabakhaipnaa
open Go.Conc Go.ConcN
open Go.ConcR (KK wgBlock WgAt stA smA rd wr mk Payload DC0)

section
variable {p : Ph} {Anch Fin : Goroutine → World → Prop} {gs : Array Goroutine} {w : World} {j : Nat} {X : Nat → WX} {ow q : Nat → Nat} {tag : CTag} {e0 f0 d0 B : Nat} {M0 : Nat → Prop} {a : Goroutine} {t : Trace} {st sm : Int}

theorem someone_runs (hAr : ∀ g w, Anch g w → g.status = .running) (ha : gs[0]? = some a) (hcs : CS p Anch Fin tag e0 j f0 d0 M0 a w) (hcom : Com p j gs w t X ow q d0 M0) (hmode : ConcN.Mode j (ds X) tag st sm) :
    ∃ (i : Nat) (g : Goroutine), gs[i]? = some g ∧ g.status = .running := by
  rcases hcs.status hAr with ⟨hs, _⟩ | ⟨_, rfl⟩
  · exact ⟨0, a, ha, hs⟩
  · cases hmode with
    | opn h1 _ _ => exact h1.elim
    | reg _ _ h3 =>
      obtain ⟨i, hi, h5⟩ := exists_counted h3
      obtain ⟨g, hg, hs⟩ := hcom.wk i hi
      exact ⟨p.m0 + i, g, hg, hs.running_of (by simp only [ds] at h5; omega)⟩
    | last L _ h2 h3 _ =>
      obtain ⟨g, hg, hs⟩ := hcom.wk L h2
      exact ⟨p.m0 + L, g, hg, hs.running_of (by simp only [ds] at h3; omega)⟩
    | fin h1 _ => exact h1.elim

theorem all_awake (hAr : ∀ g w, Anch g w → g.status = .running) (ha : gs[0]? = some a) (hcs : CS p Anch Fin tag e0 j f0 d0 M0 a w) (hcom : Com p j gs w t X ow q d0 M0) : ∀ g ∈ gs, awake g := by
  intro g hg tm
  obtain ⟨i, hi⟩ := Array.mem_iff_getElem?.1 hg
  rcases Nat.eq_zero_or_pos i with rfl | hpos
  · rw [ha] at hi; cases hi
    rcases hcs.status hAr with ⟨hs, _⟩ | ⟨hs, _⟩ <;> rw [hs] <;> simp
  · have hlt := (Array.getElem?_eq_some_iff.1 hi).1
    rw [hcom.size] at hlt
    rcases Nat.lt_or_ge i p.m0 with h | h
    · obtain ⟨g', hg', hq⟩ := hcom.old i hpos h
      rw [hi] at hg'; cases hg'
      rcases hq.status with h | h <;> rw [h] <;> simp
    · obtain ⟨k, rfl⟩ : ∃ k, i = p.m0 + k := ⟨i - p.m0, by omega⟩
      obtain ⟨g', hg', hs⟩ := hcom.wk k (by omega)
      rw [hi] at hg'; cases hg'
      rcases hs.status with h | h <;> rw [h] <;> simp
end

section
variable {p : Ph} {Anch Fin : Goroutine → World → Prop} {B : Nat}

theorem phase_step (o : p.Ok) (hAr : ∀ g w, Anch g w → g.status = .running) (hAn : ∀ g w, Anch g w → ∃ m, Goes p.P true (R0 p Mt) DC0 (AtW1 p Anch Fin) m g w) (hf : Fr p.Shun B p.t0) :
    ∀ μ m t, Inv p Anch Fin μ m t → (∃ m₁ ops, stepT p.P m = (.next m₁, ops) ∧ Done p Fin m₁ (t ++ ops)) ∨ ∃ m₁ ops μ', stepT p.P m = (.next m₁, ops) ∧ Lt2 μ' μ ∧ Inv p Anch Fin μ' m₁ (t ++ ops) := by
  rintro μ m t ⟨gs, w, sl, j, X, ow, q, tag, e0, f0, d0, M0, a, st, sm, rfl, ha, hcs, hcom, hwg, hmode, rfl⟩
  obtain ⟨i, g, d, sl', hg, hrun, hstep⟩ := crowd_pick (P := p.P) (w := w) (sl := sl) (all_awake hAr ha hcs hcom) (someone_runs hAr ha hcs hcom hmode)
  rw [hstep]
  have hcs' := hcs.rely (w' := w.at d) ⟨rfl, rfl, rfl, id, fun _ _ _ _ => rfl, fun _ _ => rfl, Nat.le_refl _, id, id⟩
  have hcom' := hcom.at d
  have hwg' : WgAt p.ty p.Wg (w.at d) st sm := hwg
  have hm1 := o.m0
  rcases Nat.eq_zero_or_pos i with rfl | hpos
  · rw [ha] at hg; cases hg
    exact stepCaller (sl := sl') o hAn hf ha hcs' hcom' hwg' hmode hrun
  · rcases Nat.lt_or_ge i p.m0 with h | h
    · exact .inr (oldStep o hAr ha hcs' hcom' hwg' hmode hpos h hg hrun)
    · have hlt := (Array.getElem?_eq_some_iff.1 hg).1
      rw [hcom.size] at hlt
      obtain ⟨k, rfl⟩ : ∃ k, i = p.m0 + k := ⟨i - p.m0, by omega⟩
      exact .inr (stepWorker o hAr ha hcs' hcom' hwg' hmode (by omega) hg hrun)

theorem phase_runs (o : p.Ok) (hAr : ∀ g w, Anch g w → g.status = .running) (hAn : ∀ g w, Anch g w → ∃ m, Goes p.P true (R0 p Mt) DC0 (AtW1 p Anch Fin) m g w) (hf : Fr p.Shun B p.t0) (μ : Nat × Nat) :
    ∀ m t, Inv p Anch Fin μ m t → ∃ N m' t', runNT p.P N m t = (.next m', t') ∧ Done p Fin m' t' := by
  induction μ using (Prod.lex Nat.lt_wfRel Nat.lt_wfRel).wf.induction with
  | _ μ ih =>
    intro m t h
    rcases phase_step o hAr hAn hf μ m t h with ⟨m₁, ops, hs, hd⟩ | ⟨m₁, ops, μ', hs, hlt, hi⟩
    · exact ⟨1, m₁, t ++ ops, by simp only [runNT, hs], hd⟩
    · obtain ⟨N, m', t', hr, hd⟩ := ih μ' hlt m₁ (t ++ ops) hi
      exact ⟨N + 1, m', t', by simp only [runNT, hs]; exact hr, hd⟩

/-- From a frame to a frame: on whatever tape. -/
theorem phase (o : p.Ok) (hAr : ∀ g w, Anch g w → g.status = .running) (hAn : ∀ g w, Anch g w → ∃ m, Goes p.P true (R0 p Mt) DC0 (AtW1 p Anch Fin) m g w) (hf : Fr p.Shun B p.t0)
    {gs : Array Goroutine} {a : Goroutine} {w : World} {sl : Option (Nat × Nat)} {q : Nat → Nat} (hsz : gs.size = p.m0) (ha : gs[0]? = some a) (hL : Leavers p.P p.t0 gs q)
    (hlow : p.Low ≤ w.heap.size) (hwg : WgAt p.ty p.Wg w 0 0) (hsum : SumAt p w 0) (h : Sp p Anch p.n a w) :
    ∃ N m' t', runNT p.P N (crowd gs w sl) p.t0 = (.next m', t') ∧ Done p Fin m' t' := by
  let X : Nat → WX := fun _ => ⟨⟨0, 0, 0⟩, 0, 0, undef, fun _ => False⟩
  have hcom : Com p 0 gs w p.t0 X (fun _ => 0) q 0 Mt :=
    ⟨by simp [hsz], fun i h1 h2 => by
      have hlt : i < gs.size := by omega
      exact ⟨gs[i], Array.getElem?_eq_getElem hlt, hL.old i _ h1 (Array.getElem?_eq_getElem hlt)⟩, fun i hi => by omega, fun i hi => by omega, fun i hi => by omega, fun b hb => hb.elim, hlow, TI.start hf (by omega), (fun i hi => by simp [Trace.act?, Array.getElem?_eq_none hi]), hf.past.hears, fun i hi => by omega, fun k hk => hL.above k (by omega), fun i hi => by omega, hsum⟩
  have hmode : ∀ tag, isOpen tag → pend tag = 0 → (∀ vs, tag ≠ .w2 vs) → ConcN.Mode 0 (ds X) tag 0 0 := fun tag h1 h2 h3 => by
    have := ConcN.Mode.opn (j := 0) (D := ds X) h1 (fun i hi => by omega) (fun vs e => absurd e (h3 vs))
    simpa [Vc, sumTo, h2] using this
  have hInv : ∃ μ, Inv p Anch Fin μ (crowd gs w sl) p.t0 := by
    cases hn : p.n with
    | zero =>
      rw [hn] at h
      obtain ⟨m, hk⟩ := h
      have hc : CS p Anch Fin .kd 0 p.n m 0 Mt a w := .kd hk
      rw [hn] at hc
      exact ⟨_, gs, w, sl, 0, X, _, q, .kd, 0, m, 0, Mt, a, 0, 0, rfl, ha, hc, hcom, hwg, hmode .kd trivial rfl (by simp), rfl⟩
    | succ r =>
      rw [hn] at h
      obtain ⟨m, hk⟩ := h
      have hc := CS.al (Fin := Fin) (show r < p.n by omega) hk
      rw [show p.n - (r + 1) = 0 by omega] at hc
      exact ⟨_, gs, w, sl, 0, X, _, q, .sp r 7, 0, m, 0, Mt, a, 0, 0, rfl, ha, hc, hcom, hwg, hmode (.sp r 7) trivial rfl (by simp), rfl⟩
  obtain ⟨μ, hI⟩ := hInv
  exact phase_runs o hAr hAn hf μ _ _ hI
end
end Go.Proofs.Ytafgabakhaipnaa
