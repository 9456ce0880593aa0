/- Workers who read, add to one sum and leave, 3: a worker's step. -/
import Derived.Test.YtmkpaciaollcbaaJ21
namespace Go.Proofs.Ytmkpaciaollcbaa
open Go.Conc Go.ConcN Go.RowKit
open Go.ConcR (KK wgBlock WgAt stA smA rd wr mk Payload DC0 Bk g_of_ofEvents bk_of_mute ofEvent_loc_mark ofEvent_mk)

theorem sum_same {j i : Nat} (p : Ph) (X : Nat → WX) (x : WX) (h : (if x.e = 0 then p.bit i else 0) = (if (X i).e = 0 then p.bit i else 0)) : total p j (upd X i x) = total p j X :=
  sumTo_congr fun a _ => by
    by_cases e : a = i
    · subst e; rw [upd_same]; exact h
    · rw [upd_ne X _ e]
theorem sum_more {j i : Nat} (p : Ph) (X : Nat → WX) (x : WX) (hi : i < j) (h0 : x.e = 0) (h1 : (X i).e ≠ 0) : total p j (upd X i x) = total p j X + p.bit i := by
  have key : ∀ j, i < j → sumTo j (fun a => if (upd X i x a).e = 0 then p.bit a else 0) = sumTo j (fun a => if (X a).e = 0 then p.bit a else 0) + p.bit i := by
    intro j
    induction j with
    | zero => intro h; omega
    | succ j ih =>
      intro h
      simp only [sumTo]
      by_cases e : j = i
      · subst e
        rw [upd_same, if_pos h0, if_neg h1, sumTo_congr (g := fun a => if (X a).e = 0 then p.bit a else 0) (fun a ha => by rw [upd_ne X x (by omega)])]
        omega
      · rw [ih (by omega), upd_ne X x e]; omega
  exact key j hi
theorem sum_le {p : Ph} {j : Nat} (X : Nat → WX) (hj : j ≤ p.n) : total p j X ≤ sumTo p.n p.bit := by
  have h1 : ∀ j, total p j X ≤ sumTo j p.bit := fun j => by
    induction j with
    | zero => exact Nat.le_refl _
    | succ j ih =>
      simp only [total, sumTo] at *
      split <;> omega
  have h2 : ∀ k j, sumTo j p.bit ≤ sumTo (j + k) p.bit := fun k => by
    induction k with
    | zero => exact fun j => Nat.le_refl _
    | succ k ih => exact fun j => Nat.le_trans (ih j) (by rw [show j + (k + 1) = (j + k) + 1 by omega]; simp only [sumTo]; omega)
  have := h2 (p.n - j) j
  rw [show j + (p.n - j) = p.n by omega] at this
  exact Nat.le_trans (h1 j) this
theorem bit_le {p : Ph} {j i : Nat} (X : Nat → WX) (hi : i < j) (hj : j ≤ p.n) (he : (X i).e ≠ 0) : total p j X + p.bit i ≤ sumTo p.n p.bit := by
  have h := sum_more p X (⟨⟨0, 0, 0⟩, 0, 0, undef, fun _ => False⟩ : WX) hi rfl he
  rw [← h]
  exact sum_le _ hj

section
variable {p : Ph} {ow : Nat → Nat} {h g : Nat} {M : Nat → Prop} {fn : FuncId} {pos : String} {es : Array Event}
theorem okT_book (hb : ∀ e ∈ es, Bk p.Wg e) : ∀ op ∈ MemOp.ofEvents g fn pos es, ∀ x, op.act.touch? = some x → OkT p ow h g x := fun op hop x hx => by
  rcases (okW_of_Bk (Own := No) (Rd := No) (k := g) hb op hop).2 x hx with ⟨h1, h2, h3⟩ | h1 | h1
  · exact .inl ⟨.inl h1, h2, fun e => absurd e h3⟩
  · exact h1.elim
  · exact h1.1.elim
theorem okT_own (hM : ∀ b, M b → ow b = g ∧ p.Low ≤ b ∧ b < h) (he : ∀ e ∈ es, EvK p M e) : ∀ op ∈ MemOp.ofEvents g fn pos es, ∀ x, op.act.touch? = some x → OkT p ow h g x := fun op hop x hx => by
  obtain ⟨e, hee, rfl⟩ := Go.Conc.mem_ofEvents hop
  rcases (he e hee).1 x hx with ⟨h1, h2, h3⟩ | ⟨h1, a, h2, h3, h4⟩
  · exact .inl ⟨.inl h1, h2, fun e => absurd e h3⟩
  · exact .inr ⟨h1, a, h2, h3, h4.imp id fun hm => ⟨(hM _ hm).2.1, (hM _ hm).2.2, (hM _ hm).1⟩⟩
theorem okT_none (hn : ∀ e ∈ es, (MemAct.ofEvent e).touch? = none) : ∀ op ∈ MemOp.ofEvents g fn pos es, ∀ x, op.act.touch? = some x → OkT p ow h g x := fun op hop x hx => by
  obtain ⟨e, he, rfl⟩ := Go.Conc.mem_ofEvents hop
  rw [hn e he] at hx; cases hx
end
theorem of_g {g : Nat} {fn : FuncId} {pos : String} {es : Array Event} : ∀ op ∈ MemOp.ofEvents g fn pos es, op.g = g := fun op hop => by obtain ⟨e, _, rfl⟩ := Go.Conc.mem_ofEvents hop; rfl
theorem SumAt.set {p : Ph} {w : World} {s : Int} (h : SumAt p w s) (v : Int) : SumAt p (w.setCell (sA p) (.int .u32 v)) v := by
  unfold SumAt at h ⊢
  rw [sA, setCell_eq_setRow w p.S 0 _ p.tS (0, 0) _ h, setRow_heap w p.S _ _ p.tS _ h]
  simp
theorem ofEv_nil (t : Trace) (g : Nat) (fn : FuncId) (pos : String) : t ++ MemOp.ofEvents g fn pos #[] = t := by rw [ofEvents_eq]; simp

section
variable {p : Ph} {Anch Fin : Goroutine → World → Prop} {gs : Array Goroutine} {w : World} {sl : Option (Nat × Nat)} {j : Nat} {X : Nat → WX} {ow q : Nat → Nat} {tag : CTag} {e0 f0 d0 : Nat} {M0 : Nat → Prop} {a : Goroutine} {t : Trace} {st sm : Int}

set_option maxHeartbeats 1600000 in
theorem stepWorker (o : p.Ok) (hAr : ∀ g w, Anch g w → g.status = .running)
    (ha : gs[0]? = some a) (hcs : CS p Anch Fin tag e0 j f0 d0 M0 a w) (hcom : Com p j gs w t X ow q d0 M0) (hwg : WgAt p.ty p.Wg w st sm) (hmode : ConcN.Mode j (ds X) tag st sm)
    {i : Nat} (hi : i < j) {g : Goroutine} (hg : gs[p.m0 + i]? = some g) (hrun : g.status = .running) :
    ∃ m₁ ops μ', runT p.P (crowd gs w sl) (p.m0 + i) = (.next m₁, ops) ∧
      Lt2 μ' (phi p.n (Vc j (ds X)) tag + e0 + Ssum j (ds X) + sumTo j (fun i => (X i).e), f0 + 2 * Fsum j (ds X) + 2 * sumTo p.m0 q) ∧ Inv p Anch Fin μ' m₁ (t ++ ops) := by
  obtain ⟨g₁, hg₁, hs⟩ := hcom.wk i hi
  obtain rfl : g = g₁ := by rw [hg] at hg₁; exact Option.some.inj hg₁
  have hm1 := o.m0
  have hWS : p.Wg < p.Low ∧ p.S < p.Low := ⟨o.wg, o.s⟩
  have hMi := hcom.mo i hi
  have hMW : ¬ (X i).m p.Wg := fun h => by have := (hMi _ h).2.1; have := o.wg; omega
  have hMS : ¬ (X i).m p.S := fun h => by have := (hMi _ h).2.1; have := o.s; omega
  have hgN : p.m0 + i = 0 ∨ (p.m0 ≤ p.m0 + i ∧ p.m0 + i < p.m0 + j) := .inr ⟨by omega, by omega⟩
  have hb := hcs.bound
  have hVj := Vc_le j (ds X)
  generalize hst : (X i).d.stage = s at hs
  generalize hfu : (X i).d.fuel = m at hs
  generalize hde : (X i).d.deaf = dd at hs
  generalize hee : (X i).e = e at hs
  have hsd : (ds X i).stage = s := hst
  have hdk : Deaf t (p.m0 + i) = dd := by rw [hcom.deafW i hi, hde]
  cases hs with
  | pre h =>
    have mode7 : ∀ m', ConcN.Mode j (upd (ds X) i ⟨7, m', 0⟩) tag st sm := fun m' => by have := hmode.same (i := i) m' 0; rwa [hsd] at this
    -- an own step ahead of the stop
    have step : ∀ {g' : Goroutine} {w' : World} {es : Array Event} {m' : Nat}, stepG p.P false g w = .go g' w' es → DK p (X i).m w w' es → Wk p i (X i).c (X i).v e (X i).m m' g' w' → m' + 1 = m →
        ∃ m₁ ops μ', runT p.P (crowd gs w sl) (p.m0 + i) = (.next m₁, ops) ∧
          Lt2 μ' (phi p.n (Vc j (ds X)) tag + e0 + Ssum j (ds X) + sumTo j (fun i => (X i).e), f0 + 2 * Fsum j (ds X) + 2 * sumTo p.m0 q) ∧ Inv p Anch Fin μ' m₁ (t ++ ops) := by
      intro g' w' es m' hgo hD hk hm
      refine workerStep (x' := ⟨⟨7, m', 0⟩, e, (X i).c, (X i).v, (X i).m⟩) (ow' := ow) hAr hm1 ha hcs hcom hi hg hgo (Turn.ow hD.1 hMW hMS) (fun b hb => .inr (.inr hb)) hWS (fun _ _ => rfl) (hcom.mc i hi) (fun b hb => by have := hMi b hb; rw [hD.1.size]; exact this)
        ?_ (.pre hk) (fun e he => (hD.2 e he).2.2.2) (by rw [hde]; exact deafBehind_idle (fun e he => ⟨(hD.2 e he).2.1, (hD.2 e he).2.2.1⟩) 0) (fun h => by simp at h) ?_ (hwg.of_block (hD.1.block _ hMW)) (fun _ ht _ => (mode7 m').retag ht) (.inr ⟨hst.symm, hee.symm, by rw [hfu]; exact hm⟩)
      · rw [hD.1.size]
        exact hcom.ti.app o of_g fun op hop x hx => ⟨hgN, okT_own hMi hD.2 op hop x hx⟩
      · rw [sum_same p X _ (by simp [hee])]
        exact (hD.1.block _ hMS).trans hcom.sum
    match e, h with
    | 0, h =>
      unfold Wk at h
      rcases Goes.cases h with hstop | ⟨m', rfl, hstep⟩
      · obtain ⟨_, hhas, g', hgo, m₂, hk⟩ := hstop w (RK.refl w)
        refine workerStep (x' := ⟨⟨6, m₂, 0⟩, 0, (X i).c, (X i).v, (X i).m⟩) (ow' := ow) hAr hm1 ha hcs hcom hi hg hgo (Z := fun _ => False) (.refl w) (fun b hb => hb.elim) hWS (fun _ _ => rfl) (hcom.mc i hi) hMi
          (hcom.ti.app o of_g fun op hop x hx => ⟨hgN, okT_none (by intro e he; simp at he; subst he; rfl) op hop x hx⟩) (.post (Nat.le_refl _) (.k1 hk)) (by intro e he; simp at he; subst he; simp [mk]) (by rw [hde]; rfl)
          (fun _ => ⟨t.size, RelBy.new hdk _ _, by obtain ⟨u, hu⟩ := hcom.ti.pre; rw [hu]; simp⟩) ?_ hwg (fun _ ht _ => (hmode.counted hi (by omega) (.inl rfl) _ _).retag ht) (.inl ⟨by rw [hst, hee]; simp only; omega, by simp [cnt, hst]⟩)
        rw [sum_same p X _ (by simp [hee])]
        exact hcom.sum
      · obtain ⟨g', w', es, hgo, hD, hg'⟩ := hstep w (RK.refl w)
        exact step hgo hD (by unfold Wk; exact hg') rfl
    | 1, h =>
      unfold Wk at h
      rcases Goes.cases h with hstop | ⟨m', rfl, hstep⟩
      · obtain ⟨_, hx⟩ := hstop w (RK.refl w)
        have hbl := bit_le X hi (show j ≤ p.n by omega) (by omega)
        have hbs := o.bits
        obtain ⟨g', hgo, m₂, hk⟩ := hx (total p j X) (by omega) hcom.sum
        have has := aside_setCell w (sA p) (.int .u32 ((total p j X + p.bit i : Nat) : Int))
        have hsu := hcom.sum.set ((total p j X + p.bit i : Nat) : Int)
        refine workerStep (x' := ⟨⟨7, m₂, 0⟩, 0, (X i).c, (X i).v, (X i).m⟩) (ow' := ow) hAr hm1 ha hcs hcom hi hg hgo (Turn.su has ⟨_, hsu⟩ o.ne) (fun b hb => .inr (.inl hb)) hWS (fun _ _ => rfl) (hcom.mc i hi) (fun b hb => by have := hMi b hb; rw [has.size]; exact this)
          ?_ (.pre hk) (by intro e he; simp at he; rcases he with rfl | rfl <;> simp [rd, wr]) (by rw [hde]; exact deafBehind_idle (by intro e he; simp at he; rcases he with rfl | rfl <;> simp [rd, wr]) 0) (fun h => by simp at h) ?_ (hwg.of_block (has.block _ o.ne)) (fun _ ht _ => (mode7 m₂).retag ht) (.inl ⟨by rw [hst, hee]; simp only; omega, by simp [cnt, hst]⟩)
        · rw [has.size]
          refine hcom.ti.app o of_g fun op hop x hx => ⟨hgN, ?_⟩
          obtain ⟨e, he, rfl⟩ := Go.Conc.mem_ofEvents hop
          simp at he
          rcases he with rfl | rfl <;> simp only [rd, wr, Go.ConcR.ofEvent_cell, MemAct.touch?, Option.some.injEq] at hx <;> subst hx <;> exact .inl ⟨.inr ⟨sA p, rfl, rfl⟩, by simp, by simp⟩
        · rw [sum_more p X _ hi rfl (by omega)]
          exact hsu
      · obtain ⟨g', w', es, hgo, hD, hg'⟩ := hstep w (RK.refl w)
        exact step hgo hD (by unfold Wk; exact hg') rfl
    | e + 2, h =>
      unfold Wk at h
      rcases Goes.cases h with hstop | ⟨m', rfl, hstep⟩
      · obtain ⟨_, g', w', hgo, hgr, m₂, hk1, hk0⟩ := hstop w (RK.refl w)
        have hsz := hgr.size
        have alloc : ∀ e', Wk p i (X i).c (X i).v e' (fun x => (X i).m x ∨ x = w.heap.size) m₂ g' w' → e' < e + 2 → (if e' = 0 then p.bit i else 0) = 0 →
            ∃ m₁ ops μ', runT p.P (crowd gs w sl) (p.m0 + i) = (.next m₁, ops) ∧
              Lt2 μ' (phi p.n (Vc j (ds X)) tag + e0 + Ssum j (ds X) + sumTo j (fun i => (X i).e), f0 + 2 * Fsum j (ds X) + 2 * sumTo p.m0 q) ∧ Inv p Anch Fin μ' m₁ (t ++ ops) := by
          intro e' hk he' hz
          refine workerStep (x' := ⟨⟨7, m₂, 0⟩, e', (X i).c, (X i).v, fun x => (X i).m x ∨ x = w.heap.size⟩) (ow' := upd ow w.heap.size (p.m0 + i)) hAr hm1 ha hcs hcom hi hg hgo (Turn.gr hgr o hcom.low) (fun b hb => hb.elim) hWS (fun b hb => upd_ne ow _ (by omega)) (.inl (hcom.mc i hi)) (fun b hb => ?_)
            ?_ (.pre hk) (by simp) (by rw [hde]; rfl) (fun h => by simp at h) ?_ (hwg.of_block (hgr.block _ (by have := hcom.low; have := o.wg; omega))) (fun _ ht _ => (mode7 m₂).retag ht) (.inl ⟨by rw [hst, hee]; simp only; omega, by simp [cnt, hst]⟩)
          · rcases hb with hb | rfl
            · have := hMi b hb
              exact ⟨by rw [upd_ne ow _ (by omega)]; exact this.1, this.2.1, by omega⟩
            · exact ⟨upd_same _ _ _, hcom.low, by omega⟩
          · rw [ofEv_nil, hsz]
            exact hcom.ti.fresh _
          · rw [sum_same p X _ (by simp only; rw [hz, hee]; simp)]
            exact (hgr.block _ (by have := hcom.low; have := o.s; omega)).trans hcom.sum
        by_cases hb0 : p.bit i = 0
        · exact alloc 0 (hk0 hb0) (by omega) (by simp [hb0])
        · exact alloc (e + 1) (hk1 hb0) (by omega) (by simp)
      · obtain ⟨g', w', es, hgo, hD, hg'⟩ := hstep w (RK.refl w)
        exact step hgo hD (by unfold Wk; exact hg') rfl
  | post h6 h =>
    -- a step of the library's bookkeeping: at most the group's block turns
    have bookG : ∀ {g' : Goroutine} {w' : World} {es : Array Event} {s' m' dd' : Nat} {st' sm' : Int}, stepG p.P false g w = .go g' w' es → Aside p.Wg w w' → WgAt p.ty p.Wg w' st' sm' → (∀ e ∈ es, Bk p.Wg e) →
        (∀ jx e, es[jx]? = some e → (MemAct.ofEvent e).touch? = none ∨ 0 < deafBehind dd (es.extract 0 jx)) → WSit p.P p.ty p.Wg (X i).c 1 No No 0 1 (X i).v s' m' dd' g' w' → deafBehind dd es = dd' → s' ≤ 6 →
        (∀ tag', (tag' = tag ∨ (tag = .blk ∧ tag' = .w3)) → (mayWake p.P g = true → g'.status = .running → tag' ≠ .blk) → ConcN.Mode j (upd (ds X) i ⟨s', m', dd'⟩) tag' st' sm') → ((s' < s ∧ cnt ⟨s', m', dd'⟩ ≤ cnt (ds X i)) ∨ (s' = s ∧ m' + 1 = m)) →
        ∃ m₁ ops μ', runT p.P (crowd gs w sl) (p.m0 + i) = (.next m₁, ops) ∧
          Lt2 μ' (phi p.n (Vc j (ds X)) tag + e0 + Ssum j (ds X) + sumTo j (fun i => (X i).e), f0 + 2 * Fsum j (ds X) + 2 * sumTo p.m0 q) ∧ Inv p Anch Fin μ' m₁ (t ++ ops) := by
      intro g' w' es s' m' dd' st' sm' hgo hAs hwg' hbk hd hs' hdd h6' hmode' hlt
      refine workerStep (x' := ⟨⟨s', m', dd'⟩, 0, (X i).c, (X i).v, (X i).m⟩) (ow' := ow) hAr hm1 ha hcs hcom hi hg hgo (Turn.wg hAs ⟨_, _, hwg'⟩ o.ne) (fun b hb => .inl hb) hWS (fun _ _ => rfl) (hcom.mc i hi) (fun b hb => by have := hMi b hb; rw [hAs.size]; exact this)
        ?_ (.post h6' hs') (norel_of_Bk hbk) (by rw [hde]; exact hdd) (fun _ => let ⟨r, hr, hr0⟩ := hcom.rel i hi (by omega); ⟨r, hr.book hdk _ _ hbk hd, hr0⟩) ?_ hwg' hmode' ?_
      · rw [hAs.size]
        exact hcom.ti.app o of_g fun op hop x hx => ⟨hgN, okT_book hbk op hop x hx⟩
      · rw [sum_same p X _ (by simp [hee])]
        exact (hAs.block _ (Ne.symm o.ne)).trans hcom.sum
      · rcases hlt with ⟨h1, h2⟩ | ⟨h1, h2⟩
        · exact .inl ⟨by rw [hst, hee]; exact h1, h2⟩
        · exact .inr ⟨by rw [hst]; exact h1, hee.symm, by rw [hfu]; exact h2⟩
    have book : ∀ {g' : Goroutine} {w' : World} {es : Array Event} {s' m' dd' : Nat} {st' sm' : Int}, stepG p.P false g w = .go g' w' es → Aside p.Wg w w' → WgAt p.ty p.Wg w' st' sm' → (∀ e ∈ es, Bk p.Wg e) →
        (∀ jx e, es[jx]? = some e → (MemAct.ofEvent e).touch? = none ∨ 0 < deafBehind dd (es.extract 0 jx)) → WSit p.P p.ty p.Wg (X i).c 1 No No 0 1 (X i).v s' m' dd' g' w' → deafBehind dd es = dd' → s' ≤ 6 →
        ConcN.Mode j (upd (ds X) i ⟨s', m', dd'⟩) tag st' sm' → ((s' < s ∧ cnt ⟨s', m', dd'⟩ ≤ cnt (ds X i)) ∨ (s' = s ∧ m' + 1 = m)) →
        ∃ m₁ ops μ', runT p.P (crowd gs w sl) (p.m0 + i) = (.next m₁, ops) ∧
          Lt2 μ' (phi p.n (Vc j (ds X)) tag + e0 + Ssum j (ds X) + sumTo j (fun i => (X i).e), f0 + 2 * Fsum j (ds X) + 2 * sumTo p.m0 q) ∧ Inv p Anch Fin μ' m₁ (t ++ ops) :=
      fun hgo hAs hwg' hbk hd hs' hdd h6' hmode' hlt => bookG hgo hAs hwg' hbk hd hs' hdd h6' (fun _ ht _ => hmode'.retag ht) hlt
    have idle : ∀ {g' : Goroutine} {m' : Nat}, stepG p.P false g w = .go g' w #[] → WSit p.P p.ty p.Wg (X i).c 1 No No 0 1 (X i).v s m' dd g' w → m' + 1 = m →
        ∃ m₁ ops μ', runT p.P (crowd gs w sl) (p.m0 + i) = (.next m₁, ops) ∧
          Lt2 μ' (phi p.n (Vc j (ds X)) tag + e0 + Ssum j (ds X) + sumTo j (fun i => (X i).e), f0 + 2 * Fsum j (ds X) + 2 * sumTo p.m0 q) ∧ Inv p Anch Fin μ' m₁ (t ++ ops) := by
      intro g' m' hgo hs' hm
      exact book hgo (.refl p.Wg w) hwg (by simp) (by simp) hs' rfl h6 (by have := hmode.same (i := i) m' dd; rwa [hsd] at this) (.inr ⟨rfl, hm⟩)
    cases h with
    | r0 h => omega
    | k1 h =>
      rcases Goes.cases h with hstop | ⟨m', rfl, hstep⟩
      · obtain ⟨_, g', hgo, m₂, hk⟩ := hstop w (RW.refl w)
        exact book hgo (.refl p.Wg w) hwg (by intro e he; simp at he; subst he; exact .inl rfl) (by intro jx e he; exact .inl (by have := Array.mem_of_getElem? he; simp at this; subst this; rfl)) (.d1 hk) rfl (by omega)
          (hmode.counted hi (by omega) (.inr rfl) _ _) (.inl ⟨by omega, by simp [cnt, hsd]⟩)
      · obtain ⟨g', w', es, hgo, ⟨rfl, rfl⟩, hg'⟩ := hstep w (RW.refl w)
        exact idle hgo (.k1 hg') rfl
    | d1 h =>
      rcases Goes.cases h with hstop | ⟨m', rfl, hstep⟩
      · obtain ⟨_, hall⟩ := hstop w (RW.refl w)
        have hc1 : cnt (ds X i) = 1 := by simp [cnt, hsd]
        have hV1 : 1 ≤ Vc j (ds X) := by have := le_sumTo (f := fun x => cnt (ds X x)) hi; simp only [Vc]; omega
        have bk2 : ∀ e ∈ #[rd (stA p.Wg), wr (stA p.Wg)], Bk p.Wg e := by intro e he; simp at he; rcases he with rfl | rfl <;> exact bk_cell _ _ rfl
        have df2 : ∀ jx e, (#[rd (stA p.Wg), wr (stA p.Wg)] : Array Event)[jx]? = some e → (MemAct.ofEvent e).touch? = none ∨ 0 < deafBehind 1 ((#[rd (stA p.Wg), wr (stA p.Wg)] : Array Event).extract 0 jx) := by
          intro jx e he
          match jx, he with
          | 0, _ => exact .inr (by simp [deafBehind])
          | 1, _ => exact .inr (by simp [deafBehind, rd])
          | jx + 2, he => simp at he
        have hq0 : ∀ q, cnt (⟨1, q, 1⟩ : WD) = 0 := fun _ => rfl
        have opq : ∀ q, OpenSt j (ds X) → OpenSt j (upd (ds X) i ⟨1, q, 1⟩) := fun q h a ha => by
          by_cases e : a = i
          · subst e; rw [upd_same]; simp
          · rw [upd_ne (ds X) _ e]; exact h a ha
        cases hmode with
        | opn h1 h2 h3 =>
          obtain ⟨v, hv⟩ : ∃ v, Vc j (ds X) + pend tag = v + 1 := ⟨Vc j (ds X) + pend tag - 1, by omega⟩
          rw [hv] at hwg
          have hpn := o.n
          have hw1 : WgAt p.ty p.Wg w (((v : Nat) + 1) * KK + ((0 : Nat) : Int)) 0 := by simpa using hwg
          obtain ⟨g', hgo, _, hq⟩ := hall v 0 (by omega) (by omega) hw1
          obtain ⟨q, hq⟩ := hq (by omega)
          have hv' : Vc j (upd (ds X) i ⟨1, q, 1⟩) + pend tag = v := by have := Vc_upd (ds X) (⟨1, q, 1⟩ : WD) hi; have := hq0 q; omega
          refine book hgo (aside_setCell w (stA p.Wg) _) (hwg.setSt _) bk2 df2 (.quit hq) rfl (by omega) ?_ (.inl ⟨by omega, by simp [cnt]⟩)
          have e : ((v : Nat) : Int) * KK + ((0 : Nat) : Int) = ((Vc j (upd (ds X) i ⟨1, q, 1⟩) + pend tag : Nat) : Int) * KK := by rw [hv']; simp
          rw [e]
          exact .opn h1 (opq q h2) (fun vs ev => by have := h3 vs ev; omega)
        | reg h1 h2 h3 =>
          obtain ⟨v, hv⟩ : ∃ v, Vc j (ds X) = v + 1 := ⟨Vc j (ds X) - 1, by omega⟩
          rw [hv] at hwg
          have hpn := o.n
          have hp : pend tag = 0 := by cases tag <;> first | rfl | exact h1.elim
          have hw1 : WgAt p.ty p.Wg w (((v : Nat) + 1) * KK + ((1 : Nat) : Int)) 0 := by simpa using hwg
          obtain ⟨g', hgo, hl, hq⟩ := hall v 1 (by omega) (by omega) hw1
          by_cases hv0 : v = 0
          · subst hv0
            obtain ⟨m₂, hk⟩ := hl ⟨rfl, rfl⟩
            refine book hgo (aside_setCell w (stA p.Wg) _) (hwg.setSt _) bk2 df2 (.d2 hk) rfl (by omega) ?_ (.inl ⟨by omega, by simp [cnt]⟩)
            have hoth : ∀ a, a < j → a ≠ i → (ds X a).stage = 1 := fun a ha e => by
              have c0 := others_uncounted hi hv hc1 a ha e
              have := h2 a ha
              simp only [cnt] at c0
              split at c0 <;> omega
            have := ConcN.Mode.last (j := j) (D := upd (ds X) i ⟨4, m₂, 1⟩) (tag := tag) i h1 hi (by rw [upd_same]; simp) (fun a ha e => by rw [upd_ne (ds X) _ e]; exact hoth a ha e)
            rw [upd_same] at this
            simpa using this
          · obtain ⟨q, hq⟩ := hq (by omega)
            have hv' : Vc j (upd (ds X) i ⟨1, q, 1⟩) = v := by have := Vc_upd (ds X) (⟨1, q, 1⟩ : WD) hi; have := hq0 q; omega
            refine book hgo (aside_setCell w (stA p.Wg) _) (hwg.setSt _) bk2 df2 (.quit hq) rfl (by omega) ?_ (.inl ⟨by omega, by simp [cnt]⟩)
            have e : ((v : Nat) : Int) * KK + ((1 : Nat) : Int) = ((Vc j (upd (ds X) i ⟨1, q, 1⟩) : Nat) : Int) * KK + 1 := by rw [hv']; simp
            rw [e]
            exact .reg h1 (opq q h2) (by omega)
        | last L _ h2 h3 h4 =>
          by_cases e : i = L
          · subst e; omega
          · have := h4 i hi e; omega
        | sema h2 => have := h2 i hi; omega
        | fin _ h2 => have := h2 i hi; omega
      · obtain ⟨g', w', es, hgo, ⟨rfl, rfl⟩, hg'⟩ := hstep w (RW.refl w)
        exact idle hgo (.d1 hg') rfl
    | d2 h =>
      rcases Goes.cases h with hstop | ⟨m', rfl, hstep⟩
      · obtain ⟨_, hx⟩ := hstop w (RW.refl w)
        obtain ⟨hW3, hoth, rfl, rfl⟩ := hmode.isLast hi (by omega)
        simp only [hsd] at hwg
        obtain ⟨g', hgo, m₂, hk⟩ := hx (by simpa using hwg)
        refine book hgo (.refl p.Wg w) hwg (by intro e he; simp at he; subst he; exact bk_cell _ _ rfl) (by intro jx e he; match jx, he with | 0, _ => exact .inr (by simp [deafBehind]) | jx + 1, he => simp at he) (.d3 hk) rfl (by omega) ?_ (.inl ⟨by omega, by simp [cnt]⟩)
        have := ConcN.Mode.last (j := j) (D := upd (ds X) i ⟨3, m₂, 1⟩) (tag := tag) i hW3 hi (by rw [upd_same]; simp) (fun a ha e => by rw [upd_ne (ds X) _ e]; exact hoth a ha e)
        rw [upd_same] at this
        simpa using this
      · obtain ⟨g', w', es, hgo, ⟨rfl, rfl⟩, hg'⟩ := hstep w (RW.refl w)
        exact idle hgo (.d2 hg') rfl
    | d3 h =>
      rcases Goes.cases h with hstop | ⟨m', rfl, hstep⟩
      · obtain ⟨_, hx⟩ := hstop w (RW.refl w)
        obtain ⟨hW3, hoth, rfl, rfl⟩ := hmode.isLast hi (by omega)
        simp only [hsd] at hwg
        obtain ⟨g', hgo, m₂, hk⟩ := hx (by simpa using hwg)
        refine book hgo (aside_setCell w (stA p.Wg) _) (hwg.setSt 0) (by intro e he; simp at he; subst he; exact bk_cell _ _ rfl) (by intro jx e he; match jx, he with | 0, _ => exact .inr (by simp [deafBehind]) | jx + 1, he => simp at he) (.d4 hk) rfl (by omega) ?_ (.inl ⟨by omega, by simp [cnt]⟩)
        have := ConcN.Mode.last (j := j) (D := upd (ds X) i ⟨2, m₂, 1⟩) (tag := tag) i hW3 hi (by rw [upd_same]; simp) (fun a ha e => by rw [upd_ne (ds X) _ e]; exact hoth a ha e)
        rw [upd_same] at this
        simpa using this
      · obtain ⟨g', w', es, hgo, ⟨rfl, rfl⟩, hg'⟩ := hstep w (RW.refl w)
        exact idle hgo (.d3 hg') rfl
    | d4 h =>
      rcases Goes.cases h with hstop | ⟨m', rfl, hstep⟩
      · obtain ⟨_, hmw, hx⟩ := hstop w (RW.refl w)
        obtain ⟨hW3, hoth, rfl, rfl⟩ := hmode.isLast hi (by omega)
        simp only [hsd] at hwg
        obtain ⟨g', hgo, q, hq⟩ := hx (by simpa using hwg)
        have hrun' : g'.status = .running := by
          cases q with
          | zero => exact absurd hq.2 (by decide)
          | succ q => exact hq.elim (fun x => absurd x.2 (by decide)) (fun x => x.1)
        refine bookG hgo (aside_setCell w (smA p.Wg) _) (hwg.setSm 1) (es := semEvents (smA p.Wg)) bk_sem ?_ (.quit hq) (by simp [deafBehind, semEvents]) (by omega) ?_ (.inl ⟨by omega, by simp [cnt]⟩)
        · intro jx e he
          match jx, he with
          | 0, he => simp [semEvents] at he; subst he; exact .inl rfl
          | 1, _ => exact .inr (by simp [deafBehind, semEvents])
          | 2, _ => exact .inr (by simp [deafBehind, semEvents])
          | 3, he => simp [semEvents] at he; subst he; exact .inl rfl
          | jx + 4, he => simp [semEvents] at he
        · intro tag' ht hw
          have hnb := hw hmw hrun'
          have e3 : tag' = .w3 := by
            rcases ht with rfl | ⟨_, rfl⟩
            · cases tag' <;> first | rfl | exact hW3.elim | exact absurd rfl hnb
            · rfl
          subst e3
          simp only [if_true]
          exact .sema fun a ha => by
            by_cases e : a = i
            · subst e; rw [upd_same]
            · rw [upd_ne (ds X) _ e]; exact hoth a ha e
      · obtain ⟨g', w', es, hgo, ⟨rfl, rfl⟩, hg'⟩ := hstep w (RW.refl w)
        exact idle hgo (.d4 hg') rfl
    | quit h =>
      cases m with
      | zero => rw [h.1] at hrun; cases hrun
      | succ q =>
        rcases h with ⟨hf, _⟩ | ⟨_, g', es, hmute, hstep, hq⟩
        · rw [hf] at hrun; cases hrun
        · have hbk : ∀ e ∈ es, Bk p.Wg e := fun e he => bk_of_mute (hmute e he)
          have hno : ∀ jx e, es[jx]? = some e → (MemAct.ofEvent e).touch? = none ∨ 0 < deafBehind dd (es.extract 0 jx) := fun jx e he => .inl (touch_mute (hmute e (Array.mem_of_getElem? he)))
          exact book (hstep w) (.refl p.Wg w) hwg hbk hno (.quit hq) rfl (by omega) (by have := hmode.same (i := i) q (deafBehind dd es); rwa [hsd] at this) (.inr ⟨rfl, rfl⟩)
end
end Go.Proofs.Ytmkpaciaollcbaa

/- Workers who read, add to one sum and leave, 4: the starter's step; the phase. -/
namespace Go.Proofs.Ytmkpaciaollcbaa
open Go.Conc Go.ConcN
open Go.ConcR (KK wgBlock WgAt stA smA rd wr mk Payload DC0 Bk g_of_ofEvents ofEvent_mk)

/-- Behind the phase. -/
def Done (p : Ph) (Fin : Goroutine → World → Prop) (m : Machine) (t : Trace) : Prop :=
  ∃ (gs : Array Goroutine) (a : Goroutine) (w : World) (sl : Option (Nat × Nat)) (q : Nat → Nat) (B' : Nat), m = crowd gs w sl ∧ gs.size = p.m0 + p.n ∧ gs[0]? = some a ∧ Fin a w ∧ SumAt p w ((sumTo p.n p.bit : Nat) : Int) ∧ Leavers p.P t gs q ∧ Fr p.Sh B' t

theorem okT_mk {p : Ph} {ow : Nat → Nat} {h : Nat} {fn : FuncId} {pos : String} {k : Mark} (hk : k = .disable ∨ k = .enable ∨ (∃ a, k = .acquire a) ∨ ∃ a : Addr, a.block = p.Wg ∧ (k = .read a ∨ k = .write a)) :
    ∀ op ∈ MemOp.ofEvents 0 fn pos #[mk k], ∀ x, op.act.touch? = some x → OkT p ow h 0 x := fun op hop x hx => by
  obtain ⟨e, he, rfl⟩ := Go.Conc.mem_ofEvents hop
  simp only [Array.mem_singleton] at he
  subst he
  rw [ofEvent_mk] at hx
  rcases hk with rfl | rfl | ⟨a, rfl⟩ | ⟨a, ha, rfl | rfl⟩ <;> simp only [MemAct.touch?, Option.some.injEq, reduceCtorEq] at hx <;> subst hx <;> exact .inl ⟨.inl ⟨a, rfl, ha⟩, by simp, fun _ => rfl⟩

section
variable {p : Ph} {Anch Fin : Goroutine → World → Prop} {gs : Array Goroutine} {w w' : World} {sl : Option (Nat × Nat)} {j : Nat} {X : Nat → WX} {ow q : Nat → Nat} {tag tag' : CTag} {e0 e' f0 f' d0 B b : Nat} {M0 : Nat → Prop} {a a' : Goroutine} {t : Trace} {st sm st' sm' : Int} {es : Array Event}

theorem bookC (o : p.Ok) (ha : gs[0]? = some a) (hcom : Com p j gs w t X ow q d0 M0) (hgo : stepG p.P true a w = .go a' w' es) (hAs : Aside p.Wg w w') (hwg' : WgAt p.ty p.Wg w' st' sm')
    (hok : ∀ op ∈ MemOp.ofEvents 0 a.frame.fn a.frame.place es, ∀ x, op.act.touch? = some x → OkT p ow w.heap.size 0 x) (hnr : ∀ e ∈ es, e.loc ≠ .mark (.release (stA p.Wg)))
    (hcs' : CS p Anch Fin tag' e' j f' (deafBehind d0 es) M0 a' w') (hmode' : ConcN.Mode j (ds X) tag' st' sm')
    (hlt : phi p.n (Vc j (ds X)) tag' + e' < phi p.n (Vc j (ds X)) tag + e0 ∨ (phi p.n (Vc j (ds X)) tag' + e' = phi p.n (Vc j (ds X)) tag + e0 ∧ f' < f0)) :
    ∃ m₁ ops μ', runT p.P (crowd gs w sl) 0 = (.next m₁, ops) ∧
      Lt2 μ' (phi p.n (Vc j (ds X)) tag + e0 + Ssum j (ds X) + sumTo j (fun i => (X i).e), f0 + 2 * Fsum j (ds X) + 2 * sumTo p.m0 q) ∧ Inv p Anch Fin μ' m₁ (t ++ ops) :=
  callerStep (ow' := ow) o.m0 ha hcom hgo (Turn.wg hAs ⟨_, _, hwg'⟩ o.ne) (fun b hb => .inl hb) ⟨o.wg, o.s⟩ (fun _ _ => rfl) (fun b hb => by rw [hAs.size]; exact hcom.m0 b hb)
    (by rw [hAs.size]; exact hcom.ti.app o of_g fun op hop x hx => ⟨.inl rfl, hok op hop x hx⟩) hnr hcs' ((hAs.block _ (Ne.symm o.ne)).trans hcom.sum) hwg' hmode' hlt

theorem idleC (o : p.Ok) (ha : gs[0]? = some a) (hcom : Com p j gs w t X ow q d0 M0) (hwg : WgAt p.ty p.Wg w st sm) (hmode : ConcN.Mode j (ds X) tag st sm) (hgo : stepG p.P true a w = .go a' w #[])
    (hcs' : CS p Anch Fin tag e0 j f' d0 M0 a' w) (hf : f' < f0) :
    ∃ m₁ ops μ', runT p.P (crowd gs w sl) 0 = (.next m₁, ops) ∧
      Lt2 μ' (phi p.n (Vc j (ds X)) tag + e0 + Ssum j (ds X) + sumTo j (fun i => (X i).e), f0 + 2 * Fsum j (ds X) + 2 * sumTo p.m0 q) ∧ Inv p Anch Fin μ' m₁ (t ++ ops) :=
  bookC o ha hcom hgo (.refl p.Wg w) hwg (okT_none (by simp)) (by simp) hcs' hmode (.inr ⟨rfl, hf⟩)

/-- The go statement. -/
theorem Com.spawn (h : Com p j gs w t X ow q 0 (One b)) (o : p.Ok) {child : Goroutine} {x y : MemOp} {C e m : Nat} {v : Value} (hx : x.g = 0 ∧ x.act = .go (p.m0 + j)) (hy : y.g = p.m0 + j ∧ y.act = .start)
    (hC : One b C) (he : e = 0 → p.bit j = 0) (hc : Wk p j C v e (One b) m child w) :
    Com p (j + 1) ((gs.setIfInBounds 0 a').push child) w (t ++ #[x, y]) (upd X j ⟨⟨7, m, 0⟩, e, C, v, One b⟩) (upd ow b (p.m0 + j)) q 0 Mt := by
  have hm : ∀ op ∈ #[x, y], op = x ∨ op = y := by intro op hop; simpa using hop
  have hm1 := o.m0
  have hst : ∀ op ∈ #[x, y], op.act ≠ .mark .disable ∧ op.act ≠ .mark .enable := by
    intro op hop
    rcases hm op hop with rfl | rfl
    · rw [hx.2]; exact ⟨by simp, by simp⟩
    · rw [hy.2]; exact ⟨by simp, by simp⟩
  have hb := h.m0 b rfl
  have hget : ∀ k, 1 ≤ k → k < p.m0 + j → ((gs.setIfInBounds 0 a').push child)[k]? = gs[k]? := fun k k1 k2 => by
    rw [Array.getElem?_push_lt (by simp [h.size]; omega), ← Array.getElem?_eq_getElem, Array.getElem?_setIfInBounds_ne (by omega)]
  refine ⟨by simp [h.size]; omega, fun k k1 k2 => ?_, fun k hk => ?_, fun k hk => ?_, fun k hk c hc' => ?_, fun c hc' => hc'.elim, h.low, ?_, h.norel.app fun op hop => ?_, by rw [Deaf_still t 0 _ hst, h.deaf0], fun k hk => ?_, fun k hk => by rw [Deaf_still t _ _ hst]; exact h.above k (by omega), fun k hk hs => ?_, ?_⟩
  · obtain ⟨g, hg, hq⟩ := h.old k k1 k2
    exact ⟨g, (hget k k1 (by omega)).trans hg, by rw [Deaf_still t _ _ hst]; exact hq⟩
  · rcases Nat.lt_or_ge k j with hlt | hge
    · obtain ⟨g, hg, hsg⟩ := h.wk k hlt
      exact ⟨g, (hget _ (by omega) (by omega)).trans hg, by rw [upd_ne X _ (by omega)]; exact hsg⟩
    · obtain rfl : k = j := by omega
      refine ⟨child, ?_, by rw [upd_same]; exact .pre hc⟩
      rw [show p.m0 + k = (gs.setIfInBounds 0 a').size by rw [Array.size_setIfInBounds, h.size], Array.getElem?_push_size]
  · rcases Nat.lt_or_ge k j with hlt | hge
    · rw [upd_ne X _ (by omega)]; exact h.mc k hlt
    · obtain rfl : k = j := by omega
      rw [upd_same]; exact hC
  · rcases Nat.lt_or_ge k j with hlt | hge
    · rw [upd_ne X _ (by omega)] at hc'
      obtain ⟨h1, h2, h3⟩ := h.mo k hlt c hc'
      exact ⟨by rw [upd_ne ow _ (fun e => by subst e; omega)]; exact h1, h2, h3⟩
    · obtain rfl : k = j := by omega
      rw [upd_same] at hc'
      obtain rfl : c = b := hc'
      exact ⟨upd_same _ _ _, hb.2⟩
  · refine h.ti.fork (by omega) (by omega) hx hy h.deaf0 (h.above _ (Nat.le_refl _)) fun c => ?_
    by_cases e : c = b
    · subst e; exact .inr ⟨hb.1, upd_same _ _ _⟩
    · exact .inl (upd_ne ow _ e)
  · rcases hm op hop with rfl | rfl
    · rw [hx.2]; simp
    · rw [hy.2]; simp
  · rw [Deaf_still t _ _ hst]
    rcases Nat.lt_or_ge k j with hlt | hge
    · rw [h.deafW k hlt, upd_ne X _ (by omega)]
    · obtain rfl : k = j := by omega
      rw [upd_same]
      exact h.above _ (Nat.le_refl _)
  · rcases Nat.lt_or_ge k j with hlt | hge
    · rw [upd_ne X _ (by omega)] at hs
      obtain ⟨r, hr, hr0⟩ := h.rel k hlt hs
      refine ⟨r, hr.appNot fun op hop => ?_, hr0⟩
      rcases hm op hop with rfl | rfl
      · rw [hx.1]; omega
      · rw [hy.1]; omega
    · obtain rfl : k = j := by omega
      rw [upd_same] at hs
      simp at hs
  · have e1 : total p (j + 1) (upd X j ⟨⟨7, m, 0⟩, e, C, v, One b⟩) = total p j X := by
      simp only [total, sumTo, upd_same]
      rw [sumTo_congr (g := fun a => if (X a).e = 0 then p.bit a else 0) (fun a ha => by rw [upd_ne X _ (by omega)])]
      split
      · rename_i h0; rw [he h0]; rfl
      · rfl
    rw [e1]
    exact h.sum

/-- Nobody is counted any more: all only leave. -/
theorem Com.leavers (h : Com p p.n gs w t X ow q d0 M0) (hq : AllQuit p.n (ds X)) : Leavers p.P t gs (fun k => if k < p.m0 then q k else (X (k - p.m0)).d.fuel) := by
  refine ⟨fun i g h0 hg => ?_, fun k hk => h.above k (by rw [← h.size]; exact hk)⟩
  have hlt : i < p.m0 + p.n := by have := (Array.getElem?_eq_some_iff.1 hg).1; rw [h.size] at this; exact this
  rcases Nat.lt_or_ge i p.m0 with hi | hi
  · obtain ⟨g', hg', hqq⟩ := h.old i h0 hi
    rw [hg] at hg'; cases hg'
    simp only [hi, if_true]
    exact hqq
  · obtain ⟨k, rfl⟩ : ∃ k, i = p.m0 + k := ⟨i - p.m0, by omega⟩
    obtain ⟨g', hg', hs⟩ := h.wk k (by omega)
    rw [hg] at hg'; cases hg'
    have h1 : (X k).d.stage = 1 := hq k (by omega)
    rw [if_neg (by omega), show p.m0 + k - p.m0 = k by omega, h.deafW k (by omega)]
    rw [h1] at hs
    generalize (X k).e = ee at hs
    cases hs with
    | post _ hs => exact hs.quits rfl

set_option maxHeartbeats 1600000 in
theorem w1Step (o : p.Ok) (ha : gs[0]? = some a) (hcom : Com p p.n gs w t X ow q 1 Mt) (hwg : WgAt p.ty p.Wg w st sm) (hmode : ConcN.Mode p.n (ds X) .w1 st sm)
    (h : Goes p.P true (R0 p Mt) DC0 (AtW1 p Anch Fin) f0 a w) :
    ∃ m₁ ops μ', runT p.P (crowd gs w sl) 0 = (.next m₁, ops) ∧
      Lt2 μ' (phi p.n (Vc p.n (ds X)) .w1 + 0 + Ssum p.n (ds X) + sumTo p.n (fun i => (X i).e), f0 + 2 * Fsum p.n (ds X) + 2 * sumTo p.m0 q) ∧ Inv p Anch Fin μ' m₁ (t ++ ops) := by
  rcases Goes.cases h with hstop | ⟨m', rfl, hstep⟩
  · obtain ⟨_, hall⟩ := hstop w (.refl w)
    obtain ⟨ho, rfl, rfl, _⟩ := hmode.open_inv trivial
    have hV := Vc_le p.n (ds X)
    have hn := o.n
    obtain ⟨a', hgo, h0, hne⟩ := hall (Vc p.n (ds X)) (by omega) (by simpa [pend] using hwg)
    by_cases hv : Vc p.n (ds X) = 0
    · obtain ⟨m₂, hk⟩ := h0 hv
      refine bookC o ha hcom hgo (.refl p.Wg w) hwg (okT_book bk_rd) (norel_of_Bk bk_rd) (tag' := .ke) (.ke hk) ?_ (.inl (by simp only [phi]; omega))
      have e : ((Vc p.n (ds X) + pend .w1 : Nat) : Int) * KK = 0 := by rw [hv]; simp [pend]
      rw [e]
      exact .fin trivial (allQuit_of ho hv)
    · obtain ⟨m₂, hk⟩ := hne hv
      exact bookC o ha hcom hgo (.refl p.Wg w) hwg (okT_book bk_rd) (norel_of_Bk bk_rd) (tag' := .w2 (Vc p.n (ds X))) (.w2 hk) (hmode.reopen trivial trivial rfl (fun vs e => by cases e; omega)) (.inl (by simp only [phi]; omega))
  · obtain ⟨a', w', es, hgo, ⟨rfl, rfl⟩, hg'⟩ := hstep w (.refl w)
    exact idleC o ha hcom hwg hmode hgo (.w1 hg') (by omega)

theorem nr_mk {k : Mark} (hk : ∀ a, k ≠ .release a) : ∀ e ∈ #[mk k], e.loc ≠ .mark (.release (stA p.Wg)) := fun e he hl => by
  simp only [Array.mem_singleton] at he
  subst he
  simp only [mk, Loc.mark.injEq] at hl
  exact hk _ hl

set_option maxHeartbeats 1600000 in
theorem stepCaller (o : p.Ok) (hAn : ∀ g w, Anch g w → ∃ m, Goes p.P true (R0 p Mt) DC0 (AtW1 p Anch Fin) m g w) (hf : Fr p.Shun B p.t0)
    (ha : gs[0]? = some a) (hcs : CS p Anch Fin tag e0 j f0 d0 M0 a w) (hcom : Com p j gs w t X ow q d0 M0) (hwg : WgAt p.ty p.Wg w st sm) (hmode : ConcN.Mode j (ds X) tag st sm) (hrun : a.status = .running) :
    (∃ m₁ ops, runT p.P (crowd gs w sl) 0 = (.next m₁, ops) ∧ Done p Fin m₁ (t ++ ops)) ∨
    (∃ m₁ ops μ', runT p.P (crowd gs w sl) 0 = (.next m₁, ops) ∧
      Lt2 μ' (phi p.n (Vc j (ds X)) tag + e0 + Ssum j (ds X) + sumTo j (fun i => (X i).e), f0 + 2 * Fsum j (ds X) + 2 * sumTo p.m0 q) ∧ Inv p Anch Fin μ' m₁ (t ++ ops)) := by
  have hVj := Vc_le j (ds X)
  have hn := o.n
  have hm1 := o.m0
  cases hcs with
  | al hr h =>
    rename_i r
    rcases Goes.cases h with hstop | ⟨m', rfl, hstep⟩
    · obtain ⟨_, a', w', hgo, hgr, m₂, hk⟩ := hstop w (.refl w)
      have hsz := hgr.size
      refine .inr (callerStep (ow' := upd ow w.heap.size 0) (tag' := .sp r 6) (M' := One w.heap.size) o.m0 ha hcom hgo (Turn.gr hgr o hcom.low) (fun b hb => hb.elim) ⟨o.wg, o.s⟩ (fun b hb => upd_ne ow _ (by omega)) (fun b hb => ?_) ?_ (by simp) (.ow hr hk)
        ((hgr.block _ (by have := hcom.low; have := o.s; omega)).trans hcom.sum) (hwg.of_block (hgr.block _ (by have := hcom.low; have := o.wg; omega))) (hmode.reopen trivial trivial rfl (by simp)) (.inl (by simp only [phi]; omega)))
      · obtain rfl : b = w.heap.size := hb
        exact ⟨upd_same _ _ _, hcom.low, by omega⟩
      · rw [ofEv_nil, hsz]; exact hcom.ti.fresh _
    · obtain ⟨a', w', es, hgo, ⟨rfl, rfl⟩, hg'⟩ := hstep w (.refl w)
      exact .inr (idleC o ha hcom hwg hmode hgo (.al hr hg') (by omega))
  | ow hr h =>
    rename_i r b
    rcases Goes.cases h with hstop | ⟨m', rfl, hstep⟩
    · obtain ⟨_, a', w', es, hgo, hD, m₂, hk⟩ := hstop w (.refl w)
      have hbo := hcom.m0 b rfl
      have hbW : ¬ One b p.Wg := fun e => by have : p.Wg = b := e; have := o.wg; omega
      have hbS : ¬ One b p.S := fun e => by have : p.S = b := e; have := o.s; omega
      have hdf : deafBehind 0 es = 0 := deafBehind_idle (fun e he => ⟨(hD.2 e he).2.1, (hD.2 e he).2.2.1⟩) 0
      refine .inr (callerStep (ow' := ow) (tag' := .sp r 5) (M' := One b) o.m0 ha hcom hgo (Turn.ow hD.1 hbW hbS) (fun c hc => .inr (.inr hc)) ⟨o.wg, o.s⟩ (fun _ _ => rfl) (fun c hc => by rw [hD.1.size]; exact hcom.m0 c hc) ?_ (fun e he => (hD.2 e he).2.2.2) (by rw [hdf]; exact .kd5 hr hk)
        ((hD.1.block _ hbS).trans hcom.sum) (hwg.of_block (hD.1.block _ hbW)) (hmode.reopen trivial trivial rfl (by simp)) (.inl (by simp only [phi]; omega)))
      rw [hD.1.size]
      exact hcom.ti.app o of_g fun op hop x hx => ⟨.inl rfl, okT_own (fun c hc => hcom.m0 c hc) hD.2 op hop x hx⟩
    · obtain ⟨a', w', es, hgo, ⟨rfl, rfl⟩, hg'⟩ := hstep w (.refl w)
      exact .inr (idleC o ha hcom hwg hmode hgo (.ow hr hg') (by omega))
  | kd5 hr h =>
    rcases Goes.cases h with hstop | ⟨m', rfl, hstep⟩
    · obtain ⟨_, a', hgo, m₂, hk⟩ := hstop w (.refl w)
      exact .inr (bookC o ha hcom hgo (.refl p.Wg w) hwg (okT_mk (.inl rfl)) (nr_mk (by simp)) (.a1 hr hk) (hmode.reopen trivial trivial rfl (by simp)) (.inl (by simp only [phi]; omega)))
    · obtain ⟨a', w', es, hgo, ⟨rfl, rfl⟩, hg'⟩ := hstep w (.refl w)
      exact .inr (idleC o ha hcom hwg hmode hgo (.kd5 hr hg') (by omega))
  | a1 hr h =>
    rename_i r b
    rcases Goes.cases h with hstop | ⟨m', rfl, hstep⟩
    · obtain ⟨_, hall⟩ := hstop w (.refl w)
      obtain ⟨ho, rfl, rfl, _⟩ := hmode.open_inv trivial
      obtain ⟨a', hgo, m₂, hk⟩ := hall (Vc (p.n - (r + 1)) (ds X)) (by omega) (by simpa [pend] using hwg)
      have e : (((Vc (p.n - (r + 1)) (ds X) : Nat) : Int) + 1) * KK = ((Vc (p.n - (r + 1)) (ds X) + 1 : Nat) : Int) * KK := by simp
      rcases hk with hk | hk
      · refine .inr (bookC o ha hcom hgo (aside_setCell w (stA p.Wg) _) (hwg.setSt _) (okT_book bk_rw) (norel_of_Bk bk_rw) (.sr hr hk) ?_ (.inl (by simp only [phi]; omega)))
        rw [e]
        exact .opn trivial ho (by simp)
      · refine .inr (bookC o ha hcom hgo (aside_setCell w (stA p.Wg) _) (hwg.setSt _) (okT_book bk_rw) (norel_of_Bk bk_rw) (.ke2 hr hk) ?_ (.inl (by simp only [phi]; omega)))
        rw [e]
        exact .opn trivial ho (by simp)
    · obtain ⟨a', w', es, hgo, ⟨rfl, rfl⟩, hg'⟩ := hstep w (.refl w)
      exact .inr (idleC o ha hcom hwg hmode hgo (.a1 hr hg') (by omega))
  | sr hr h =>
    rcases Goes.cases h with hstop | ⟨m', rfl, hstep⟩
    · obtain ⟨_, a', hgo, m₂, hk⟩ := hstop w (.refl w)
      exact .inr (bookC o ha hcom hgo (.refl p.Wg w) hwg (okT_mk (.inr (.inr (.inr ⟨_, rfl, .inl rfl⟩)))) (nr_mk (by simp)) (.ke2 hr hk) (hmode.reopen trivial trivial rfl (by simp)) (.inl (by simp only [phi]; omega)))
    · obtain ⟨a', w', es, hgo, ⟨rfl, rfl⟩, hg'⟩ := hstep w (.refl w)
      exact .inr (idleC o ha hcom hwg hmode hgo (.sr hr hg') (by omega))
  | ke2 hr h =>
    rcases Goes.cases h with hstop | ⟨m', rfl, hstep⟩
    · obtain ⟨_, a', hgo, m₂, hk⟩ := hstop w (.refl w)
      exact .inr (bookC o ha hcom hgo (.refl p.Wg w) hwg (okT_mk (.inr (.inl rfl))) (nr_mk (by simp)) (.go hr hk) (hmode.reopen trivial trivial rfl (by simp)) (.inl (by simp only [phi]; omega)))
    · obtain ⟨a', w', es, hgo, ⟨rfl, rfl⟩, hg'⟩ := hstep w (.refl w)
      exact .inr (idleC o ha hcom hwg hmode hgo (.ke2 hr hg') (by omega))
  | go hr h =>
    rename_i r b
    rcases Goes.cases h with hstop | ⟨m', rfl, hstep⟩
    · obtain ⟨_, a', child, hsp, ⟨C, v, e, m₂, hC, he2, he0, hwk⟩, hnext⟩ := hstop w (.refl w)
      obtain ⟨ho, rfl, rfl, _⟩ := hmode.open_inv trivial
      have hrun' := runT_crowd_spawn (P := p.P) (sl := sl) (i := 0) ha (by simpa using hsp)
      rw [hcom.size] at hrun'
      have hcom' := hcom.spawn o (a' := a') (x := { g := 0, fn := a.frame.fn, pos := a.frame.place, act := .go (p.m0 + (p.n - (r + 1))) }) (y := { g := p.m0 + (p.n - (r + 1)), fn := child.frame.fn, pos := a.frame.place, act := .start }) ⟨rfl, rfl⟩ ⟨rfl, rfl⟩ hC he0 hwk
      have eops : ((MemOp.ofEvents 0 a.frame.fn a.frame.place #[]).push { g := 0, fn := a.frame.fn, pos := a.frame.place, act := .go (p.m0 + (p.n - (r + 1))) }).push { g := p.m0 + (p.n - (r + 1)), fn := child.frame.fn, pos := a.frame.place, act := .start } = #[({ g := 0, fn := a.frame.fn, pos := a.frame.place, act := .go (p.m0 + (p.n - (r + 1))) } : MemOp), { g := p.m0 + (p.n - (r + 1)), fn := child.frame.fn, pos := a.frame.place, act := .start }] := by
        rw [ofEvents_eq]; simp
      rw [eops] at hrun'
      generalize hX : upd X (p.n - (r + 1)) ⟨⟨7, m₂, 0⟩, e, C, v, One b⟩ = X' at hcom'
      have hds : ds X' = upd (ds X) (p.n - (r + 1)) ⟨7, m₂, 0⟩ := by rw [← hX, ds_upd]
      have ej : p.n - (r + 1) + 1 = p.n - r := by omega
      have eV : Vc (p.n - r) (ds X') = Vc (p.n - (r + 1)) (ds X) + 1 := by
        rw [← ej, hds]
        simp only [Vc, sumTo, upd_same]
        rw [sumTo_upd_out (ds X) _ cnt (Nat.le_refl _)]; rfl
      have eS : Ssum (p.n - r) (ds X') = Ssum (p.n - (r + 1)) (ds X) + 7 := by
        rw [← ej, hds]
        simp only [Ssum, sumTo, upd_same]
        rw [sumTo_upd_out (ds X) _ WD.stage (Nat.le_refl _)]
      have eE : sumTo (p.n - r) (fun i => (X' i).e) = sumTo (p.n - (r + 1)) (fun i => (X i).e) + e := by
        rw [← ej, ← hX]
        simp only [sumTo, upd_same]
        rw [sumTo_upd_out X _ WX.e (Nat.le_refl _)]
      have ho' : OpenSt (p.n - r) (ds X') := fun i hi => by
        rw [hds]
        by_cases e : i = p.n - (r + 1)
        · subst e; rw [upd_same]; simp
        · rw [upd_ne (ds X) _ e]; exact ho i (by omega)
      have ha' : ((gs.setIfInBounds 0 a').push child)[0]? = some a' := by
        rw [Array.getElem?_push_lt (by simp [hcom.size]; omega), ← Array.getElem?_eq_getElem]
        rw [Array.getElem?_setIfInBounds_self_of_lt (by rw [hcom.size]; omega)]
      rw [ej] at hcom'
      have est : ∀ tag', pend tag' = 0 → ((Vc (p.n - (r + 1)) (ds X) + pend (.sp r 1) : Nat) : Int) * KK = ((Vc (p.n - r) (ds X') + pend tag' : Nat) : Int) * KK := fun tag' hp => by rw [eV, hp]; simp [pend]
      have fin : ∀ (tag' : CTag) (m₃ : Nat), CS p Anch Fin tag' 0 (p.n - r) m₃ 0 Mt a' w → isOpen tag' → pend tag' = 0 → (∀ vs, tag' ≠ .w2 vs) → phi p.n (Vc (p.n - r) (ds X')) tag' + 9 < phi p.n (Vc (p.n - (r + 1)) (ds X)) (.sp r 1) →
          ∃ m₁ ops μ', runT p.P (crowd gs w sl) 0 = (.next m₁, ops) ∧
            Lt2 μ' (phi p.n (Vc (p.n - (r + 1)) (ds X)) (.sp r 1) + 0 + Ssum (p.n - (r + 1)) (ds X) + sumTo (p.n - (r + 1)) (fun i => (X i).e), f0 + 2 * Fsum (p.n - (r + 1)) (ds X) + 2 * sumTo p.m0 q) ∧ Inv p Anch Fin μ' m₁ (t ++ ops) := fun tag' m₃ hc h1 h2 h3 h4 => by
        refine ⟨_, _, (phi p.n (Vc (p.n - r) (ds X')) tag' + 0 + Ssum (p.n - r) (ds X') + sumTo (p.n - r) (fun i => (X' i).e), m₃ + 2 * Fsum (p.n - r) (ds X') + 2 * sumTo p.m0 q), hrun', Prod.Lex.left _ _ (by omega),
          _, w, sl, p.n - r, X', _, q, tag', 0, m₃, 0, Mt, a', _, _, rfl, ha', hc, hcom', hwg, ?_, rfl⟩
        rw [est tag' h2]
        exact .opn h1 ho' (fun vs e => absurd e (h3 vs))
      cases r with
      | zero =>
        obtain ⟨m₃, hk⟩ := hnext
        exact .inr (fin .kd m₃ (.kd hk) trivial rfl (by simp) (by simp only [phi]; omega))
      | succ r' =>
        obtain ⟨m₃, hk⟩ := hnext
        exact .inr (fin (.sp r' 7) m₃ (.al (by omega) hk) trivial rfl (by simp) (by simp only [phi]; omega))
    · obtain ⟨a', w', es, hgo, ⟨rfl, rfl⟩, hg'⟩ := hstep w (.refl w)
      exact .inr (idleC o ha hcom hwg hmode hgo (.go hr hg') (by omega))
  | kd h =>
    rcases Goes.cases h with hstop | ⟨m', rfl, hstep⟩
    · obtain ⟨_, a', hgo, m₂, hk⟩ := hstop w (.refl w)
      exact .inr (bookC o ha hcom hgo (.refl p.Wg w) hwg (okT_mk (.inl rfl)) (nr_mk (by simp)) (.anch hk) (hmode.reopen trivial trivial rfl (by simp)) (.inl (by simp only [phi]; omega)))
    · obtain ⟨a', w', es, hgo, ⟨rfl, rfl⟩, hg'⟩ := hstep w (.refl w)
      exact .inr (idleC o ha hcom hwg hmode hgo (.kd hg') (by omega))
  | anch h =>
    rcases Goes.cases h with hstop | ⟨m', rfl, hstep⟩
    · obtain ⟨m₂, hk⟩ := hAn a w (hstop w (.refl w))
      obtain ⟨m₁, ops, μ', h1, h2, h3⟩ := w1Step (sl := sl) o ha hcom hwg (hmode.reopen trivial trivial rfl (by simp)) hk
      exact .inr ⟨m₁, ops, μ', h1, lt2_trans h2 (Prod.Lex.left _ _ (by simp only [phi]; omega)), h3⟩
    · obtain ⟨a', w', es, hgo, ⟨rfl, rfl⟩, hg'⟩ := hstep w (.refl w)
      exact .inr (idleC o ha hcom hwg hmode hgo (.anch hg') (by omega))
  | w1 h => exact .inr (w1Step o ha hcom hwg hmode h)
  | w2 h =>
    rename_i vs
    rcases Goes.cases h with hstop | ⟨m', rfl, hstep⟩
    · obtain ⟨_, hall⟩ := hstop w (.refl w)
      obtain ⟨ho, rfl, rfl, hw2⟩ := hmode.open_inv trivial
      obtain ⟨hle, h1⟩ := hw2 vs rfl
      obtain ⟨hhit, hmiss⟩ := hall (Vc p.n (ds X)) (by omega) (by simpa [pend] using hwg)
      by_cases e : Vc p.n (ds X) = vs
      · obtain ⟨a', hgo, m₂, hk⟩ := hhit e
        exact .inr (bookC o ha hcom hgo (aside_setCell w (stA p.Wg) _) (hwg.setSt _) (okT_book bk_rw) (norel_of_Bk bk_rw) (.sw hk) (.reg trivial ho (by omega)) (.inl (by simp only [phi]; omega)))
      · obtain ⟨a', hgo, m₂, hk⟩ := hmiss e
        exact .inr (bookC o ha hcom hgo (.refl p.Wg w) hwg (okT_book bk_rd) (norel_of_Bk bk_rd) (.anch hk) (hmode.reopen trivial trivial rfl (by simp)) (.inl (by simp only [phi]; omega)))
    · obtain ⟨a', w', es, hgo, ⟨rfl, rfl⟩, hg'⟩ := hstep w (.refl w)
      exact .inr (idleC o ha hcom hwg hmode hgo (.w2 hg') (by omega))
  | sw h =>
    rcases Goes.cases h with hstop | ⟨m', rfl, hstep⟩
    · obtain ⟨_, a', hgo, m₂, hk⟩ := hstop w (.refl w)
      exact .inr (bookC o ha hcom hgo (.refl p.Wg w) hwg (okT_mk (.inr (.inr (.inr ⟨_, rfl, .inr rfl⟩)))) (nr_mk (by simp)) (.w3 hk) hmode (.inl (by simp only [phi]; omega)))
    · obtain ⟨a', w', es, hgo, ⟨rfl, rfl⟩, hg'⟩ := hstep w (.refl w)
      exact .inr (idleC o ha hcom hwg hmode hgo (.sw hg') (by omega))
  | w3 h =>
    rcases Goes.cases h with hstop | ⟨m', rfl, hstep⟩
    · obtain ⟨_, hoff, hblk, htake⟩ := hstop w (.refl w)
      cases hmode with
      | opn h1 _ _ => exact h1.elim
      | reg h1 h2 h3 => exact .inr (bookC o ha hcom (hblk ⟨_, hwg⟩) (.refl p.Wg w) hwg (okT_none (by simp)) (by simp) (.blk hstop) (.reg trivial h2 h3) (.inr ⟨rfl, by omega⟩))
      | last L h1 h2 h3 h4 => exact .inr (bookC o ha hcom (hblk ⟨_, hwg⟩) (.refl p.Wg w) hwg (okT_none (by simp)) (by simp) (.blk hstop) (.last L trivial h2 h3 h4) (.inr ⟨rfl, by omega⟩))
      | sema h2 =>
        obtain ⟨a', hgo, m₂, hk⟩ := htake hwg
        exact .inr (bookC o ha hcom hgo (aside_setCell w (smA p.Wg) _) (hwg.setSm 0) (okT_book bk_sem) (norel_of_Bk bk_sem) (.w4 hk) (.fin trivial h2) (.inl (by simp only [phi]; omega)))
      | fin h1 _ => exact h1.elim
    · obtain ⟨a', w', es, hgo, ⟨rfl, rfl⟩, hg'⟩ := hstep w (.refl w)
      exact .inr (idleC o ha hcom hwg hmode hgo (.w3 hg') (by omega))
  | blk h => simp at hrun
  | w4 h =>
    rcases Goes.cases h with hstop | ⟨m', rfl, hstep⟩
    · obtain ⟨_, hx⟩ := hstop w (.refl w)
      obtain ⟨hq, rfl, rfl⟩ := hmode.fin_inv trivial
      obtain ⟨a', hgo, m₂, hk⟩ := hx hwg
      exact .inr (bookC o ha hcom hgo (.refl p.Wg w) hwg (okT_book bk_rd) (norel_of_Bk bk_rd) (.ke hk) (.fin trivial hq) (.inl (by simp only [phi]; omega)))
    · obtain ⟨a', w', es, hgo, ⟨rfl, rfl⟩, hg'⟩ := hstep w (.refl w)
      exact .inr (idleC o ha hcom hwg hmode hgo (.w4 hg') (by omega))
  | ke h =>
    rcases Goes.cases h with hstop | ⟨m', rfl, hstep⟩
    · obtain ⟨_, a', hgo, m₂, hk⟩ := hstop w (.refl w)
      obtain ⟨hq, rfl, rfl⟩ := hmode.fin_inv trivial
      exact .inr (bookC o ha hcom hgo (.refl p.Wg w) hwg (okT_mk (.inr (.inl rfl))) (nr_mk (by simp)) (.acq hk) (.fin trivial hq) (.inl (by simp only [phi]; omega)))
    · obtain ⟨a', w', es, hgo, ⟨rfl, rfl⟩, hg'⟩ := hstep w (.refl w)
      exact .inr (idleC o ha hcom hwg hmode hgo (.ke hg') (by omega))
  | acq h =>
    rcases Goes.cases h with hstop | ⟨m', rfl, hstep⟩
    · obtain ⟨_, a', hgo, hfin⟩ := hstop w (.refl w)
      obtain ⟨hq, rfl, rfl⟩ := hmode.fin_inv trivial
      have hrunT := runT_crowd_go (P := p.P) (sl := sl) (i := 0) ha (by simpa using hgo)
      have e1 : MemOp.ofEvents 0 a.frame.fn a.frame.place #[mk (.acquire (stA p.Wg))] = #[{ g := 0, fn := a.frame.fn, pos := a.frame.place, act := .mark (.acquire (stA p.Wg)) }] := by rw [ofEvents_eq]; simp [ofEvent_mk]
      have hL := hcom.leavers hq
      obtain ⟨B', _, hfr⟩ := hcom.ti.close o hf hcom.norel hcom.deaf0 (fun g h1 h2 => by
        obtain ⟨k, rfl⟩ : ∃ k, g = p.m0 + k := ⟨g - p.m0, by omega⟩
        exact hcom.rel k (by omega) (by have : (X k).d.stage = 1 := hq k (by omega); omega)) (y := { g := 0, fn := a.frame.fn, pos := a.frame.place, act := .mark (.acquire (stA p.Wg)) }) rfl rfl
      refine .inl ⟨_, _, hrunT, _, a', w, sl, (fun k => if k < p.m0 then q k else (X (k - p.m0)).d.fuel), B', rfl, by simp [hcom.size], setGetS _ _ (by rw [hcom.size]; omega), hfin, ?_, ⟨fun k x hk hx => ?_, fun k hk => ?_⟩, by rw [e1]; exact hfr⟩
      · have et : total p p.n X = sumTo p.n p.bit := sumTo_congr fun k hk => by
          obtain ⟨g, _, hs⟩ := hcom.wk k hk
          have h1 : (X k).d.stage = 1 := hq k hk
          rw [h1] at hs
          generalize hee : (X k).e = ee at hs ⊢
          cases hs with
          | post _ _ => simp
        rw [← et]; exact hcom.sum
      · rw [setGet _ _ (by omega)] at hx
        obtain ⟨y, hy, rfl⟩ := Option.map_eq_some_iff.1 hx
        have hqy := hL.old k y hk hy
        rw [woken_quitsD hqy, Deaf_other t (by omega) _ g_of_ofEvents]
        exact hqy
      · rw [Deaf_other t (by simp [hcom.size] at hk; omega) _ g_of_ofEvents]
        exact hL.above k (by simpa using hk)
    · obtain ⟨a', w', es, hgo, ⟨rfl, rfl⟩, hg'⟩ := hstep w (.refl w)
      exact .inr (idleC o ha hcom hwg hmode hgo (.acq hg') (by omega))
end
end Go.Proofs.Ytmkpaciaollcbaa

/- Workers who read, add to one sum and leave, 5: the phase, on every tape. -/
namespace Go.Proofs.Ytmkpaciaollcbaa
open Go.Conc Go.ConcN
open Go.ConcR (KK wgBlock WgAt stA smA rd wr mk Payload DC0)

section
variable {p : Ph} {Anch Fin : Goroutine → World → Prop} {gs : Array Goroutine} {w : World} {j : Nat} {X : Nat → WX} {ow q : Nat → Nat} {tag : CTag} {e0 f0 d0 B : Nat} {M0 : Nat → Prop} {a : Goroutine} {t : Trace} {st sm : Int}

theorem someone_runs (hAr : ∀ g w, Anch g w → g.status = .running) (ha : gs[0]? = some a) (hcs : CS p Anch Fin tag e0 j f0 d0 M0 a w) (hcom : Com p j gs w t X ow q d0 M0) (hmode : ConcN.Mode j (ds X) tag st sm) :
    ∃ (i : Nat) (g : Goroutine), gs[i]? = some g ∧ g.status = .running := by
  rcases hcs.status hAr with ⟨hs, _⟩ | ⟨_, rfl⟩
  · exact ⟨0, a, ha, hs⟩
  · cases hmode with
    | opn h1 _ _ => exact h1.elim
    | reg _ _ h3 =>
      obtain ⟨i, hi, h5⟩ := exists_counted h3
      obtain ⟨g, hg, hs⟩ := hcom.wk i hi
      exact ⟨p.m0 + i, g, hg, hs.running_of (by simp only [ds] at h5; omega)⟩
    | last L _ h2 h3 _ =>
      obtain ⟨g, hg, hs⟩ := hcom.wk L h2
      exact ⟨p.m0 + L, g, hg, hs.running_of (by simp only [ds] at h3; omega)⟩
    | fin h1 _ => exact h1.elim

theorem all_awake (hAr : ∀ g w, Anch g w → g.status = .running) (ha : gs[0]? = some a) (hcs : CS p Anch Fin tag e0 j f0 d0 M0 a w) (hcom : Com p j gs w t X ow q d0 M0) : ∀ g ∈ gs, awake g := by
  intro g hg tm
  obtain ⟨i, hi⟩ := Array.mem_iff_getElem?.1 hg
  rcases Nat.eq_zero_or_pos i with rfl | hpos
  · rw [ha] at hi; cases hi
    rcases hcs.status hAr with ⟨hs, _⟩ | ⟨hs, _⟩ <;> rw [hs] <;> simp
  · have hlt := (Array.getElem?_eq_some_iff.1 hi).1
    rw [hcom.size] at hlt
    rcases Nat.lt_or_ge i p.m0 with h | h
    · obtain ⟨g', hg', hq⟩ := hcom.old i hpos h
      rw [hi] at hg'; cases hg'
      rcases hq.status with h | h <;> rw [h] <;> simp
    · obtain ⟨k, rfl⟩ : ∃ k, i = p.m0 + k := ⟨i - p.m0, by omega⟩
      obtain ⟨g', hg', hs⟩ := hcom.wk k (by omega)
      rw [hi] at hg'; cases hg'
      rcases hs.status with h | h <;> rw [h] <;> simp
end

section
variable {p : Ph} {Anch Fin : Goroutine → World → Prop} {B : Nat}

theorem phase_step (o : p.Ok) (hAr : ∀ g w, Anch g w → g.status = .running) (hAn : ∀ g w, Anch g w → ∃ m, Goes p.P true (R0 p Mt) DC0 (AtW1 p Anch Fin) m g w) (hf : Fr p.Shun B p.t0) :
    ∀ μ m t, Inv p Anch Fin μ m t → (∃ m₁ ops, stepT p.P m = (.next m₁, ops) ∧ Done p Fin m₁ (t ++ ops)) ∨ ∃ m₁ ops μ', stepT p.P m = (.next m₁, ops) ∧ Lt2 μ' μ ∧ Inv p Anch Fin μ' m₁ (t ++ ops) := by
  rintro μ m t ⟨gs, w, sl, j, X, ow, q, tag, e0, f0, d0, M0, a, st, sm, rfl, ha, hcs, hcom, hwg, hmode, rfl⟩
  obtain ⟨i, g, d, sl', hg, hrun, hstep⟩ := crowd_pick (P := p.P) (w := w) (sl := sl) (all_awake hAr ha hcs hcom) (someone_runs hAr ha hcs hcom hmode)
  rw [hstep]
  have hcs' := hcs.rely (w' := w.at d) ⟨rfl, rfl, rfl, id, fun _ _ _ _ => rfl, fun _ _ => rfl, Nat.le_refl _, id, id⟩
  have hcom' := hcom.at d
  have hwg' : WgAt p.ty p.Wg (w.at d) st sm := hwg
  have hm1 := o.m0
  rcases Nat.eq_zero_or_pos i with rfl | hpos
  · rw [ha] at hg; cases hg
    exact stepCaller (sl := sl') o hAn hf ha hcs' hcom' hwg' hmode hrun
  · rcases Nat.lt_or_ge i p.m0 with h | h
    · exact .inr (oldStep o hAr ha hcs' hcom' hwg' hmode hpos h hg hrun)
    · have hlt := (Array.getElem?_eq_some_iff.1 hg).1
      rw [hcom.size] at hlt
      obtain ⟨k, rfl⟩ : ∃ k, i = p.m0 + k := ⟨i - p.m0, by omega⟩
      exact .inr (stepWorker o hAr ha hcs' hcom' hwg' hmode (by omega) hg hrun)

theorem phase_runs (o : p.Ok) (hAr : ∀ g w, Anch g w → g.status = .running) (hAn : ∀ g w, Anch g w → ∃ m, Goes p.P true (R0 p Mt) DC0 (AtW1 p Anch Fin) m g w) (hf : Fr p.Shun B p.t0) (μ : Nat × Nat) :
    ∀ m t, Inv p Anch Fin μ m t → ∃ N m' t', runNT p.P N m t = (.next m', t') ∧ Done p Fin m' t' := by
  induction μ using (Prod.lex Nat.lt_wfRel Nat.lt_wfRel).wf.induction with
  | _ μ ih =>
    intro m t h
    rcases phase_step o hAr hAn hf μ m t h with ⟨m₁, ops, hs, hd⟩ | ⟨m₁, ops, μ', hs, hlt, hi⟩
    · exact ⟨1, m₁, t ++ ops, by simp only [runNT, hs], hd⟩
    · obtain ⟨N, m', t', hr, hd⟩ := ih μ' hlt m₁ (t ++ ops) hi
      exact ⟨N + 1, m', t', by simp only [runNT, hs]; exact hr, hd⟩

/-- From a frame to a frame: on whatever tape. -/
theorem phase (o : p.Ok) (hAr : ∀ g w, Anch g w → g.status = .running) (hAn : ∀ g w, Anch g w → ∃ m, Goes p.P true (R0 p Mt) DC0 (AtW1 p Anch Fin) m g w) (hf : Fr p.Shun B p.t0)
    {gs : Array Goroutine} {a : Goroutine} {w : World} {sl : Option (Nat × Nat)} {q : Nat → Nat} (hsz : gs.size = p.m0) (ha : gs[0]? = some a) (hL : Leavers p.P p.t0 gs q)
    (hlow : p.Low ≤ w.heap.size) (hwg : WgAt p.ty p.Wg w 0 0) (hsum : SumAt p w 0) (h : Sp p Anch p.n a w) :
    ∃ N m' t', runNT p.P N (crowd gs w sl) p.t0 = (.next m', t') ∧ Done p Fin m' t' := by
  let X : Nat → WX := fun _ => ⟨⟨0, 0, 0⟩, 0, 0, undef, fun _ => False⟩
  have hcom : Com p 0 gs w p.t0 X (fun _ => 0) q 0 Mt :=
    ⟨by simp [hsz], fun i h1 h2 => by
      have hlt : i < gs.size := by omega
      exact ⟨gs[i], Array.getElem?_eq_getElem hlt, hL.old i _ h1 (Array.getElem?_eq_getElem hlt)⟩, fun i hi => by omega, fun i hi => by omega, fun i hi => by omega, fun b hb => hb.elim, hlow, TI.start hf (by omega), (fun i hi => by simp [Trace.act?, Array.getElem?_eq_none hi]), hf.past.hears, fun i hi => by omega, fun k hk => hL.above k (by omega), fun i hi => by omega, hsum⟩
  have hmode : ∀ tag, isOpen tag → pend tag = 0 → (∀ vs, tag ≠ .w2 vs) → ConcN.Mode 0 (ds X) tag 0 0 := fun tag h1 h2 h3 => by
    have := ConcN.Mode.opn (j := 0) (D := ds X) h1 (fun i hi => by omega) (fun vs e => absurd e (h3 vs))
    simpa [Vc, sumTo, h2] using this
  have hInv : ∃ μ, Inv p Anch Fin μ (crowd gs w sl) p.t0 := by
    cases hn : p.n with
    | zero =>
      rw [hn] at h
      obtain ⟨m, hk⟩ := h
      have hc : CS p Anch Fin .kd 0 p.n m 0 Mt a w := .kd hk
      rw [hn] at hc
      exact ⟨_, gs, w, sl, 0, X, _, q, .kd, 0, m, 0, Mt, a, 0, 0, rfl, ha, hc, hcom, hwg, hmode .kd trivial rfl (by simp), rfl⟩
    | succ r =>
      rw [hn] at h
      obtain ⟨m, hk⟩ := h
      have hc := CS.al (Fin := Fin) (show r < p.n by omega) hk
      rw [show p.n - (r + 1) = 0 by omega] at hc
      exact ⟨_, gs, w, sl, 0, X, _, q, .sp r 7, 0, m, 0, Mt, a, 0, 0, rfl, ha, hc, hcom, hwg, hmode (.sp r 7) trivial rfl (by simp), rfl⟩
  obtain ⟨μ, hI⟩ := hInv
  exact phase_runs o hAr hAn hf μ _ _ hI
end
end Go.Proofs.Ytmkpaciaollcbaa
