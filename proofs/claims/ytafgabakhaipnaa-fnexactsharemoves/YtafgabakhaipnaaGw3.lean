/- Workers who read, add to one sum and leave, 3: a worker's step. -/
import Derived.Test.YtafgabakhaipnaaJ8
namespace Go.Proofs.Ytafgabakhaipnaa
open Go.Conc Go.ConcN Go.RowKit
open Go.ConcR (KK wgBlock WgAt stA smA rd wr mk Payload DC0 Bk g_of_ofEvents bk_of_mute ofEvent_loc_mark ofEvent_mk)

theorem sum_same {j i : Nat} (p : Ph) (X : Nat → WX) (x : WX) (h : (if x.e = 0 then p.bit i else 0) = (if (X i).e = 0 then p.bit i else 0)) : total p j (upd X i x) = total p j X :=
  sumTo_congr fun a _ => by
    by_cases e : a = i
    · subst e; rw [upd_same]; exact h
    · rw [upd_ne X _ e]
theorem sum_more {j i : Nat} (p : Ph) (X : Nat → WX) (x : WX) (hi : i < j) (h0 : x.e = 0) (h1 : (X i).e ≠ 0) : total p j (upd X i x) = total p j X + p.bit i := by
  have key : ∀ j, i < j → sumTo j (fun a => if (upd X i x a).e = 0 then p.bit a else 0) = sumTo j (fun a => if (X a).e = 0 then p.bit a else 0) + p.bit i := by
    intro j
    induction j with
    | zero => intro h; omega
    | succ j ih =>
      intro h
      simp only [sumTo]
      by_cases e : j = i
      · subst e
        rw [upd_same, if_pos h0, if_neg h1, sumTo_congr (g := fun a => if (X a).e = 0 then p.bit a else 0) (fun a ha => by rw [upd_ne X x (by omega)])]
        omega
      · rw [ih (by omega), upd_ne X x e]; omega
  exact key j hi
theorem sum_le {p : Ph} {j : Nat} (X : Nat → WX) (hj : j ≤ p.n) : total p j X ≤ sumTo p.n p.bit := by
  have h1 : ∀ j, total p j X ≤ sumTo j p.bit := fun j => by
    induction j with
    | zero => exact Nat.le_refl _
    | succ j ih =>
      simp only [total, sumTo] at *
      split <;> omega
  have h2 : ∀ k j, sumTo j p.bit ≤ sumTo (j + k) p.bit := fun k => by
    induction k with
    | zero => exact fun j => Nat.le_refl _
    | succ k ih => exact fun j => Nat.le_trans (ih j) (by rw [show j + (k + 1) = (j + k) + 1 by omega]; simp only [sumTo]; omega)
  have := h2 (p.n - j) j
  rw [show j + (p.n - j) = p.n by omega] at this
  exact Nat.le_trans (h1 j) this
theorem bit_le {p : Ph} {j i : Nat} (X : Nat → WX) (hi : i < j) (hj : j ≤ p.n) (he : (X i).e ≠ 0) : total p j X + p.bit i ≤ sumTo p.n p.bit := by
  have h := sum_more p X (⟨⟨0, 0, 0⟩, 0, 0, undef, fun _ => False⟩ : WX) hi rfl he
  rw [← h]
  exact sum_le _ hj

section
variable {p : Ph} {ow : Nat → Nat} {h g : Nat} {M : Nat → Prop} {fn : FuncId} {pos : String} {es : Array Event}
theorem okT_book (hb : ∀ e ∈ es, Bk p.Wg e) : ∀ op ∈ MemOp.ofEvents g fn pos es, ∀ x, op.act.touch? = some x → OkT p ow h g x := fun op hop x hx => by
  rcases (okW_of_Bk (Own := No) (Rd := No) (k := g) hb op hop).2 x hx with ⟨h1, h2, h3⟩ | h1 | h1
  · exact .inl ⟨.inl h1, h2, fun e => absurd e h3⟩
  · exact h1.elim
  · exact h1.1.elim
theorem okT_own (hM : ∀ b, M b → ow b = g ∧ p.Low ≤ b ∧ b < h) (he : ∀ e ∈ es, EvK p M e) : ∀ op ∈ MemOp.ofEvents g fn pos es, ∀ x, op.act.touch? = some x → OkT p ow h g x := fun op hop x hx => by
  obtain ⟨e, hee, rfl⟩ := Go.Conc.mem_ofEvents hop
  rcases (he e hee).1 x hx with ⟨h1, h2, h3⟩ | ⟨h1, a, h2, h3, h4⟩
  · exact .inl ⟨.inl h1, h2, fun e => absurd e h3⟩
  · exact .inr ⟨h1, a, h2, h3, h4.imp id fun hm => ⟨(hM _ hm).2.1, (hM _ hm).2.2, (hM _ hm).1⟩⟩
theorem okT_none (hn : ∀ e ∈ es, (MemAct.ofEvent e).touch? = none) : ∀ op ∈ MemOp.ofEvents g fn pos es, ∀ x, op.act.touch? = some x → OkT p ow h g x := fun op hop x hx => by
  obtain ⟨e, he, rfl⟩ := Go.Conc.mem_ofEvents hop
  rw [hn e he] at hx; cases hx
end
theorem of_g {g : Nat} {fn : FuncId} {pos : String} {es : Array Event} : ∀ op ∈ MemOp.ofEvents g fn pos es, op.g = g := fun op hop => by obtain ⟨e, _, rfl⟩ := Go.Conc.mem_ofEvents hop; rfl
theorem SumAt.set {p : Ph} {w : World} {s : Int} (h : SumAt p w s) (v : Int) : SumAt p (w.setCell (sA p) (.int .u32 v)) v := by
  unfold SumAt at h ⊢
  rw [sA, setCell_eq_setRow w p.S 0 _ p.tS (0, 0) _ h, setRow_heap w p.S _ _ p.tS _ h]
  simp
theorem ofEv_nil (t : Trace) (g : Nat) (fn : FuncId) (pos : String) : t ++ MemOp.ofEvents g fn pos #[] = t := by rw [ofEvents_eq]; simp

section
variable {p : Ph} {Anch Fin : Goroutine → World → Prop} {gs : Array Goroutine} {w : World} {sl : Option (Nat × Nat)} {j : Nat} {X : Nat → WX} {ow q : Nat → Nat} {tag : CTag} {e0 f0 d0 : Nat} {M0 : Nat → Prop} {a : Goroutine} {t : Trace} {st sm : Int}

set_option maxHeartbeats 1600000 in
theorem stepWorker (o : p.Ok) (hAr : ∀ g w, Anch g w → g.status = .running)
    (ha : gs[0]? = some a) (hcs : CS p Anch Fin tag e0 j f0 d0 M0 a w) (hcom : Com p j gs w t X ow q d0 M0) (hwg : WgAt p.ty p.Wg w st sm) (hmode : ConcN.Mode j (ds X) tag st sm)
    {i : Nat} (hi : i < j) {g : Goroutine} (hg : gs[p.m0 + i]? = some g) (hrun : g.status = .running) :
    ∃ m₁ ops μ', runT p.P (crowd gs w sl) (p.m0 + i) = (.next m₁, ops) ∧
      Lt2 μ' (phi p.n (Vc j (ds X)) tag + e0 + Ssum j (ds X) + sumTo j (fun i => (X i).e), f0 + 2 * Fsum j (ds X) + 2 * sumTo p.m0 q) ∧ Inv p Anch Fin μ' m₁ (t ++ ops) := by
  obtain ⟨g₁, hg₁, hs⟩ := hcom.wk i hi
  obtain rfl : g = g₁ := by rw [hg] at hg₁; exact Option.some.inj hg₁
  have hm1 := o.m0
  have hWS : p.Wg < p.Low ∧ p.S < p.Low := ⟨o.wg, o.s⟩
  have hMi := hcom.mo i hi
  have hMW : ¬ (X i).m p.Wg := fun h => by have := (hMi _ h).2.1; have := o.wg; omega
  have hMS : ¬ (X i).m p.S := fun h => by have := (hMi _ h).2.1; have := o.s; omega
  have hgN : p.m0 + i = 0 ∨ (p.m0 ≤ p.m0 + i ∧ p.m0 + i < p.m0 + j) := .inr ⟨by omega, by omega⟩
  have hb := hcs.bound
  have hVj := Vc_le j (ds X)
  generalize hst : (X i).d.stage = s at hs
  generalize hfu : (X i).d.fuel = m at hs
  generalize hde : (X i).d.deaf = dd at hs
  generalize hee : (X i).e = e at hs
  have hsd : (ds X i).stage = s := hst
  have hdk : Deaf t (p.m0 + i) = dd := by rw [hcom.deafW i hi, hde]
  cases hs with
  | pre h =>
    have mode7 : ∀ m', ConcN.Mode j (upd (ds X) i ⟨7, m', 0⟩) tag st sm := fun m' => by have := hmode.same (i := i) m' 0; rwa [hsd] at this
    -- an own step ahead of the stop
    have step : ∀ {g' : Goroutine} {w' : World} {es : Array Event} {m' : Nat}, stepG p.P false g w = .go g' w' es → DK p (X i).m w w' es → Wk p i (X i).c (X i).v e (X i).m m' g' w' → m' + 1 = m →
        ∃ m₁ ops μ', runT p.P (crowd gs w sl) (p.m0 + i) = (.next m₁, ops) ∧
          Lt2 μ' (phi p.n (Vc j (ds X)) tag + e0 + Ssum j (ds X) + sumTo j (fun i => (X i).e), f0 + 2 * Fsum j (ds X) + 2 * sumTo p.m0 q) ∧ Inv p Anch Fin μ' m₁ (t ++ ops) := by
      intro g' w' es m' hgo hD hk hm
      refine workerStep (x' := ⟨⟨7, m', 0⟩, e, (X i).c, (X i).v, (X i).m⟩) (ow' := ow) hAr hm1 ha hcs hcom hi hg hgo (Turn.ow hD.1 hMW hMS) (fun b hb => .inr (.inr hb)) hWS (fun _ _ => rfl) (hcom.mc i hi) (fun b hb => by have := hMi b hb; rw [hD.1.size]; exact this)
        ?_ (.pre hk) (fun e he => (hD.2 e he).2.2.2) (by rw [hde]; exact deafBehind_idle (fun e he => ⟨(hD.2 e he).2.1, (hD.2 e he).2.2.1⟩) 0) (fun h => by simp at h) ?_ (hwg.of_block (hD.1.block _ hMW)) (fun _ ht _ => (mode7 m').retag ht) (.inr ⟨hst.symm, hee.symm, by rw [hfu]; exact hm⟩)
      · rw [hD.1.size]
        exact hcom.ti.app o of_g fun op hop x hx => ⟨hgN, okT_own hMi hD.2 op hop x hx⟩
      · rw [sum_same p X _ (by simp [hee])]
        exact (hD.1.block _ hMS).trans hcom.sum
    match e, h with
    | 0, h =>
      unfold Wk at h
      rcases Goes.cases h with hstop | ⟨m', rfl, hstep⟩
      · obtain ⟨_, hhas, g', hgo, m₂, hk⟩ := hstop w (RK.refl w)
        refine workerStep (x' := ⟨⟨6, m₂, 0⟩, 0, (X i).c, (X i).v, (X i).m⟩) (ow' := ow) hAr hm1 ha hcs hcom hi hg hgo (Z := fun _ => False) (.refl w) (fun b hb => hb.elim) hWS (fun _ _ => rfl) (hcom.mc i hi) hMi
          (hcom.ti.app o of_g fun op hop x hx => ⟨hgN, okT_none (by intro e he; simp at he; subst he; rfl) op hop x hx⟩) (.post (Nat.le_refl _) (.k1 hk)) (by intro e he; simp at he; subst he; simp [mk]) (by rw [hde]; rfl)
          (fun _ => ⟨t.size, RelBy.new hdk _ _, by obtain ⟨u, hu⟩ := hcom.ti.pre; rw [hu]; simp⟩) ?_ hwg (fun _ ht _ => (hmode.counted hi (by omega) (.inl rfl) _ _).retag ht) (.inl ⟨by rw [hst, hee]; simp only; omega, by simp [cnt, hst]⟩)
        rw [sum_same p X _ (by simp [hee])]
        exact hcom.sum
      · obtain ⟨g', w', es, hgo, hD, hg'⟩ := hstep w (RK.refl w)
        exact step hgo hD (by unfold Wk; exact hg') rfl
    | 1, h =>
      unfold Wk at h
      rcases Goes.cases h with hstop | ⟨m', rfl, hstep⟩
      · obtain ⟨_, hx⟩ := hstop w (RK.refl w)
        have hbl := bit_le X hi (show j ≤ p.n by omega) (by omega)
        have hbs := o.bits
        obtain ⟨g', hgo, m₂, hk⟩ := hx (total p j X) (by omega) hcom.sum
        have has := aside_setCell w (sA p) (.int .u32 ((total p j X + p.bit i : Nat) : Int))
        have hsu := hcom.sum.set ((total p j X + p.bit i : Nat) : Int)
        refine workerStep (x' := ⟨⟨7, m₂, 0⟩, 0, (X i).c, (X i).v, (X i).m⟩) (ow' := ow) hAr hm1 ha hcs hcom hi hg hgo (Turn.su has ⟨_, hsu⟩ o.ne) (fun b hb => .inr (.inl hb)) hWS (fun _ _ => rfl) (hcom.mc i hi) (fun b hb => by have := hMi b hb; rw [has.size]; exact this)
          ?_ (.pre hk) (by intro e he; simp at he; rcases he with rfl | rfl <;> simp [rd, wr]) (by rw [hde]; exact deafBehind_idle (by intro e he; simp at he; rcases he with rfl | rfl <;> simp [rd, wr]) 0) (fun h => by simp at h) ?_ (hwg.of_block (has.block _ o.ne)) (fun _ ht _ => (mode7 m₂).retag ht) (.inl ⟨by rw [hst, hee]; simp only; omega, by simp [cnt, hst]⟩)
        · rw [has.size]
          refine hcom.ti.app o of_g fun op hop x hx => ⟨hgN, ?_⟩
          obtain ⟨e, he, rfl⟩ := Go.Conc.mem_ofEvents hop
          simp at he
          rcases he with rfl | rfl <;> simp only [rd, wr, Go.ConcR.ofEvent_cell, MemAct.touch?, Option.some.injEq] at hx <;> subst hx <;> exact .inl ⟨.inr ⟨sA p, rfl, rfl⟩, by simp, by simp⟩
        · rw [sum_more p X _ hi rfl (by omega)]
          exact hsu
      · obtain ⟨g', w', es, hgo, hD, hg'⟩ := hstep w (RK.refl w)
        exact step hgo hD (by unfold Wk; exact hg') rfl
    | e + 2, h =>
      unfold Wk at h
      rcases Goes.cases h with hstop | ⟨m', rfl, hstep⟩
      · obtain ⟨_, g', w', hgo, hgr, m₂, hk1, hk0⟩ := hstop w (RK.refl w)
        have hsz := hgr.size
        have alloc : ∀ e', Wk p i (X i).c (X i).v e' (fun x => (X i).m x ∨ x = w.heap.size) m₂ g' w' → e' < e + 2 → (if e' = 0 then p.bit i else 0) = 0 →
            ∃ m₁ ops μ', runT p.P (crowd gs w sl) (p.m0 + i) = (.next m₁, ops) ∧
              Lt2 μ' (phi p.n (Vc j (ds X)) tag + e0 + Ssum j (ds X) + sumTo j (fun i => (X i).e), f0 + 2 * Fsum j (ds X) + 2 * sumTo p.m0 q) ∧ Inv p Anch Fin μ' m₁ (t ++ ops) := by
          intro e' hk he' hz
          refine workerStep (x' := ⟨⟨7, m₂, 0⟩, e', (X i).c, (X i).v, fun x => (X i).m x ∨ x = w.heap.size⟩) (ow' := upd ow w.heap.size (p.m0 + i)) hAr hm1 ha hcs hcom hi hg hgo (Turn.gr hgr o hcom.low) (fun b hb => hb.elim) hWS (fun b hb => upd_ne ow _ (by omega)) (.inl (hcom.mc i hi)) (fun b hb => ?_)
            ?_ (.pre hk) (by simp) (by rw [hde]; rfl) (fun h => by simp at h) ?_ (hwg.of_block (hgr.block _ (by have := hcom.low; have := o.wg; omega))) (fun _ ht _ => (mode7 m₂).retag ht) (.inl ⟨by rw [hst, hee]; simp only; omega, by simp [cnt, hst]⟩)
          · rcases hb with hb | rfl
            · have := hMi b hb
              exact ⟨by rw [upd_ne ow _ (by omega)]; exact this.1, this.2.1, by omega⟩
            · exact ⟨upd_same _ _ _, hcom.low, by omega⟩
          · rw [ofEv_nil, hsz]
            exact hcom.ti.fresh _
          · rw [sum_same p X _ (by simp only; rw [hz, hee]; simp)]
            exact (hgr.block _ (by have := hcom.low; have := o.s; omega)).trans hcom.sum
        by_cases hb0 : p.bit i = 0
        · exact alloc 0 (hk0 hb0) (by omega) (by simp [hb0])
        · exact alloc (e + 1) (hk1 hb0) (by omega) (by simp)
      · obtain ⟨g', w', es, hgo, hD, hg'⟩ := hstep w (RK.refl w)
        exact step hgo hD (by unfold Wk; exact hg') rfl
  | post h6 h =>
    -- a step of the library's bookkeeping: at most the group's block turns
    have bookG : ∀ {g' : Goroutine} {w' : World} {es : Array Event} {s' m' dd' : Nat} {st' sm' : Int}, stepG p.P false g w = .go g' w' es → Aside p.Wg w w' → WgAt p.ty p.Wg w' st' sm' → (∀ e ∈ es, Bk p.Wg e) →
        (∀ jx e, es[jx]? = some e → (MemAct.ofEvent e).touch? = none ∨ 0 < deafBehind dd (es.extract 0 jx)) → WSit p.P p.ty p.Wg (X i).c 1 No No 0 1 (X i).v s' m' dd' g' w' → deafBehind dd es = dd' → s' ≤ 6 →
        (∀ tag', (tag' = tag ∨ (tag = .blk ∧ tag' = .w3)) → (mayWake p.P g = true → g'.status = .running → tag' ≠ .blk) → ConcN.Mode j (upd (ds X) i ⟨s', m', dd'⟩) tag' st' sm') → ((s' < s ∧ cnt ⟨s', m', dd'⟩ ≤ cnt (ds X i)) ∨ (s' = s ∧ m' + 1 = m)) →
        ∃ m₁ ops μ', runT p.P (crowd gs w sl) (p.m0 + i) = (.next m₁, ops) ∧
          Lt2 μ' (phi p.n (Vc j (ds X)) tag + e0 + Ssum j (ds X) + sumTo j (fun i => (X i).e), f0 + 2 * Fsum j (ds X) + 2 * sumTo p.m0 q) ∧ Inv p Anch Fin μ' m₁ (t ++ ops) := by
      intro g' w' es s' m' dd' st' sm' hgo hAs hwg' hbk hd hs' hdd h6' hmode' hlt
      refine workerStep (x' := ⟨⟨s', m', dd'⟩, 0, (X i).c, (X i).v, (X i).m⟩) (ow' := ow) hAr hm1 ha hcs hcom hi hg hgo (Turn.wg hAs ⟨_, _, hwg'⟩ o.ne) (fun b hb => .inl hb) hWS (fun _ _ => rfl) (hcom.mc i hi) (fun b hb => by have := hMi b hb; rw [hAs.size]; exact this)
        ?_ (.post h6' hs') (norel_of_Bk hbk) (by rw [hde]; exact hdd) (fun _ => let ⟨r, hr, hr0⟩ := hcom.rel i hi (by omega); ⟨r, hr.book hdk _ _ hbk hd, hr0⟩) ?_ hwg' hmode' ?_
      · rw [hAs.size]
        exact hcom.ti.app o of_g fun op hop x hx => ⟨hgN, okT_book hbk op hop x hx⟩
      · rw [sum_same p X _ (by simp [hee])]
        exact (hAs.block _ (Ne.symm o.ne)).trans hcom.sum
      · rcases hlt with ⟨h1, h2⟩ | ⟨h1, h2⟩
        · exact .inl ⟨by rw [hst, hee]; exact h1, h2⟩
        · exact .inr ⟨by rw [hst]; exact h1, hee.symm, by rw [hfu]; exact h2⟩
    have book : ∀ {g' : Goroutine} {w' : World} {es : Array Event} {s' m' dd' : Nat} {st' sm' : Int}, stepG p.P false g w = .go g' w' es → Aside p.Wg w w' → WgAt p.ty p.Wg w' st' sm' → (∀ e ∈ es, Bk p.Wg e) →
        (∀ jx e, es[jx]? = some e → (MemAct.ofEvent e).touch? = none ∨ 0 < deafBehind dd (es.extract 0 jx)) → WSit p.P p.ty p.Wg (X i).c 1 No No 0 1 (X i).v s' m' dd' g' w' → deafBehind dd es = dd' → s' ≤ 6 →
        ConcN.Mode j (upd (ds X) i ⟨s', m', dd'⟩) tag st' sm' → ((s' < s ∧ cnt ⟨s', m', dd'⟩ ≤ cnt (ds X i)) ∨ (s' = s ∧ m' + 1 = m)) →
        ∃ m₁ ops μ', runT p.P (crowd gs w sl) (p.m0 + i) = (.next m₁, ops) ∧
          Lt2 μ' (phi p.n (Vc j (ds X)) tag + e0 + Ssum j (ds X) + sumTo j (fun i => (X i).e), f0 + 2 * Fsum j (ds X) + 2 * sumTo p.m0 q) ∧ Inv p Anch Fin μ' m₁ (t ++ ops) :=
      fun hgo hAs hwg' hbk hd hs' hdd h6' hmode' hlt => bookG hgo hAs hwg' hbk hd hs' hdd h6' (fun _ ht _ => hmode'.retag ht) hlt
    have idle : ∀ {g' : Goroutine} {m' : Nat}, stepG p.P false g w = .go g' w #[] → WSit p.P p.ty p.Wg (X i).c 1 No No 0 1 (X i).v s m' dd g' w → m' + 1 = m →
        ∃ m₁ ops μ', runT p.P (crowd gs w sl) (p.m0 + i) = (.next m₁, ops) ∧
          Lt2 μ' (phi p.n (Vc j (ds X)) tag + e0 + Ssum j (ds X) + sumTo j (fun i => (X i).e), f0 + 2 * Fsum j (ds X) + 2 * sumTo p.m0 q) ∧ Inv p Anch Fin μ' m₁ (t ++ ops) := by
      intro g' m' hgo hs' hm
      exact book hgo (.refl p.Wg w) hwg (by simp) (by simp) hs' rfl h6 (by have := hmode.same (i := i) m' dd; rwa [hsd] at this) (.inr ⟨rfl, hm⟩)
    cases h with
    | r0 h => omega
    | k1 h =>
      rcases Goes.cases h with hstop | ⟨m', rfl, hstep⟩
      · obtain ⟨_, g', hgo, m₂, hk⟩ := hstop w (RW.refl w)
        exact book hgo (.refl p.Wg w) hwg (by intro e he; simp at he; subst he; exact .inl rfl) (by intro jx e he; exact .inl (by have := Array.mem_of_getElem? he; simp at this; subst this; rfl)) (.d1 hk) rfl (by omega)
          (hmode.counted hi (by omega) (.inr rfl) _ _) (.inl ⟨by omega, by simp [cnt, hsd]⟩)
      · obtain ⟨g', w', es, hgo, ⟨rfl, rfl⟩, hg'⟩ := hstep w (RW.refl w)
        exact idle hgo (.k1 hg') rfl
    | d1 h =>
      rcases Goes.cases h with hstop | ⟨m', rfl, hstep⟩
      · obtain ⟨_, hall⟩ := hstop w (RW.refl w)
        have hc1 : cnt (ds X i) = 1 := by simp [cnt, hsd]
        have hV1 : 1 ≤ Vc j (ds X) := by have := le_sumTo (f := fun x => cnt (ds X x)) hi; simp only [Vc]; omega
        have bk2 : ∀ e ∈ #[rd (stA p.Wg), wr (stA p.Wg)], Bk p.Wg e := by intro e he; simp at he; rcases he with rfl | rfl <;> exact bk_cell _ _ rfl
        have df2 : ∀ jx e, (#[rd (stA p.Wg), wr (stA p.Wg)] : Array Event)[jx]? = some e → (MemAct.ofEvent e).touch? = none ∨ 0 < deafBehind 1 ((#[rd (stA p.Wg), wr (stA p.Wg)] : Array Event).extract 0 jx) := by
          intro jx e he
          match jx, he with
          | 0, _ => exact .inr (by simp [deafBehind])
          | 1, _ => exact .inr (by simp [deafBehind, rd])
          | jx + 2, he => simp at he
        have hq0 : ∀ q, cnt (⟨1, q, 1⟩ : WD) = 0 := fun _ => rfl
        have opq : ∀ q, OpenSt j (ds X) → OpenSt j (upd (ds X) i ⟨1, q, 1⟩) := fun q h a ha => by
          by_cases e : a = i
          · subst e; rw [upd_same]; simp
          · rw [upd_ne (ds X) _ e]; exact h a ha
        cases hmode with
        | opn h1 h2 h3 =>
          obtain ⟨v, hv⟩ : ∃ v, Vc j (ds X) + pend tag = v + 1 := ⟨Vc j (ds X) + pend tag - 1, by omega⟩
          rw [hv] at hwg
          have hpn := o.n
          have hw1 : WgAt p.ty p.Wg w (((v : Nat) + 1) * KK + ((0 : Nat) : Int)) 0 := by simpa using hwg
          obtain ⟨g', hgo, _, hq⟩ := hall v 0 (by omega) (by omega) hw1
          obtain ⟨q, hq⟩ := hq (by omega)
          have hv' : Vc j (upd (ds X) i ⟨1, q, 1⟩) + pend tag = v := by have := Vc_upd (ds X) (⟨1, q, 1⟩ : WD) hi; have := hq0 q; omega
          refine book hgo (aside_setCell w (stA p.Wg) _) (hwg.setSt _) bk2 df2 (.quit hq) rfl (by omega) ?_ (.inl ⟨by omega, by simp [cnt]⟩)
          have e : ((v : Nat) : Int) * KK + ((0 : Nat) : Int) = ((Vc j (upd (ds X) i ⟨1, q, 1⟩) + pend tag : Nat) : Int) * KK := by rw [hv']; simp
          rw [e]
          exact .opn h1 (opq q h2) (fun vs ev => by have := h3 vs ev; omega)
        | reg h1 h2 h3 =>
          obtain ⟨v, hv⟩ : ∃ v, Vc j (ds X) = v + 1 := ⟨Vc j (ds X) - 1, by omega⟩
          rw [hv] at hwg
          have hpn := o.n
          have hp : pend tag = 0 := by cases tag <;> first | rfl | exact h1.elim
          have hw1 : WgAt p.ty p.Wg w (((v : Nat) + 1) * KK + ((1 : Nat) : Int)) 0 := by simpa using hwg
          obtain ⟨g', hgo, hl, hq⟩ := hall v 1 (by omega) (by omega) hw1
          by_cases hv0 : v = 0
          · subst hv0
            obtain ⟨m₂, hk⟩ := hl ⟨rfl, rfl⟩
            refine book hgo (aside_setCell w (stA p.Wg) _) (hwg.setSt _) bk2 df2 (.d2 hk) rfl (by omega) ?_ (.inl ⟨by omega, by simp [cnt]⟩)
            have hoth : ∀ a, a < j → a ≠ i → (ds X a).stage = 1 := fun a ha e => by
              have c0 := others_uncounted hi hv hc1 a ha e
              have := h2 a ha
              simp only [cnt] at c0
              split at c0 <;> omega
            have := ConcN.Mode.last (j := j) (D := upd (ds X) i ⟨4, m₂, 1⟩) (tag := tag) i h1 hi (by rw [upd_same]; simp) (fun a ha e => by rw [upd_ne (ds X) _ e]; exact hoth a ha e)
            rw [upd_same] at this
            simpa using this
          · obtain ⟨q, hq⟩ := hq (by omega)
            have hv' : Vc j (upd (ds X) i ⟨1, q, 1⟩) = v := by have := Vc_upd (ds X) (⟨1, q, 1⟩ : WD) hi; have := hq0 q; omega
            refine book hgo (aside_setCell w (stA p.Wg) _) (hwg.setSt _) bk2 df2 (.quit hq) rfl (by omega) ?_ (.inl ⟨by omega, by simp [cnt]⟩)
            have e : ((v : Nat) : Int) * KK + ((1 : Nat) : Int) = ((Vc j (upd (ds X) i ⟨1, q, 1⟩) : Nat) : Int) * KK + 1 := by rw [hv']; simp
            rw [e]
            exact .reg h1 (opq q h2) (by omega)
        | last L _ h2 h3 h4 =>
          by_cases e : i = L
          · subst e; omega
          · have := h4 i hi e; omega
        | sema h2 => have := h2 i hi; omega
        | fin _ h2 => have := h2 i hi; omega
      · obtain ⟨g', w', es, hgo, ⟨rfl, rfl⟩, hg'⟩ := hstep w (RW.refl w)
        exact idle hgo (.d1 hg') rfl
    | d2 h =>
      rcases Goes.cases h with hstop | ⟨m', rfl, hstep⟩
      · obtain ⟨_, hx⟩ := hstop w (RW.refl w)
        obtain ⟨hW3, hoth, rfl, rfl⟩ := hmode.isLast hi (by omega)
        simp only [hsd] at hwg
        obtain ⟨g', hgo, m₂, hk⟩ := hx (by simpa using hwg)
        refine book hgo (.refl p.Wg w) hwg (by intro e he; simp at he; subst he; exact bk_cell _ _ rfl) (by intro jx e he; match jx, he with | 0, _ => exact .inr (by simp [deafBehind]) | jx + 1, he => simp at he) (.d3 hk) rfl (by omega) ?_ (.inl ⟨by omega, by simp [cnt]⟩)
        have := ConcN.Mode.last (j := j) (D := upd (ds X) i ⟨3, m₂, 1⟩) (tag := tag) i hW3 hi (by rw [upd_same]; simp) (fun a ha e => by rw [upd_ne (ds X) _ e]; exact hoth a ha e)
        rw [upd_same] at this
        simpa using this
      · obtain ⟨g', w', es, hgo, ⟨rfl, rfl⟩, hg'⟩ := hstep w (RW.refl w)
        exact idle hgo (.d2 hg') rfl
    | d3 h =>
      rcases Goes.cases h with hstop | ⟨m', rfl, hstep⟩
      · obtain ⟨_, hx⟩ := hstop w (RW.refl w)
        obtain ⟨hW3, hoth, rfl, rfl⟩ := hmode.isLast hi (by omega)
        simp only [hsd] at hwg
        obtain ⟨g', hgo, m₂, hk⟩ := hx (by simpa using hwg)
        refine book hgo (aside_setCell w (stA p.Wg) _) (hwg.setSt 0) (by intro e he; simp at he; subst he; exact bk_cell _ _ rfl) (by intro jx e he; match jx, he with | 0, _ => exact .inr (by simp [deafBehind]) | jx + 1, he => simp at he) (.d4 hk) rfl (by omega) ?_ (.inl ⟨by omega, by simp [cnt]⟩)
        have := ConcN.Mode.last (j := j) (D := upd (ds X) i ⟨2, m₂, 1⟩) (tag := tag) i hW3 hi (by rw [upd_same]; simp) (fun a ha e => by rw [upd_ne (ds X) _ e]; exact hoth a ha e)
        rw [upd_same] at this
        simpa using this
      · obtain ⟨g', w', es, hgo, ⟨rfl, rfl⟩, hg'⟩ := hstep w (RW.refl w)
        exact idle hgo (.d3 hg') rfl
    | d4 h =>
      rcases Goes.cases h with hstop | ⟨m', rfl, hstep⟩
      · obtain ⟨_, hmw, hx⟩ := hstop w (RW.refl w)
        obtain ⟨hW3, hoth, rfl, rfl⟩ := hmode.isLast hi (by omega)
        simp only [hsd] at hwg
        obtain ⟨g', hgo, q, hq⟩ := hx (by simpa using hwg)
        have hrun' : g'.status = .running := by
          cases q with
          | zero => exact absurd hq.2 (by decide)
          | succ q => exact hq.elim (fun x => absurd x.2 (by decide)) (fun x => x.1)
        refine bookG hgo (aside_setCell w (smA p.Wg) _) (hwg.setSm 1) (es := semEvents (smA p.Wg)) bk_sem ?_ (.quit hq) (by simp [deafBehind, semEvents]) (by omega) ?_ (.inl ⟨by omega, by simp [cnt]⟩)
        · intro jx e he
          match jx, he with
          | 0, he => simp [semEvents] at he; subst he; exact .inl rfl
          | 1, _ => exact .inr (by simp [deafBehind, semEvents])
          | 2, _ => exact .inr (by simp [deafBehind, semEvents])
          | 3, he => simp [semEvents] at he; subst he; exact .inl rfl
          | jx + 4, he => simp [semEvents] at he
        · intro tag' ht hw
          have hnb := hw hmw hrun'
          have e3 : tag' = .w3 := by
            rcases ht with rfl | ⟨_, rfl⟩
            · cases tag' <;> first | rfl | exact hW3.elim | exact absurd rfl hnb
            · rfl
          subst e3
          simp only [if_true]
          exact .sema fun a ha => by
            by_cases e : a = i
            · subst e; rw [upd_same]
            · rw [upd_ne (ds X) _ e]; exact hoth a ha e
      · obtain ⟨g', w', es, hgo, ⟨rfl, rfl⟩, hg'⟩ := hstep w (RW.refl w)
        exact idle hgo (.d4 hg') rfl
    | quit h =>
      cases m with
      | zero => rw [h.1] at hrun; cases hrun
      | succ q =>
        rcases h with ⟨hf, _⟩ | ⟨_, g', es, hmute, hstep, hq⟩
        · rw [hf] at hrun; cases hrun
        · have hbk : ∀ e ∈ es, Bk p.Wg e := fun e he => bk_of_mute (hmute e he)
          have hno : ∀ jx e, es[jx]? = some e → (MemAct.ofEvent e).touch? = none ∨ 0 < deafBehind dd (es.extract 0 jx) := fun jx e he => .inl (touch_mute (hmute e (Array.mem_of_getElem? he)))
          exact book (hstep w) (.refl p.Wg w) hwg hbk hno (.quit hq) rfl (by omega) (by have := hmode.same (i := i) q (deafBehind dd es); rwa [hsd] at this) (.inr ⟨rfl, rfl⟩)
end
end Go.Proofs.Ytafgabakhaipnaa
