/- Runs carried over, 2: the requests of the model, one by one. -/
import Derived.Test.YtafgabakhaipnaaJ1
namespace Go.Proofs.Ytafgabakhaipnaa
open Go.Conc

section
variable {P : Program} {X : Nat → Prop} {α β : Type}

theorem Sound.pure (a : α) : Sound P X (Sem.pure a) := fun _ w _ _ h _ => ⟨fun _ he => .inl he, w, rfl, On.refl h⟩
theorem Sound.pure' (a : α) : Sound P X (Pure.pure a : Sem α) := Sound.pure a
theorem Sound.halt (h : Halt) (hh : early? h = false := by rfl) : Sound P X (Sem.halt h : Sem α) := fun _ w _ _ hs _ => ⟨hh, fun _ => ⟨fun _ he => .inl he, w, rfl, On.refl hs⟩⟩

theorem noCell_X {u : World} {a : Addr} {e : TypeId} (hu : u.heap[a.block]? = some (.cells #[] e (0, 0))) (s : String) (es : Array Event) (n : Nat) (w0 u0 : World) (rw : Result α × Array Event) : Alike X n w0 u0 es rw (.halt (u.noCell a s) u, es) := by
  intro _
  unfold World.noCell
  rw [hu]
  exact ⟨rfl, fun h => by cases h⟩
theorem noCell_same {n : Nat} {w u : World} (h : Sim X n w u) {a : Addr} (ha : ¬ X a.block) (s : String) (es : Array Event) : Alike X n w u es ((.halt (w.noCell a s) w, es) : Result α × Array Event) (.halt (u.noCell a s) u, es) := by
  intro _
  have hp := h.pend a.block
  unfold World.noCell
  rw [h.same _ ha]
  split
  · rename_i c t ho
    exact ⟨by simpa [early?] using hp c t ho, fun _ => ⟨fun _ he => .inl he, w, rfl, On.refl h⟩⟩
  · exact ⟨rfl, fun h => by cases h⟩
  · exact ⟨rfl, fun h => by cases h⟩
theorem fine_all {es : Array Event} {l : List Addr} {b : Nat} (hl : ∀ a ∈ l, a.block = b) (hb : ¬ X b) (wr at_ : Bool) : ∀ e ∈ es ++ l.toArray.map (fun a => (⟨.cell a, wr, at_⟩ : Event)), e ∈ es ∨ Fine X e := fun e he => by
  rcases Array.mem_append.1 he with h | h
  · exact .inl h
  · obtain ⟨a, ha, rfl⟩ := Array.mem_map.1 h
    refine .inr ?_
    show ¬ X a.block
    rw [hl a (by simpa using ha)]; exact hb

theorem Sound.load {m : Mode} {a : Addr} {k : Value → Sem α} (hk : ∀ v, Sound P X (k v)) : Sound P X (Sem.load m a k) := fun n w u es h => by
  simp only [Sem.runT]
  by_cases ha : X a.block
  · rw [h.cellX ha]
    obtain ⟨c, e, -, hu⟩ := h.cov _ ha
    simp only [World.farLoad, hu]
    exact noCell_X hu _ _ _ _ _ _
  · rw [h.cell ha]
    cases hc : w.cell? a with
    | some v => exact (hk v n w u _ h).step (mem_push_fine ha)
    | none =>
      have hn := noCell_same (α := α) h ha "load: no such cell" es
      simp only [World.farLoad, h.same _ ha]
      cases ho : w.heap[a.block]? with
      | none => exact hn
      | some o =>
        cases o with
        | view x t =>
          simp only
          cases hv : u.viewLoad P x t a (m == .atomic) with
          | error why => exact fun _ => ⟨rfl, fun h => by cases h⟩
          | ok r =>
            obtain ⟨v, l⟩ := r
            obtain ⟨h1, h2⟩ := viewLoad_ok hv
            have hx : ¬ X x.block := fun hx => by obtain ⟨c, e, -, hu⟩ := h.cov _ hx; exact h2 _ _ hu
            rw [← viewLoad_congr (h.same _ hx), hv]
            exact (hk v n w u _ h).step (fine_all h1 hx _ _)
        | _ => exact hn

theorem setCell_heap (w : World) (a : Addr) (v : Value) (b : Nat) : (w.setCell a v).heap[b]? = (if a.block = b then (w.heap[b]?).map (fun | .cells c elem frozen => .cells (if a.spot.isSome then c else c.setIfInBounds a.off v) elem frozen | o => o) else w.heap[b]?) := by
  simp only [World.setCell, Array.getElem?_modify]
  rfl

theorem Sim.setCell {n : Nat} {w u : World} (h : Sim X n w u) (a : Addr) (v : Value) (ha : ¬ X a.block) : On0 X n w u (w.setCell a v) (u.setCell a v) := by
  refine h.turn (by simp) (by simp) (fun b hb => ?_) (fun b hb => ?_) (fun b x t hx => ?_)
  · show (u.setCell a v).heap[b]? = (w.setCell a v).heap[b]?
    rw [setCell_heap, setCell_heap, h.same b hb]
  · show ∃ c e, (w.setCell a v).heap[b]? = _ ∧ (u.setCell a v).heap[b]? = _
    have hne : ¬ a.block = b := fun e => ha (e ▸ hb)
    rw [setCell_heap, setCell_heap, if_neg hne, if_neg hne]
    exact h.cov b hb
  · have hx' : (w.setCell a v).heap[b]? = _ := hx
    rw [setCell_heap] at hx'
    split at hx'
    · cases ho : w.heap[b]? with
      | none => rw [ho] at hx'; simp at hx'
      | some o =>
        rw [ho] at hx'
        cases o <;> simp at hx'
        exact h.pend b _ _ (by rw [ho])
    · exact h.pend b _ _ hx'

theorem Sim.setCells {n : Nat} {w u : World} (h : Sim X n w u) (r : Nat) (c : Array Value) (e : TypeId) (f : Nat × Nat) (hr : ¬ X r) : On0 X n w u { w with heap := w.heap.setIfInBounds r (.cells c e f) } { u with heap := u.heap.setIfInBounds r (.cells c e f) } := by
  refine h.turn (by simp) (by simp) (fun b hb => ?_) (fun b hb => ?_) (fun b a t hx => ?_)
  · simp only [Array.getElem?_setIfInBounds, h.size, h.same b hb]
  · have hne : ¬ r = b := fun e => hr (e ▸ hb)
    simp only [Array.getElem?_setIfInBounds, if_neg hne]
    exact h.cov b hb
  · simp only [Array.getElem?_setIfInBounds] at hx
    split at hx
    · split at hx <;> cases hx
    · exact h.pend b a t hx

theorem Sound.store {m : Mode} {a : Addr} {v : Value} {k : Sem α} (hk : Sound P X k) : Sound P X (Sem.store m a v k) := fun n w u es h => by
  have main : Alike X n w u es (match w.cell? a with
    | some _ => if w.frozen? a then (.halt (.unsupported (.unsafePointer "a write to bytes that a string shares")) w, es) else k.runT P (w.setCell a v) (es.push ⟨.cell a, true, m == .atomic⟩)
    | none => match w.farStore P a v (m == .atomic) with
      | .ok (w, touched) => k.runT P w (es ++ touched.toArray.map (⟨.cell ·, true, m == .atomic⟩))
      | .error h => (.halt h w, es)) (match u.cell? a with
    | some _ => if u.frozen? a then (.halt (.unsupported (.unsafePointer "a write to bytes that a string shares")) u, es) else k.runT P (u.setCell a v) (es.push ⟨.cell a, true, m == .atomic⟩)
    | none => match u.farStore P a v (m == .atomic) with
      | .ok (w, touched) => k.runT P w (es ++ touched.toArray.map (⟨.cell ·, true, m == .atomic⟩))
      | .error h => (.halt h u, es)) := by
    by_cases ha : X a.block
    · rw [h.cellX ha]
      obtain ⟨c, e, -, hu⟩ := h.cov _ ha
      simp only [World.farStore, hu]
      exact noCell_X hu _ _ _ _ _ _
    · rw [h.cell ha, h.frozen]
      cases hc : w.cell? a with
      | some x =>
        cases hf : w.frozen? a with
        | true => exact fun _ => ⟨rfl, fun h => by cases h⟩
        | false => exact (hk _ _ _ _ (h.setCell a v ha).sim).on (h.setCell a v ha) (mem_push_fine ha)
      | none =>
        have hn := noCell_same (α := α) h ha "store: no such cell" es
        simp only [World.farStore, h.same _ ha]
        cases ho : w.heap[a.block]? with
        | none => exact hn
        | some o =>
          cases o with
          | view x t =>
            simp only
            cases hv : u.viewStore P x t a v (m == .atomic) with
            | error why => exact fun _ => ⟨rfl, fun h => by cases h⟩
            | ok r =>
              obtain ⟨u', l⟩ := r
              obtain ⟨c, e, f, rfl, h1, h2, h3⟩ := viewStore_ok hv
              have hx : ¬ X x.block := fun hx => by obtain ⟨c, e, -, hu⟩ := h.cov _ hx; exact h2 _ _ hu
              rw [h3 w (h.same _ hx)]
              exact (hk _ _ _ _ (h.setCells _ c e f hx).sim).on (h.setCells _ c e f hx) (fine_all h1 hx _ _)
          | _ => exact hn
  cases v <;> first | (simp only [Sem.runT]; exact main) | (simp only [Sem.runT]; exact fun _ => ⟨rfl, fun h => by cases h⟩)

theorem Sound.new {o : Obj} {k : Nat → Sem α} (ho : (∀ a t, o ≠ .view a t) ∧ ∀ c t, o ≠ .pending c t) (hk : ∀ r, Sound P X (k r)) : Sound P X (Sem.new o k) := fun n w u es h => by
  have hon : On0 X n w u { w with heap := w.heap.push o } { u with heap := u.heap.push o } := by
    have hs := h.size
    refine ⟨⟨by simp [hs], fun b hb => by have := h.old b hb; simp; omega, fun b hb => ?_, fun b hb => ?_, fun b a t hx => ?_, h.os, h.output, h.tape⟩, rfl, rfl, rfl, rfl⟩
    · simp only [Array.getElem?_push, hs, h.same b hb]
    · have hne : b ≠ w.heap.size := by have := h.old b hb; omega
      simp only [Array.getElem?_push, hs, if_neg hne]
      exact h.cov b hb
    · simp only [Array.getElem?_push] at hx
      split at hx
      · exact absurd (Option.some.inj hx) (ho.2 a t)
      · exact h.pend b a t hx
  simp only [Sem.runT]
  rw [h.size]
  exact (hk w.heap.size _ _ _ es hon.sim).on hon (fun e he => .inl he)

theorem Sound.frozen {a : Addr} {k : Bool → Sem α} (hk : ∀ b, Sound P X (k b)) : Sound P X (Sem.frozen a k) := fun n w u es h => by
  simp only [Sem.runT, h.frozen]
  exact hk _ _ _ _ _ h
/-- A look at a block's shape that does not hang on how many cells it has. -/
theorem Sound.shape {r : Nat} {k : Option (TypeId × Nat) → Sem α} (hb : ∀ t n m, k (some (t, n)) = k (some (t, m))) (hk : ∀ o, Sound P X (k o)) : Sound P X (Sem.shape r k) := fun n w u es h => by
  simp only [Sem.runT]
  have e : k (u.shape? r) = k (w.shape? r) := by
    by_cases hr : X r
    · obtain ⟨c, e, hw, hu⟩ := h.cov r hr
      simp only [World.shape?, hw, hu]
      exact hb _ _ _
    · simp only [World.shape?, h.same r hr]
  rw [e]
  exact hk _ _ _ _ _ h
theorem Sound.getObj {r : Nat} {k : Obj → Sem α} (hk : ∀ o, Sound P X (k o)) : Sound P X (Sem.getObj r k) := fun n w u es h => by
  simp only [Sem.runT]
  by_cases hr : X r
  · obtain ⟨c, e, hw, hu⟩ := h.cov r hr
    rw [hu]; exact fun _ => ⟨rfl, fun h => by cases h⟩
  · rw [h.same r hr]
    cases ho : w.heap[r]? with
    | none => exact fun _ => ⟨rfl, fun h => by cases h⟩
    | some o =>
      cases o with
      | cells => exact fun _ => ⟨rfl, fun h => by cases h⟩
      | _ => exact (hk _ _ _ _ _ h).step (mem_push_fine hr)
theorem Sound.setObj {r : Nat} {o : Obj} {k : Sem α} (hv : (∀ a t, o ≠ .view a t) ∧ ∀ c t, o ≠ .pending c t) (hk : Sound P X k) : Sound P X (Sem.setObj r o k) := fun n w u es h => by
  simp only [Sem.runT]
  by_cases hr : X r
  · obtain ⟨c, e, hw, hu⟩ := h.cov r hr
    rw [hu]; exact fun _ => ⟨rfl, fun h => by cases h⟩
  · have hon : On0 X n w u { w with heap := w.heap.setIfInBounds r o } { u with heap := u.heap.setIfInBounds r o } := by
      refine h.turn (by simp) (by simp) (fun b hb => ?_) (fun b hb => ?_) (fun b a t hx => ?_)
      · simp only [Array.getElem?_setIfInBounds, h.size, h.same b hb]
      · have hne : ¬ r = b := fun e => hr (e ▸ hb)
        simp only [Array.getElem?_setIfInBounds, if_neg hne]
        exact h.cov b hb
      · simp only [Array.getElem?_setIfInBounds] at hx
        split at hx
        · split at hx
          · exact absurd (Option.some.inj hx) (hv.2 a t)
          · cases hx
        · exact h.pend b a t hx
    rw [h.same r hr]
    cases ho : w.heap[r]? with
    | none => exact fun _ => ⟨rfl, fun h => by cases h⟩
    | some x =>
      cases x with
      | cells => exact fun _ => ⟨rfl, fun h => by cases h⟩
      | _ => exact (hk _ _ _ _ hon.sim).on hon (mem_push_fine hr)
theorem Sim.draw {n : Nat} {w u : World} (h : Sim X (n + 1) w u) : Sim X n { w with drawn := w.drawn + 1 } { u with drawn := u.drawn + 1 } :=
  ⟨h.size, h.old, h.same, h.cov, h.pend, h.os, h.output, fun i q hi => by have := h.tape (1 + i) q (by omega); simp only [← Nat.add_assoc] at this; exact this⟩
theorem Sound.choose {q : Question} {k : Nat → Sem α} (hk : ∀ n, Sound P X (k n)) : Sound P X (Sem.choose q k) := fun n w u es h => by
  simp only [Sem.runT]
  split
  · exact hk _ _ _ _ _ h
  · cases n with
    | zero =>
      intro hd
      exfalso
      have h1 := runT_drawn P (k (q.cut (w.tape w.drawn q))) { w with drawn := w.drawn + 1 } es
      have h2 := runT_drawn P (k (q.cut (u.tape u.drawn q))) { u with drawn := u.drawn + 1 } es
      simp only at h1 h2
      omega
    | succ n =>
      have e : u.tape u.drawn q = w.tape w.drawn q := h.tape 0 q (by omega)
      rw [e]
      exact Alike.after (k := 1) (w1 := { w with drawn := w.drawn + 1 }) (u1 := { u with drawn := u.drawn + 1 }) (by omega) rfl rfl rfl rfl (hk _ n _ _ es h.draw) (fun e he => .inl he)
theorem Sound.program {k : Program → Sem α} (hk : Sound P X (k P)) : Sound P X (Sem.program k) := fun n w u es h => by
  simp only [Sem.runT]; exact hk _ _ _ _ h
theorem Sound.room {k : Sem α} (hk : Sound P X k) : Sound P X (Sem.mark .noRoom k) := fun n w u es h => by
  simp only [Sem.runT]; exact (hk _ _ _ _ h).step (mem_push_fine trivial)
theorem Sound.extern {f : FuncId} {k : Sem α} (hk : Sound P X k) : Sound P X (Sem.mark (.extern f) k) := fun n w u es h => by
  simp only [Sem.runT]; exact (hk _ _ _ _ h).step (mem_push_fine trivial)

theorem Sound.bind {x : Sem α} {f : α → Sem β} (hx : Sound P X x) (hf : ∀ a, Sound P X (f a)) : Sound P X (x >>= f) := fun n w u es h hd => by
  have mono : ∀ v, rdr (x.runT P v es).1 ≤ rdr ((x >>= f).runT P v es).1 := fun v => by
    show _ ≤ rdr ((x.bind f).runT P v es).1
    rw [Sem.runT_bind']
    match x.runT P v es with
    | (.ok a v1, e1) => exact runT_drawn P (f a) v1 e1
    | (.halt k v1, e1) => exact Nat.le_refl _
  have h1 := hx n w u es h (by rcases hd with hd | hd; · exact .inl (Nat.le_trans (mono w) hd)
                               · exact .inr (Nat.le_trans (mono u) hd))
  revert hd
  show Alike X n w u es ((x.bind f).runT P w es) ((x.bind f).runT P u es)
  rw [Sem.runT_bind', Sem.runT_bind']
  generalize x.runT P u es = ru at h1
  match ru, h1 with
  | (.ok a u', eu), ⟨he, w', e, ho⟩ =>
    rw [e]
    obtain ⟨k, hk, dw, du, hs⟩ := ho.drew
    exact Alike.after hk ho.tw ho.tu dw du (hf a _ _ _ _ hs) he
  | (.halt k u', eu), ⟨h0, hh⟩ => exact fun _ => ⟨h0, fun hf => by obtain ⟨he, w', e, ho⟩ := hh hf; rw [e]; exact ⟨he, w', rfl, ho⟩⟩
end
end Go.Proofs.Ytafgabakhaipnaa

/- Runs carried over, 3: what the operations are made of. -/
namespace Go.Proofs.Ytafgabakhaipnaa
open Go.Conc

section
variable {P : Program} {X : Nat → Prop} {α β : Type}

theorem s_program {f : Program → Sem α} (h : Sound P X (f P)) : Sound P X (program >>= f) := Sound.program h
theorem s_map {x : Sem α} {f : α → β} (h : Sound P X x) : Sound P X (f <$> x) := Sound.bind (f := fun a => Pure.pure (f a)) h (fun _ => Sound.pure' _)
theorem s_choose (q : Question) : Sound P X (choose q) := Sound.choose (fun _ => Sound.pure _)
theorem s_load (a : Addr) (m : Mode) : Sound P X (load a m) := Sound.load (fun _ => Sound.pure _)
theorem s_store (a : Addr) (v : Value) (m : Mode) : Sound P X (store a v m) := Sound.store (Sound.pure _)
theorem s_unsup (u : Unsupported) (h : early? (.unsupported u) = false) : Sound P X (unsupported u : Sem α) := Sound.halt _ h
theorem s_stuck (s : String) : Sound P X (stuck s : Sem α) := Sound.halt _
theorem s_info (t : TypeId) : Sound P X (typeInfo t) := by
  unfold typeInfo
  refine s_program ?_
  split <;> first | exact Sound.pure' _ | exact Sound.halt _
theorem s_und (t : TypeId) : Sound P X (underlying t) := by
  unfold underlying
  refine s_program ?_
  split <;> first | exact Sound.pure' _ | exact Sound.halt _
theorem s_size (t : TypeId) : Sound P X (sizeOf t) := Sound.bind (s_info t) (fun _ => Sound.pure' _)
theorem s_zero (t : TypeId) : Sound P X (zeroValue t) := by
  unfold zeroValue
  refine Sound.bind (s_info t) (fun _ => ?_)
  split <;> first | exact Sound.pure' _ | exact Sound.halt _
theorem s_agg (t : TypeId) : Sound P X (isAgg t) := by
  unfold isAgg
  refine Sound.bind (s_und t) (fun _ => ?_)
  split <;> exact Sound.pure' _
theorem s_loadsFrom (a : Addr) : ∀ (n i : Nat) (acc : Array Value), Sound P X (loadCellsFrom a i n acc)
  | 0, _, _ => Sound.pure' _
  | n + 1, i, _ => Sound.bind (Sound.load (fun _ => Sound.pure _)) (fun _ => s_loadsFrom a n (i + 1) _)
theorem s_loads (a : Addr) (n : Nat) : Sound P X (loadCells a n) := s_loadsFrom a n 0 _
theorem s_stores (a : Addr) : ∀ (vs : List Value) (i : Nat), Sound P X (storeCells a vs i)
  | [], _ => Sound.pure' _
  | _ :: vs, i => Sound.bind (Sound.store (Sound.pure _)) (fun _ => s_stores a vs (i + 1))
theorem s_loadVar (t : TypeId) (a : Addr) : Sound P X (loadVar t a) := by
  unfold loadVar
  refine Sound.bind (s_agg t) (fun b => ?_)
  split
  · exact Sound.bind (s_size t) (fun n => Sound.bind (s_loads a n) (fun _ => Sound.pure' _))
  · exact Sound.load (fun _ => Sound.pure _)
theorem s_storeVar (t : TypeId) (a : Addr) (v : Value) : Sound P X (storeVar t a v) := by
  unfold storeVar
  refine Sound.bind (s_size t) (fun n => ?_)
  split
  · exact Sound.bind (Sound.halt _) (fun _ => s_stores a _ _)
  · exact s_stores a _ _
theorem s_row (t : TypeId) (cs : Array Value) : Sound P X (newRow t cs) := Sound.bind (Sound.new (by simp) (fun _ => Sound.pure _)) (fun _ => Sound.pure' _)
theorem s_var (t : TypeId) (v : Value) : Sound P X (newVar t v) := s_row t _
theorem s_elem (t : TypeId) : Sound P X (elemOf t) := by
  unfold elemOf
  refine Sound.bind (s_und t) (fun _ => ?_)
  split <;> first | exact Sound.pure' _ | exact Sound.halt _
theorem s_part (t : TypeId) (cs : Array Value) (off : Nat) : Sound P X (part t cs off) := by
  unfold part
  refine Sound.bind (s_agg t) (fun b => ?_)
  split
  · exact Sound.bind (s_size t) (fun _ => Sound.pure' _)
  · split <;> first | exact Sound.pure' _ | exact Sound.halt _
theorem s_panic (e : RuntimeError) : Sound P X (runtimePanic e : Sem α) := by
  unfold runtimePanic
  refine s_program ?_
  cases e with
  | typeAssertion i c a m => exact Sound.bind (s_elem _) (fun t => Sound.bind (s_var t _) (fun _ => Sound.halt _))
  | panicNil => exact Sound.bind (s_elem _) (fun t => Sound.bind (s_var t _) (fun _ => Sound.halt _))
  | _ => exact Sound.halt _
theorem s_bounds (k : IntKind) (x y : Int) (c : BoundsCode) : Sound P X (boundsPanic k x y c : Sem α) := by
  unfold boundsPanic
  dsimp only
  split
  · exact Sound.bind (s_map (Sound.choose (fun _ => Sound.pure _))) (fun _ => s_panic _)
  · exact Sound.bind (Sound.pure' _) (fun _ => s_panic _)
theorem s_intOf (v : Value) : Sound P X (asIntOf v) := by unfold asIntOf; split <;> first | exact Sound.pure' _ | exact Sound.halt _
theorem s_int (v : Value) : Sound P X (asInt v) := Sound.bind (s_intOf v) (fun _ => Sound.pure' _)
theorem s_bool (v : Value) : Sound P X (asBool v) := by unfold asBool; split <;> first | exact Sound.pure' _ | exact Sound.halt _
theorem s_str (v : Value) : Sound P X (asString v) := by unfold asString; split <;> first | exact Sound.pure' _ | exact Sound.halt _
theorem s_asAgg (v : Value) : Sound P X (asAgg v) := by unfold asAgg; split <;> first | exact Sound.pure' _ | exact Sound.halt _
theorem s_addr (v : Value) : Sound P X (asAddr v) := by unfold asAddr; split <;> first | exact Sound.pure' _ | exact Sound.halt _ | exact s_panic _
theorem s_sure (v : Value) : Sound P X (Instr.sureAddr v) := by unfold Instr.sureAddr; split <;> first | exact Sound.pure' _ | exact Sound.halt _
theorem s_room (n : Nat) : Sound P X (askRoom n) := by unfold askRoom; split <;> first | exact Sound.room (Sound.pure _) | exact Sound.pure' _
theorem s_mapM {γ : Type} {f : γ → Sem β} (hf : ∀ x, Sound P X (f x)) (xs : Array γ) : Sound P X (xs.mapM f) := by
  rw [Array.mapM_eq_mapM_toList]
  refine s_map ?_
  induction xs.toList with
  | nil => exact Sound.pure' _
  | cons x l ih =>
    rw [List.mapM_cons]
    exact Sound.bind (hf x) (fun _ => Sound.bind ih (fun _ => Sound.pure' _))

theorem s_alloc (t : TypeId) (b : Bool) (v : Value) : Sound P X (Instr.alloc t b v) := by
  unfold Instr.alloc
  refine Sound.bind (s_zero t) (fun z => ?_)
  split
  · exact Sound.bind (s_storeVar _ _ _) (fun _ => Sound.pure' _)
  · exact Sound.bind (s_var _ _) (fun _ => Sound.pure' _)
theorem s_box (t : TypeId) (v : Value) : Sound P X (Instr.box t v) := Sound.bind (s_var t v) (fun _ => Sound.pure' _)
theorem s_loadAt (t : TypeId) (v : Value) : Sound P X (Instr.loadAt t v) := Sound.bind (s_sure v) (fun _ => s_loadVar t _)
theorem s_storeAt (t : TypeId) (a v : Value) : Sound P X (Instr.storeAt t a v) := Sound.bind (s_sure a) (fun _ => s_storeVar t _ v)
theorem s_field (t : TypeId) (v : Value) (f : Nat) : Sound P X (Instr.field t v f) := by
  unfold Instr.field
  repeat' first | (with_reducible first | exact Sound.pure' _ | exact Sound.pure _ | exact Sound.halt _ | assumption | exact s_stuck _ | exact s_info _ | exact s_und _ | exact s_size _ | exact s_zero _ | exact s_agg _ | exact s_loads _ _ | exact s_stores _ _ _ | exact s_loadVar _ _ | exact s_storeVar _ _ _ | exact s_row _ _ | exact s_var _ _ | exact s_elem _ | exact s_part _ _ _ | exact s_panic _ | exact s_bounds _ _ _ _ | exact s_intOf _ | exact s_int _ | exact s_bool _ | exact s_str _ | exact s_asAgg _ | exact s_addr _ | exact s_sure _ | exact s_room _ | exact s_choose _ | exact s_load _ _ | exact s_store _ _ _ | refine s_program ?_ | refine Sound.bind ?_ (fun _ => ?_)) | ((with_reducible refine s_unsup _ ?_) <;> rfl) | (dsimp only) | split
theorem s_index (t : TypeId) (v i : Value) : Sound P X (Instr.index t v i) := by
  unfold Instr.index
  repeat' first | (with_reducible first | exact Sound.pure' _ | exact Sound.pure _ | exact Sound.halt _ | assumption | exact s_stuck _ | exact s_info _ | exact s_und _ | exact s_size _ | exact s_zero _ | exact s_agg _ | exact s_loads _ _ | exact s_stores _ _ _ | exact s_loadVar _ _ | exact s_storeVar _ _ _ | exact s_row _ _ | exact s_var _ _ | exact s_elem _ | exact s_part _ _ _ | exact s_panic _ | exact s_bounds _ _ _ _ | exact s_intOf _ | exact s_int _ | exact s_bool _ | exact s_str _ | exact s_asAgg _ | exact s_addr _ | exact s_sure _ | exact s_room _ | exact s_choose _ | exact s_load _ _ | exact s_store _ _ _ | refine s_program ?_ | refine Sound.bind ?_ (fun _ => ?_)) | ((with_reducible refine s_unsup _ ?_) <;> rfl) | (dsimp only) | split
theorem s_indexAt (t : TypeId) (v i : Value) : Sound P X (Instr.indexAt t v i) := by
  unfold Instr.indexAt
  repeat' first | (with_reducible first | exact Sound.pure' _ | exact Sound.pure _ | exact Sound.halt _ | assumption | exact s_stuck _ | exact s_info _ | exact s_und _ | exact s_size _ | exact s_zero _ | exact s_agg _ | exact s_loads _ _ | exact s_stores _ _ _ | exact s_loadVar _ _ | exact s_storeVar _ _ _ | exact s_row _ _ | exact s_var _ _ | exact s_elem _ | exact s_part _ _ _ | exact s_panic _ | exact s_bounds _ _ _ _ | exact s_intOf _ | exact s_int _ | exact s_bool _ | exact s_str _ | exact s_asAgg _ | exact s_addr _ | exact s_sure _ | exact s_room _ | exact s_choose _ | exact s_load _ _ | exact s_store _ _ _ | refine s_program ?_ | refine Sound.bind ?_ (fun _ => ?_)) | ((with_reducible refine s_unsup _ ?_) <;> rfl) | (dsimp only) | split
theorem s_build (t : TypeId) (ps : Array (Nat × Value)) : Sound P X (Instr.build t ps) := by
  unfold Instr.build
  refine Sound.bind (s_zero t) (fun z => Sound.bind (s_und t) (fun d => ?_))
  split
  · refine Sound.bind (s_mapM (fun f => Sound.bind (s_size _) (fun _ => Sound.pure' _)) _) (fun pl => ?_)
    repeat' first | (with_reducible first | exact Sound.pure' _ | exact Sound.pure _ | exact Sound.halt _ | assumption | exact s_stuck _ | exact s_info _ | exact s_und _ | exact s_size _ | exact s_zero _ | exact s_agg _ | exact s_loads _ _ | exact s_stores _ _ _ | exact s_loadVar _ _ | exact s_storeVar _ _ _ | exact s_row _ _ | exact s_var _ _ | exact s_elem _ | exact s_part _ _ _ | exact s_panic _ | exact s_bounds _ _ _ _ | exact s_intOf _ | exact s_int _ | exact s_bool _ | exact s_str _ | exact s_asAgg _ | exact s_addr _ | exact s_sure _ | exact s_room _ | exact s_choose _ | exact s_load _ _ | exact s_store _ _ _ | refine s_program ?_ | refine Sound.bind ?_ (fun _ => ?_)) | ((with_reducible refine s_unsup _ ?_) <;> rfl) | (dsimp only) | split
  · repeat' first | (with_reducible first | exact Sound.pure' _ | exact Sound.pure _ | exact Sound.halt _ | assumption | exact s_stuck _ | exact s_info _ | exact s_und _ | exact s_size _ | exact s_zero _ | exact s_agg _ | exact s_loads _ _ | exact s_stores _ _ _ | exact s_loadVar _ _ | exact s_storeVar _ _ _ | exact s_row _ _ | exact s_var _ _ | exact s_elem _ | exact s_part _ _ _ | exact s_panic _ | exact s_bounds _ _ _ _ | exact s_intOf _ | exact s_int _ | exact s_bool _ | exact s_str _ | exact s_asAgg _ | exact s_addr _ | exact s_sure _ | exact s_room _ | exact s_choose _ | exact s_load _ _ | exact s_store _ _ _ | refine s_program ?_ | refine Sound.bind ?_ (fun _ => ?_)) | ((with_reducible refine s_unsup _ ?_) <;> rfl) | (dsimp only) | split
  · repeat' first | (with_reducible first | exact Sound.pure' _ | exact Sound.pure _ | exact Sound.halt _ | assumption | exact s_stuck _ | exact s_info _ | exact s_und _ | exact s_size _ | exact s_zero _ | exact s_agg _ | exact s_loads _ _ | exact s_stores _ _ _ | exact s_loadVar _ _ | exact s_storeVar _ _ _ | exact s_row _ _ | exact s_var _ _ | exact s_elem _ | exact s_part _ _ _ | exact s_panic _ | exact s_bounds _ _ _ _ | exact s_intOf _ | exact s_int _ | exact s_bool _ | exact s_str _ | exact s_asAgg _ | exact s_addr _ | exact s_sure _ | exact s_room _ | exact s_choose _ | exact s_load _ _ | exact s_store _ _ _ | refine s_program ?_ | refine Sound.bind ?_ (fun _ => ?_)) | ((with_reducible refine s_unsup _ ?_) <;> rfl) | (dsimp only) | split
theorem s_buildSlice (t : TypeId) (n : Nat) (ps : Array (Nat × Value)) : Sound P X (Instr.buildSlice t n ps) := by
  unfold Instr.buildSlice
  repeat' first | (with_reducible first | exact Sound.pure' _ | exact Sound.pure _ | exact Sound.halt _ | assumption | exact s_stuck _ | exact s_info _ | exact s_und _ | exact s_size _ | exact s_zero _ | exact s_agg _ | exact s_loads _ _ | exact s_stores _ _ _ | exact s_loadVar _ _ | exact s_storeVar _ _ _ | exact s_row _ _ | exact s_var _ _ | exact s_elem _ | exact s_part _ _ _ | exact s_panic _ | exact s_bounds _ _ _ _ | exact s_intOf _ | exact s_int _ | exact s_bool _ | exact s_str _ | exact s_asAgg _ | exact s_addr _ | exact s_sure _ | exact s_room _ | exact s_choose _ | exact s_load _ _ | exact s_store _ _ _ | refine s_program ?_ | refine Sound.bind ?_ (fun _ => ?_)) | ((with_reducible refine s_unsup _ ?_) <;> rfl) | (dsimp only) | split
theorem s_extract (v : Value) (i : Nat) : Sound P X (Instr.extract v i) := by
  unfold Instr.extract
  repeat' first | (with_reducible first | exact Sound.pure' _ | exact Sound.pure _ | exact Sound.halt _ | assumption | exact s_stuck _ | exact s_info _ | exact s_und _ | exact s_size _ | exact s_zero _ | exact s_agg _ | exact s_loads _ _ | exact s_stores _ _ _ | exact s_loadVar _ _ | exact s_storeVar _ _ _ | exact s_row _ _ | exact s_var _ _ | exact s_elem _ | exact s_part _ _ _ | exact s_panic _ | exact s_bounds _ _ _ _ | exact s_intOf _ | exact s_int _ | exact s_bool _ | exact s_str _ | exact s_asAgg _ | exact s_addr _ | exact s_sure _ | exact s_room _ | exact s_choose _ | exact s_load _ _ | exact s_store _ _ _ | refine s_program ?_ | refine Sound.bind ?_ (fun _ => ?_)) | ((with_reducible refine s_unsup _ ?_) <;> rfl) | (dsimp only) | split
theorem s_makeFunc (fn : Fn) (a b : Array Value) : Sound P X (Instr.makeFunc fn a b) := Sound.pure' _
theorem s_makeInterface (t : TypeId) (v : Value) : Sound P X (Instr.makeInterface t v) := by
  unfold Instr.makeInterface
  repeat' first | (with_reducible first | exact Sound.pure' _ | exact Sound.pure _ | exact Sound.halt _ | assumption | exact s_stuck _ | exact s_info _ | exact s_und _ | exact s_size _ | exact s_zero _ | exact s_agg _ | exact s_loads _ _ | exact s_stores _ _ _ | exact s_loadVar _ _ | exact s_storeVar _ _ _ | exact s_row _ _ | exact s_var _ _ | exact s_elem _ | exact s_part _ _ _ | exact s_panic _ | exact s_bounds _ _ _ _ | exact s_intOf _ | exact s_int _ | exact s_bool _ | exact s_str _ | exact s_asAgg _ | exact s_addr _ | exact s_sure _ | exact s_room _ | exact s_choose _ | exact s_load _ _ | exact s_store _ _ _ | refine s_program ?_ | refine Sound.bind ?_ (fun _ => ?_)) | ((with_reducible refine s_unsup _ ?_) <;> rfl) | (dsimp only) | split
theorem s_makeMap (t : TypeId) (v : Option Value) : Sound P X (Instr.makeMap t v) := by
  unfold Instr.makeMap
  have hn : Sound P X (do pure (.map (some (← newObj (.map #[] 0)))) : Sem Value) := Sound.bind (Sound.new (by simp) (fun _ => Sound.pure _)) (fun _ => Sound.pure' _)
  repeat' first | (with_reducible first | exact Sound.pure' _ | exact Sound.pure _ | exact Sound.halt _ | assumption | exact s_stuck _ | exact s_info _ | exact s_und _ | exact s_size _ | exact s_zero _ | exact s_agg _ | exact s_loads _ _ | exact s_stores _ _ _ | exact s_loadVar _ _ | exact s_storeVar _ _ _ | exact s_row _ _ | exact s_var _ _ | exact s_elem _ | exact s_part _ _ _ | exact s_panic _ | exact s_bounds _ _ _ _ | exact s_intOf _ | exact s_int _ | exact s_bool _ | exact s_str _ | exact s_asAgg _ | exact s_addr _ | exact s_sure _ | exact s_room _ | exact s_choose _ | exact s_load _ _ | exact s_store _ _ _ | refine s_program ?_ | refine Sound.bind ?_ (fun _ => ?_)) | ((with_reducible refine s_unsup _ ?_) <;> rfl) | (dsimp only) | split
theorem s_makeSlice (t : TypeId) (a b : Value) : Sound P X (Instr.makeSlice t a b) := by
  unfold Instr.makeSlice
  repeat' first | (with_reducible first | exact Sound.pure' _ | exact Sound.pure _ | exact Sound.halt _ | assumption | exact s_stuck _ | exact s_info _ | exact s_und _ | exact s_size _ | exact s_zero _ | exact s_agg _ | exact s_loads _ _ | exact s_stores _ _ _ | exact s_loadVar _ _ | exact s_storeVar _ _ _ | exact s_row _ _ | exact s_var _ _ | exact s_elem _ | exact s_part _ _ _ | exact s_panic _ | exact s_bounds _ _ _ _ | exact s_intOf _ | exact s_int _ | exact s_bool _ | exact s_str _ | exact s_asAgg _ | exact s_addr _ | exact s_sure _ | exact s_room _ | exact s_choose _ | exact s_load _ _ | exact s_store _ _ _ | refine s_program ?_ | refine Sound.bind ?_ (fun _ => ?_)) | ((with_reducible refine s_unsup _ ?_) <;> rfl) | (dsimp only) | split
end
end Go.Proofs.Ytafgabakhaipnaa
