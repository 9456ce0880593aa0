/- Runs carried over, 4: more of what the operations are made of. -/
import Derived.Test.YtafgabakhaipnaaJ2
namespace Go.Proofs.Ytafgabakhaipnaa
open Go.Conc

section
variable {P : Program} {X : Nat → Prop} {α β : Type}

theorem s_getObj (r : Nat) : Sound P X (getObj r) := Sound.getObj (fun _ => Sound.pure _)
theorem s_frozen (a : Addr) : Sound P X (frozen a) := Sound.frozen (fun _ => Sound.pure _)
theorem s_set (r : Nat) {o : Obj} (h : (∀ a t, o ≠ .view a t) ∧ ∀ c t, o ≠ .pending c t) : Sound P X (setObj r o) := Sound.setObj h (Sound.pure _)
/-- A term that comes to no end at all. -/
def Ill (P : Program) (s : Sem α) : Prop := ∀ w es, ∃ h u eu, s.runT P w es = (.halt h u, eu) ∧ free h = true
theorem Ill.alike {s : Sem α} (h : Ill P s) (n : Nat) (w0 u0 u : World) (es : Array Event) (rw : Result α × Array Event) : Alike X n w0 u0 es rw (s.runT P u es) := by
  intro _
  obtain ⟨h, u', eu, e, hp⟩ := h u es
  rw [e]
  refine ⟨?_, fun hf => by rw [hp] at hf; cases hf⟩
  cases h <;> first | rfl | (cases hp; done) | (rename_i x; cases x <;> first | rfl | cases hp)
/-- A look at a block's shape whose answer 'no cells' leads nowhere, or which does not hang on how many there are. -/
theorem Sound.shape2 {r : Nat} {k : Option (TypeId × Nat) → Sem α} (hb : ∀ t n, k (some (t, n)) = k (some (t, 0)) ∨ Ill P (k (some (t, 0)))) (hk : ∀ o, Sound P X (k o)) : Sound P X (Sem.shape r k) := fun n w u es h => by
  simp only [Sem.runT]
  by_cases hr : X r
  · obtain ⟨c, e, hw, hu⟩ := h.cov r hr
    simp only [World.shape?, hw, hu]
    rcases hb e c.size with h1 | h1
    · rw [h1]; exact hk _ _ _ _ _ h
    · exact h1.alike _ _ _ _ _ _
  · simp only [World.shape?, h.same r hr]
    exact hk _ _ _ _ _ h
theorem s_shape {r : Nat} {f : Option (TypeId × Nat) → Sem α} (hb : ∀ t n, f (some (t, n)) = f (some (t, 0)) ∨ Ill P (f (some (t, 0)))) (hk : ∀ o, Sound P X (f o)) : Sound P X (shape r >>= f) := Sound.shape2 hb hk
theorem s_viewAt (r : Nat) : Sound P X (viewAt r) := by
  unfold viewAt
  refine s_shape (fun t n => .inl rfl) (fun o => ?_)
  split
  · exact Sound.pure' _
  · refine Sound.bind (s_getObj r) (fun _ => ?_)
    split <;> exact Sound.pure' _
theorem s_numberAt (r : Nat) : Sound P X (numberAt r) := by
  unfold numberAt
  refine s_shape (fun t n => .inl rfl) (fun o => ?_)
  split
  · exact Sound.pure' _
  · refine Sound.bind (s_getObj r) (fun _ => ?_)
    split <;> exact Sound.pure' _
theorem s_noView (a : Addr) : Sound P X (noView a) := by
  unfold noView
  refine Sound.bind (s_viewAt _) (fun _ => ?_)
  split <;> first | exact Sound.halt _ | exact Sound.pure' _
theorem s_behind (n : Addr) : Sound P X (behindNumber n) := Sound.bind (s_numberAt _) (fun _ => Sound.pure' _)
theorem s_byteOf (a : Addr) : Sound P X (byteOf a) := by
  unfold byteOf
  dsimp only
  split
  · exact Sound.pure' _
  · refine s_program (Sound.bind (s_noView a) (fun _ => s_shape (fun t n => .inl rfl) (fun o => ?_)))
    repeat' first | (with_reducible first | exact Sound.pure' _ | exact Sound.pure _ | exact Sound.halt _ | assumption | exact s_stuck _ | exact s_info _ | exact s_und _ | exact s_size _ | exact s_zero _ | exact s_agg _ | exact s_loads _ _ | exact s_stores _ _ _ | exact s_loadVar _ _ | exact s_storeVar _ _ _ | exact s_row _ _ | exact s_var _ _ | exact s_elem _ | exact s_part _ _ _ | exact s_panic _ | exact s_bounds _ _ _ _ | exact s_intOf _ | exact s_int _ | exact s_bool _ | exact s_str _ | exact s_asAgg _ | exact s_addr _ | exact s_sure _ | exact s_room _ | exact s_choose _ | exact s_load _ _ | exact s_store _ _ _ | refine s_program ?_ | refine Sound.bind ?_ (fun _ => ?_)) | ((with_reducible refine s_unsup _ ?_) <;> rfl) | (dsimp only) | split
theorem s_partAt (a : Addr) (c b : Nat) : Sound P X (partAt a c b) := by
  unfold partAt
  exact Sound.bind (s_byteOf _) (fun _ => Sound.bind (s_byteOf _) (fun _ => Sound.pure' _))
theorem s_fieldPlace (a : Addr) (f : Field) : Sound P X (fieldPlace a f) := by
  unfold fieldPlace
  refine Sound.bind (s_size _) (fun _ => ?_)
  split
  · exact s_partAt _ _ _
  · exact Sound.pure' _
theorem s_fieldAt (t : TypeId) (v : Value) (f : Nat) : Sound P X (Instr.fieldAt t v f) := by
  unfold Instr.fieldAt
  repeat' first | (with_reducible first | exact Sound.pure' _ | exact Sound.pure _ | exact Sound.halt _ | assumption | exact s_stuck _ | exact s_info _ | exact s_und _ | exact s_size _ | exact s_zero _ | exact s_agg _ | exact s_loads _ _ | exact s_stores _ _ _ | exact s_loadVar _ _ | exact s_storeVar _ _ _ | exact s_row _ _ | exact s_var _ _ | exact s_elem _ | exact s_part _ _ _ | exact s_panic _ | exact s_bounds _ _ _ _ | exact s_intOf _ | exact s_int _ | exact s_bool _ | exact s_str _ | exact s_asAgg _ | exact s_addr _ | exact s_sure _ | exact s_room _ | exact s_choose _ | exact s_load _ _ | exact s_store _ _ _ | exact s_fieldPlace _ _ | refine s_program ?_ | refine Sound.bind ?_ (fun _ => ?_)) | ((with_reducible refine s_unsup _ ?_) <;> rfl) | (dsimp only) | split
theorem s_sliceBound (x : Value) (y : Nat) (c : BoundsCode) : Sound P X (Instr.sliceBound x y c) := by
  unfold Instr.sliceBound
  repeat' first | (with_reducible first | exact Sound.pure' _ | exact Sound.pure _ | exact Sound.halt _ | assumption | exact s_stuck _ | exact s_info _ | exact s_und _ | exact s_size _ | exact s_zero _ | exact s_agg _ | exact s_loads _ _ | exact s_stores _ _ _ | exact s_loadVar _ _ | exact s_storeVar _ _ _ | exact s_row _ _ | exact s_var _ _ | exact s_elem _ | exact s_part _ _ _ | exact s_panic _ | exact s_bounds _ _ _ _ | exact s_intOf _ | exact s_int _ | exact s_bool _ | exact s_str _ | exact s_asAgg _ | exact s_addr _ | exact s_sure _ | exact s_room _ | exact s_choose _ | exact s_load _ _ | exact s_store _ _ _ | refine s_program ?_ | refine Sound.bind ?_ (fun _ => ?_)) | ((with_reducible refine s_unsup _ ?_) <;> rfl) | (dsimp only) | split
theorem s_sliceBounds (b : Bool) (n c : Nat) (l h m : Option Value) : Sound P X (Instr.sliceBounds b n c l h m) := by
  unfold Instr.sliceBounds
  repeat' first | (with_reducible first | exact Sound.pure' _ | exact Sound.pure _ | exact Sound.halt _ | assumption | exact s_stuck _ | exact s_info _ | exact s_und _ | exact s_size _ | exact s_zero _ | exact s_agg _ | exact s_loads _ _ | exact s_stores _ _ _ | exact s_loadVar _ _ | exact s_storeVar _ _ _ | exact s_row _ _ | exact s_var _ _ | exact s_elem _ | exact s_part _ _ _ | exact s_panic _ | exact s_bounds _ _ _ _ | exact s_intOf _ | exact s_int _ | exact s_bool _ | exact s_str _ | exact s_asAgg _ | exact s_addr _ | exact s_sure _ | exact s_room _ | exact s_choose _ | exact s_load _ _ | exact s_store _ _ _ | exact s_sliceBound _ _ _ | refine s_program ?_ | refine Sound.bind ?_ (fun _ => ?_)) | ((with_reducible refine s_unsup _ ?_) <;> rfl) | (dsimp only) | split
theorem s_slice (t : TypeId) (x : Value) (l h m : Option Value) : Sound P X (Instr.slice t x l h m) := by
  unfold Instr.slice
  repeat' first | (with_reducible first | exact Sound.pure' _ | exact Sound.pure _ | exact Sound.halt _ | assumption | exact s_stuck _ | exact s_info _ | exact s_und _ | exact s_size _ | exact s_zero _ | exact s_agg _ | exact s_loads _ _ | exact s_stores _ _ _ | exact s_loadVar _ _ | exact s_storeVar _ _ _ | exact s_row _ _ | exact s_var _ _ | exact s_elem _ | exact s_part _ _ _ | exact s_panic _ | exact s_bounds _ _ _ _ | exact s_intOf _ | exact s_int _ | exact s_bool _ | exact s_str _ | exact s_asAgg _ | exact s_addr _ | exact s_sure _ | exact s_room _ | exact s_choose _ | exact s_load _ _ | exact s_store _ _ _ | exact s_sliceBounds _ _ _ _ _ _ | refine s_program ?_ | refine Sound.bind ?_ (fun _ => ?_)) | ((with_reducible refine s_unsup _ ?_) <;> rfl) | (dsimp only) | split
theorem s_sliceAt (t : TypeId) (x : Value) (l h m : Option Value) : Sound P X (Instr.sliceAt t x l h m) := by
  unfold Instr.sliceAt
  repeat' first | (with_reducible first | exact Sound.pure' _ | exact Sound.pure _ | exact Sound.halt _ | assumption | exact s_stuck _ | exact s_info _ | exact s_und _ | exact s_size _ | exact s_zero _ | exact s_agg _ | exact s_loads _ _ | exact s_stores _ _ _ | exact s_loadVar _ _ | exact s_storeVar _ _ _ | exact s_row _ _ | exact s_var _ _ | exact s_elem _ | exact s_part _ _ _ | exact s_panic _ | exact s_bounds _ _ _ _ | exact s_intOf _ | exact s_int _ | exact s_bool _ | exact s_str _ | exact s_asAgg _ | exact s_addr _ | exact s_sure _ | exact s_room _ | exact s_choose _ | exact s_load _ _ | exact s_store _ _ _ | exact s_sliceBounds _ _ _ _ _ _ | exact s_slice _ _ _ _ _ | refine s_program ?_ | refine Sound.bind ?_ (fun _ => ?_)) | ((with_reducible refine s_unsup _ ?_) <;> rfl) | (dsimp only) | split
theorem s_range (t : TypeId) (x : Value) : Sound P X (Instr.range t x) := by
  have hn : ∀ (o : Obj), ((∀ a t, o ≠ .view a t) ∧ ∀ c t, o ≠ .pending c t) → Sound P X (do pure (.pointer (some ⟨← newObj o, 0, none⟩)) : Sem Value) := fun o ho => Sound.bind (Sound.new ho (fun _ => Sound.pure _)) (fun _ => Sound.pure' _)
  unfold Instr.range
  refine Sound.bind (s_und t) (fun d => ?_)
  dsimp only
  split
  · exact hn _ (by simp)
  · exact hn _ (by simp)
  · refine Sound.bind (s_getObj _) (fun o => ?_)
    split
    · exact hn _ (by simp)
    · exact Sound.halt _
  · exact Sound.halt _
theorem s_next (v : Value) (b : Bool) (t : TypeId) : Sound P X (Instr.next v b t) := by
  unfold Instr.next
  repeat' first | (with_reducible first | exact Sound.pure' _ | exact Sound.pure _ | exact Sound.halt _ | assumption | exact s_stuck _ | exact s_info _ | exact s_und _ | exact s_size _ | exact s_zero _ | exact s_agg _ | exact s_loads _ _ | exact s_stores _ _ _ | exact s_loadVar _ _ | exact s_storeVar _ _ _ | exact s_row _ _ | exact s_var _ _ | exact s_elem _ | exact s_part _ _ _ | exact s_panic _ | exact s_bounds _ _ _ _ | exact s_intOf _ | exact s_int _ | exact s_bool _ | exact s_str _ | exact s_asAgg _ | exact s_addr _ | exact s_sure _ | exact s_room _ | exact s_choose _ | exact s_load _ _ | exact s_store _ _ _ | exact s_getObj _ | refine s_program ?_ | refine Sound.bind ?_ (fun _ => ?_)) | exact s_set _ (by simp) | ((with_reducible refine s_unsup _ ?_) <;> rfl) | (dsimp only) | split
theorem s_len (a : Array TypeId) (t : TypeId) (v : Array Value) : Sound P X (Builtin.len_ a t v) := by
  unfold Builtin.len_
  repeat' first | (with_reducible first | exact Sound.pure' _ | exact Sound.pure _ | exact Sound.halt _ | assumption | exact s_stuck _ | exact s_info _ | exact s_und _ | exact s_size _ | exact s_zero _ | exact s_agg _ | exact s_loads _ _ | exact s_stores _ _ _ | exact s_loadVar _ _ | exact s_storeVar _ _ _ | exact s_row _ _ | exact s_var _ _ | exact s_elem _ | exact s_part _ _ _ | exact s_panic _ | exact s_bounds _ _ _ _ | exact s_intOf _ | exact s_int _ | exact s_bool _ | exact s_str _ | exact s_asAgg _ | exact s_addr _ | exact s_sure _ | exact s_room _ | exact s_choose _ | exact s_load _ _ | exact s_store _ _ _ | exact s_getObj _ | refine s_program ?_ | refine Sound.bind ?_ (fun _ => ?_)) | ((with_reducible refine s_unsup _ ?_) <;> rfl) | (dsimp only) | split
theorem s_lenOf (v : Value) : Sound P X (Builtin.lenOf v) := by
  unfold Builtin.lenOf
  split <;> first | exact Sound.pure' _ | exact Sound.halt _
theorem s_firstCells (s n : Nat) (v : Value) : Sound P X (Builtin.firstCells s n v) := by
  unfold Builtin.firstCells
  split <;> first | exact s_loads _ _ | exact Sound.pure' _ | exact Sound.halt _
theorem s_copy (a : Array TypeId) (t : TypeId) (v : Array Value) : Sound P X (Builtin.copy_ a t v) := by
  unfold Builtin.copy_
  repeat' first | (with_reducible first | exact Sound.pure' _ | exact Sound.pure _ | exact Sound.halt _ | assumption | exact s_stuck _ | exact s_info _ | exact s_und _ | exact s_size _ | exact s_zero _ | exact s_agg _ | exact s_loads _ _ | exact s_stores _ _ _ | exact s_loadVar _ _ | exact s_storeVar _ _ _ | exact s_row _ _ | exact s_var _ _ | exact s_elem _ | exact s_part _ _ _ | exact s_panic _ | exact s_bounds _ _ _ _ | exact s_intOf _ | exact s_int _ | exact s_bool _ | exact s_str _ | exact s_asAgg _ | exact s_addr _ | exact s_sure _ | exact s_room _ | exact s_choose _ | exact s_load _ _ | exact s_store _ _ _ | exact s_lenOf _ | exact s_firstCells _ _ _ | refine s_program ?_ | refine Sound.bind ?_ (fun _ => ?_)) | ((with_reducible refine s_unsup _ ?_) <;> rfl) | (dsimp only) | split
end
end Go.Proofs.Ytafgabakhaipnaa

/- Runs carried over, 5: comparing, looking up, appending; the operations. -/
namespace Go.Proofs.Ytafgabakhaipnaa
open Go.Conc

section
variable {P : Program} {X : Nat → Prop} {α β : Type}

theorem s_forList {γ σ : Type} {f : γ → σ → Sem (ForInStep σ)} (hf : ∀ x s, Sound P X (f x s)) : ∀ (l : List γ) (i : σ), Sound P X (forIn l i f)
  | [], i => by rw [List.forIn_nil]; exact Sound.pure' _
  | x :: l, i => by
    rw [List.forIn_cons]
    refine Sound.bind (hf x i) (fun r => ?_)
    cases r with
    | done s => exact Sound.pure' _
    | yield s => exact s_forList hf l s
theorem s_forArr {γ σ : Type} {f : γ → σ → Sem (ForInStep σ)} (hf : ∀ x s, Sound P X (f x s)) (xs : Array γ) (i : σ) : Sound P X (forIn xs i f) := by
  rw [← Array.forIn_toList]; exact s_forList hf _ _
theorem s_forRange {σ : Type} {f : Nat → σ → Sem (ForInStep σ)} (hf : ∀ x s, Sound P X (f x s)) (r : Std.Legacy.Range) (i : σ) : Sound P X (forIn r i f) := by
  rw [Std.Legacy.Range.forIn_eq_forIn_range']; exact s_forList hf _ _

def sg (w : World) (a : Addr) : Bool := w.frozen? a || (match w.shape? a.block with | some (_, n) => w.frozen? { block := a.block, off := n } | none => false)
def nn (w : World) (a : Addr) : Bool := match w.shape? a.block with | some (_, 0) => true | _ => false
theorem run_stringish (w : World) (a : Addr) (es : Array Event) : (stringish a).runT P w es = (.ok (sg w a) w, es) := by
  unfold stringish
  show ((frozen a).bind _).runT P w es = _
  rw [Sem.runT_bind']
  have e : (frozen a).runT P w es = (.ok (w.frozen? a) w, es) := rfl
  rw [e]
  cases hf : w.frozen? a with
  | true => simp only [sg, hf, Bool.true_or]; rfl
  | false =>
    simp only [sg, hf, Bool.false_or, Bool.false_eq_true, if_false]
    show ((shape a.block).bind _).runT P w es = _
    rw [Sem.runT_bind']
    have e2 : (shape a.block).runT P w es = (.ok (w.shape? a.block) w, es) := rfl
    rw [e2]
    cases hs : w.shape? a.block with
    | none => rfl
    | some o => rfl
theorem Sim.sgX {n : Nat} {w u : World} (h : Sim X n w u) {a : Addr} (ha : X a.block) : sg u a = false ∧ sg w a = false := by
  obtain ⟨c, e, hw, hu⟩ := h.cov _ ha
  constructor <;> simp [sg, World.frozen?, World.shape?, hw, hu]
theorem Sim.sg {n : Nat} {w u : World} (h : Sim X n w u) (a : Addr) : sg u a = sg w a := by
  by_cases ha : X a.block
  · rw [(h.sgX ha).1, (h.sgX ha).2]
  · simp only [Go.Proofs.Ytafgabakhaipnaa.sg, World.frozen?, World.shape?, h.same _ ha]
theorem run_mayBeOne (w : World) (a b : Addr) (es : Array Event) : (mayBeOne a b).runT P w es = (.ok ((sg w a && sg w b) || (sg w a && nn w a) || (sg w b && nn w b)) w, es) := by
  unfold mayBeOne
  dsimp only
  show ((stringish a).bind _).runT P w es = _
  rw [Sem.runT_bind', run_stringish]
  show ((stringish b).bind _).runT P w es = _
  rw [Sem.runT_bind', run_stringish]
  show ((Sem.bind (shape a.block) _).bind _).runT P w es = _
  simp only [Sem.runT_bind']
  have e2 : ∀ r, (shape r).runT P w es = (.ok (w.shape? r) w, es) := fun _ => rfl
  rw [e2]
  show ((Sem.bind (Sem.bind (shape b.block) _) _).runT P w es) = _
  simp only [Sem.runT_bind']
  rw [e2]
  rfl
theorem s_mayBeOne (a b : Addr) : Sound P X (mayBeOne a b) := fun n w u es h => by
  rw [run_mayBeOne, run_mayBeOne]
  refine fun _ => ⟨fun e he => .inl he, w, ?_, On.refl h⟩
  have hn : ∀ x, (Go.Proofs.Ytafgabakhaipnaa.sg u x && nn u x) = (Go.Proofs.Ytafgabakhaipnaa.sg w x && nn w x) := fun x => by
    by_cases hx : X x.block
    · rw [(h.sgX hx).1, (h.sgX hx).2]; rfl
    · rw [h.sg x]; simp only [nn, World.shape?, h.same _ hx]
  rw [h.sg a, h.sg b, ← h.sg a, ← h.sg b, hn a, hn b, h.sg a, h.sg b]
theorem s_sameAddr (a b : Addr) : Sound P X (sameAddr a b) := by
  unfold sameAddr
  repeat' first | (with_reducible first | exact Sound.pure' _ | exact Sound.pure _ | exact Sound.halt _ | assumption | exact s_stuck _ | exact s_info _ | exact s_und _ | exact s_size _ | exact s_zero _ | exact s_agg _ | exact s_loads _ _ | exact s_stores _ _ _ | exact s_loadVar _ _ | exact s_storeVar _ _ _ | exact s_row _ _ | exact s_var _ _ | exact s_elem _ | exact s_part _ _ _ | exact s_panic _ | exact s_bounds _ _ _ _ | exact s_intOf _ | exact s_int _ | exact s_bool _ | exact s_str _ | exact s_asAgg _ | exact s_addr _ | exact s_sure _ | exact s_room _ | exact s_choose _ | exact s_load _ _ | exact s_store _ _ _ | exact s_getObj _ | exact s_frozen _ | exact s_noView _ | exact s_mayBeOne _ _ | refine s_program ?_ | refine Sound.bind ?_ (fun _ => ?_)) | ((with_reducible refine s_unsup _ ?_) <;> rfl) | (dsimp only) | split
theorem s_samePointer (a b : Option Addr) : Sound P X (samePointer a b) := by
  unfold samePointer
  split <;> first | exact s_sameAddr _ _ | exact Sound.pure' _
theorem s_typeStr (t : TypeId) : Sound P X (typeStr t) := by
  unfold typeStr
  repeat' first | (with_reducible first | exact Sound.pure' _ | exact Sound.pure _ | exact Sound.halt _ | assumption | exact s_stuck _ | exact s_info _ | exact s_und _ | exact s_size _ | exact s_zero _ | exact s_agg _ | exact s_loads _ _ | exact s_stores _ _ _ | exact s_loadVar _ _ | exact s_storeVar _ _ _ | exact s_row _ _ | exact s_var _ _ | exact s_elem _ | exact s_part _ _ _ | exact s_panic _ | exact s_bounds _ _ _ _ | exact s_intOf _ | exact s_int _ | exact s_bool _ | exact s_str _ | exact s_asAgg _ | exact s_addr _ | exact s_sure _ | exact s_room _ | exact s_choose _ | exact s_load _ _ | exact s_store _ _ _ | exact s_getObj _ | refine s_program ?_ | refine Sound.bind ?_ (fun _ => ?_)) | ((with_reducible refine s_unsup _ ?_) <;> rfl) | (dsimp only) | split
theorem s_equalIn : ∀ (d : Nat) (t : TypeId) (x y : Value), Sound P X (Op.equalIn d t x y)
  | 0, _, _, _ => Sound.halt _
  | d + 1, t, x, y => by
    have ih := fun t x y => s_equalIn d t x y
    unfold Op.equalIn
    refine Sound.bind (s_und t) (fun u => ?_)
    split <;> repeat' first | (with_reducible first | exact Sound.pure' _ | exact Sound.pure _ | exact Sound.halt _ | assumption | exact s_stuck _ | exact s_info _ | exact s_und _ | exact s_size _ | exact s_zero _ | exact s_agg _ | exact s_loads _ _ | exact s_stores _ _ _ | exact s_loadVar _ _ | exact s_storeVar _ _ _ | exact s_row _ _ | exact s_var _ _ | exact s_elem _ | exact s_part _ _ _ | exact s_panic _ | exact s_bounds _ _ _ _ | exact s_intOf _ | exact s_int _ | exact s_bool _ | exact s_str _ | exact s_asAgg _ | exact s_addr _ | exact s_sure _ | exact s_room _ | exact s_choose _ | exact s_load _ _ | exact s_store _ _ _ | exact s_getObj _ | exact s_behind _ | exact s_byteOf _ | exact s_sameAddr _ _ | exact s_samePointer _ _ | exact s_typeStr _ | exact ih _ _ _ | refine s_forArr (fun _ _ => ?_) _ _ | refine s_forRange (fun _ _ => ?_) _ _ | refine s_program ?_ | refine Sound.bind ?_ (fun _ => ?_)) | ((with_reducible refine s_unsup _ ?_) <;> rfl) | (dsimp only) | split
theorem s_equal (t : TypeId) (x y : Value) : Sound P X (Op.equal t x y) := s_equalIn _ _ _ _
end
end Go.Proofs.Ytafgabakhaipnaa
