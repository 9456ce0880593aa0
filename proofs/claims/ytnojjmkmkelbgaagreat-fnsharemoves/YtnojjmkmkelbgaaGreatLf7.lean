/- Runs carried over, 7: the operations whole. -/
import Derived.Test.YtnojjmkmkelbgaaGreatLf6
namespace Go.Proofs.YtnojjmkmkelbgaaGreat
open Go.Conc

section
variable {P : Program} {X : Nat → Prop} {α β : Type}

theorem s_undK {t : TypeId} {d : TypeDesc} {f : TypeDesc → Sem α} (h : P.underlying t = some d) (hf : Sound P X (f d)) : Sound P X (underlying t >>= f) := by
  refine Sound.program ?_
  show Sound P X (Sem.bind (match P.underlying t with | some d => Pure.pure d | none => stuck "no such type") f)
  rw [h]
  exact hf
theorem s_mapEntry (t : TypeId) (m k : Value) : Sound P X (Instr.mapEntry t m k) := by
  unfold Instr.mapEntry
  repeat' first | (with_reducible first | exact Sound.pure' _ | exact Sound.pure _ | exact Sound.halt _ | assumption | exact s_stuck _ | exact s_info _ | exact s_und _ | exact s_size _ | exact s_zero _ | exact s_agg _ | exact s_loads _ _ | exact s_stores _ _ _ | exact s_loadVar _ _ | exact s_storeVar _ _ _ | exact s_row _ _ | exact s_var _ _ | exact s_elem _ | exact s_part _ _ _ | exact s_panic _ | exact s_bounds _ _ _ _ | exact s_intOf _ | exact s_int _ | exact s_bool _ | exact s_str _ | exact s_asAgg _ | exact s_addr _ | exact s_sure _ | exact s_room _ | exact s_choose _ | exact s_load _ _ | exact s_store _ _ _ | exact s_getObj _ | exact s_equal _ _ _ | exact s_typeStr _ | exact s_checkKey _ _ _ _ | exact s_findKey _ _ _ | exact s_keyThatStays _ _ | refine s_program ?_ | refine Sound.bind ?_ (fun _ => ?_)) | exact s_set _ (by simp) | ((with_reducible refine s_unsup _ ?_) <;> rfl) | ((with_reducible refine s_unsupB _ _ ?_) <;> rfl) | (dsimp only) | split
theorem s_entryStore (t : TypeId) (m k v : Value) : Sound P X (Instr.entryStore t m k v) := by
  unfold Instr.entryStore
  repeat' first | (with_reducible first | exact Sound.pure' _ | exact Sound.pure _ | exact Sound.halt _ | assumption | exact s_stuck _ | exact s_info _ | exact s_und _ | exact s_size _ | exact s_zero _ | exact s_agg _ | exact s_loads _ _ | exact s_stores _ _ _ | exact s_loadVar _ _ | exact s_storeVar _ _ _ | exact s_row _ _ | exact s_var _ _ | exact s_elem _ | exact s_part _ _ _ | exact s_panic _ | exact s_bounds _ _ _ _ | exact s_intOf _ | exact s_int _ | exact s_bool _ | exact s_str _ | exact s_asAgg _ | exact s_addr _ | exact s_sure _ | exact s_room _ | exact s_choose _ | exact s_load _ _ | exact s_store _ _ _ | exact s_getObj _ | exact s_equal _ _ _ | exact s_typeStr _ | refine s_program ?_ | refine Sound.bind ?_ (fun _ => ?_)) | exact s_set _ (by simp) | ((with_reducible refine s_unsup _ ?_) <;> rfl) | ((with_reducible refine s_unsupB _ _ ?_) <;> rfl) | (dsimp only) | split
theorem s_followBlind : ∀ (l : List FieldStep) (t : TypeId) (x : Option Value), Sound P X (followBlind l t x)
  | [], _, _ => Sound.pure' _
  | s :: l, t, x => by
    have ih := fun t x => s_followBlind l t x
    unfold followBlind
    repeat' first | (with_reducible first | exact Sound.pure' _ | exact Sound.pure _ | exact Sound.halt _ | assumption | exact s_stuck _ | exact s_info _ | exact s_und _ | exact s_size _ | exact s_zero _ | exact s_agg _ | exact s_loads _ _ | exact s_stores _ _ _ | exact s_loadVar _ _ | exact s_storeVar _ _ _ | exact s_row _ _ | exact s_var _ _ | exact s_elem _ | exact s_part _ _ _ | exact s_panic _ | exact s_bounds _ _ _ _ | exact s_intOf _ | exact s_int _ | exact s_bool _ | exact s_str _ | exact s_asAgg _ | exact s_addr _ | exact s_sure _ | exact s_room _ | exact s_choose _ | exact s_load _ _ | exact s_store _ _ _ | exact s_getObj _ | exact s_equal _ _ _ | exact s_typeStr _ | exact ih _ _ | refine s_program ?_ | refine Sound.bind ?_ (fun _ => ?_)) | ((with_reducible refine s_unsup _ ?_) <;> rfl) | ((with_reducible refine s_unsupB _ _ ?_) <;> rfl) | (dsimp only) | split
theorem s_nilAhead : ∀ (n : Nat) (t : TypeId) (v : Value) (s : String), Sound P X (nilAhead n t v s)
  | 0, _, _, _ => Sound.pure' _
  | n + 1, t, v, s => by
    have ih := fun t v => s_nilAhead n t v s
    unfold nilAhead
    repeat' first | (with_reducible first | exact Sound.pure' _ | exact Sound.pure _ | exact Sound.halt _ | assumption | exact s_stuck _ | exact s_info _ | exact s_und _ | exact s_size _ | exact s_zero _ | exact s_agg _ | exact s_loads _ _ | exact s_stores _ _ _ | exact s_loadVar _ _ | exact s_storeVar _ _ _ | exact s_row _ _ | exact s_var _ _ | exact s_elem _ | exact s_part _ _ _ | exact s_panic _ | exact s_bounds _ _ _ _ | exact s_intOf _ | exact s_int _ | exact s_bool _ | exact s_str _ | exact s_asAgg _ | exact s_addr _ | exact s_sure _ | exact s_room _ | exact s_choose _ | exact s_load _ _ | exact s_store _ _ _ | exact s_getObj _ | exact s_equal _ _ _ | exact s_typeStr _ | exact ih _ _ | exact s_followBlind _ _ _ | refine s_program ?_ | refine Sound.bind ?_ (fun _ => ?_)) | ((with_reducible refine s_unsup _ ?_) <;> rfl) | ((with_reducible refine s_unsupB _ _ ?_) <;> rfl) | (dsimp only) | split
theorem s_typeAssert (x : Value) (a b : TypeId) (ok : Bool) : Sound P X (Instr.typeAssert x a b ok) := by
  unfold Instr.typeAssert
  repeat' first | (with_reducible first | exact Sound.pure' _ | exact Sound.pure _ | exact Sound.halt _ | assumption | exact s_stuck _ | exact s_info _ | exact s_und _ | exact s_size _ | exact s_zero _ | exact s_agg _ | exact s_loads _ _ | exact s_stores _ _ _ | exact s_loadVar _ _ | exact s_storeVar _ _ _ | exact s_row _ _ | exact s_var _ _ | exact s_elem _ | exact s_part _ _ _ | exact s_panic _ | exact s_bounds _ _ _ _ | exact s_intOf _ | exact s_int _ | exact s_bool _ | exact s_str _ | exact s_asAgg _ | exact s_addr _ | exact s_sure _ | exact s_room _ | exact s_choose _ | exact s_load _ _ | exact s_store _ _ _ | exact s_getObj _ | exact s_equal _ _ _ | exact s_typeStr _ | refine s_program ?_ | refine Sound.bind ?_ (fun _ => ?_)) | ((with_reducible refine s_unsup _ ?_) <;> rfl) | ((with_reducible refine s_unsupB _ _ ?_) <;> rfl) | (dsimp only) | split
theorem s_arrayAt (t : TypeId) (x : Value) : Sound P X (Instr.arrayAt t x) := by
  unfold Instr.arrayAt
  repeat' first | (with_reducible first | exact Sound.pure' _ | exact Sound.pure _ | exact Sound.halt _ | assumption | exact s_stuck _ | exact s_info _ | exact s_und _ | exact s_size _ | exact s_zero _ | exact s_agg _ | exact s_loads _ _ | exact s_stores _ _ _ | exact s_loadVar _ _ | exact s_storeVar _ _ _ | exact s_row _ _ | exact s_var _ _ | exact s_elem _ | exact s_part _ _ _ | exact s_panic _ | exact s_bounds _ _ _ _ | exact s_intOf _ | exact s_int _ | exact s_bool _ | exact s_str _ | exact s_asAgg _ | exact s_addr _ | exact s_sure _ | exact s_room _ | exact s_choose _ | exact s_load _ _ | exact s_store _ _ _ | exact s_getObj _ | exact s_equal _ _ _ | exact s_typeStr _ | refine s_program ?_ | refine Sound.bind ?_ (fun _ => ?_)) | ((with_reducible refine s_unsup _ ?_) <;> rfl) | ((with_reducible refine s_unsupB _ _ ?_) <;> rfl) | (dsimp only) | split
theorem s_waits (g : Nat) : Sound P X (Instr.waits g) := s_shape (fun _ _ => .inl rfl) (fun _ => Sound.pure' _)
theorem s_floatToInt (s : FloatKind) (b : Nat) (k : IntKind) : Sound P X (Conv.floatToInt s b k) := by
  unfold Conv.floatToInt
  repeat' first | (with_reducible first | exact Sound.pure' _ | exact Sound.pure _ | exact Sound.halt _ | assumption | exact s_stuck _ | exact s_info _ | exact s_und _ | exact s_size _ | exact s_zero _ | exact s_agg _ | exact s_loads _ _ | exact s_stores _ _ _ | exact s_loadVar _ _ | exact s_storeVar _ _ _ | exact s_row _ _ | exact s_var _ _ | exact s_elem _ | exact s_part _ _ _ | exact s_panic _ | exact s_bounds _ _ _ _ | exact s_intOf _ | exact s_int _ | exact s_bool _ | exact s_str _ | exact s_asAgg _ | exact s_addr _ | exact s_sure _ | exact s_room _ | exact s_choose _ | exact s_load _ _ | exact s_store _ _ _ | exact s_getObj _ | exact s_equal _ _ _ | exact s_typeStr _ | refine s_program ?_ | refine Sound.bind ?_ (fun _ => ?_)) | ((with_reducible refine s_unsup _ ?_) <;> rfl) | ((with_reducible refine s_unsupB _ _ ?_) <;> rfl) | (dsimp only) | split
theorem s_convertInt {src dst : TypeId} {x : Value} {j k : IntKind} (h1 : P.underlying src = some (.int j)) (h : P.underlying dst = some (.int k)) : Sound P X (convert src dst x) := by
  unfold convert
  refine s_undK h1 (s_undK h ?_)
  cases x <;> first | exact Sound.pure' _ | exact s_floatToInt _ _ _ | exact Sound.halt _ | skip
  rename_i a
  cases a <;> exact Sound.halt _

/-- What an operation that calls nothing comes to. -/
def Plain (n : Next) : Prop := (∃ v, n = .value v) ∨ n = .skip
def Ends (P : Program) (Q : Next → Prop) (s : Sem Next) : Prop := ∀ w es n w' es', s.runT P w es = (.ok n w', es') → Q n
theorem ends_v (s : Sem Value) : Ends P Plain (do pure (.value (← s))) := fun w es n w' es' h => by
  have h : (s.bind _).runT P w es = _ := h
  rw [Sem.runT_bind'] at h
  match hs : s.runT P w es, h with
  | (.ok a w1, e1), h => exact .inl ⟨a, by cases h; rfl⟩
  | (.halt a w1, e1), h => cases h
theorem ends_u (s : Sem Unit) : Ends P Plain (do s; pure .skip) := fun w es n w' es' h => by
  have h : (s.bind _).runT P w es = _ := h
  rw [Sem.runT_bind'] at h
  match hs : s.runT P w es, h with
  | (.ok a w1, e1), h => exact .inr (by cases h; rfl)
  | (.halt a w1, e1), h => cases h
theorem ends_pure (v : Value) : Ends P Plain (Pure.pure (.value v)) := fun w es n w' es' h => by cases h; exact .inl ⟨v, rfl⟩
theorem ends_bind {Q : Next → Prop} {s : Sem α} {f : α → Sem Next} (hf : ∀ a, Ends P Q (f a)) : Ends P Q (s >>= f) := fun w es n w' es' h => by
  have h : (s.bind f).runT P w es = _ := h
  rw [Sem.runT_bind'] at h
  match hs : s.runT P w es, h with
  | (.ok a w1, e1), h => exact hf a _ _ _ _ _ h
  | (.halt a w1, e1), h => cases h
theorem ends_halt {Q : Next → Prop} (k : Halt) : Ends P Q (Sem.halt k) := fun w es n w' es' h => by cases h
theorem ends_nil {Q : Next → Prop} : Ends P Q (runtimePanic .nilDeref) := fun w es n w' es' h => by cases h
theorem sv {s : Sem Value} (h : Sound P X s) : Sound P X (do pure (.value (← s)) : Sem Next) ∧ Ends P Plain (do pure (.value (← s))) := ⟨Sound.bind h (fun _ => Sound.pure' _), ends_v s⟩
theorem su {s : Sem Unit} (h : Sound P X s) : Sound P X (do s; pure .skip : Sem Next) ∧ Ends P Plain (do s; pure .skip) := ⟨Sound.bind h (fun _ => Sound.pure' _), ends_u s⟩

/-- The kinds of operations that call nothing and are let by. -/
def opPlain : Op → Bool
  | .move _ | .assign _ | .pick .. | .alloc _ | .box .. | .build .. | .buildSlice .. | .load .. | .store .. | .waits _ | .binOp .. | .unOp .. | .sliceToArrayPointer .. | .makeInterface .. | .makeFunc .. | .makeMap .. | .makeSlice .. | .slice .. | .fieldAddr .. | .field .. | .indexAddr .. | .index .. | .lookup .. | .mapUpdate .. | .insert .. | .mapEntry .. | .entryStore .. | .range .. | .next .. | .typeAssert .. | .extract .. | .nilCheck _ => true
  | _ => false
set_option maxHeartbeats 4000000 in
theorem plain_op (ρ : Operand → Value) (o : Oper) (h : opPlain o.op = true) : Sound P X (execOp ρ o) ∧ Ends P Plain (execOp ρ o) := by
  unfold execOp
  cases hop : o.op <;> rw [hop] at h <;> (try (cases h; done)) <;> dsimp only
  any_goals (with_reducible first
    | exact sv (s_alloc _ _ _) | exact sv (s_box _ _) | exact sv (s_build _ _) | exact sv (s_buildSlice _ _ _) | exact sv (s_loadAt _ _) | exact su (s_storeAt _ _ _) | exact sv (s_waits _)
    | exact sv (Sound.bind (s_eqGuard _ _ _ _ _ _) (fun _ => s_binOp _ _ _ _)) | exact sv (s_unary _ _) | exact sv (s_arrayAt _ _) | exact sv (s_makeInterface _ _) | exact sv (s_makeFunc _ _ _) | exact sv (s_makeMap _ _) | exact sv (s_makeSlice _ _ _)
    | exact sv (s_sliceAt _ _ _ _ _) | exact sv (s_fieldAt _ _ _) | exact sv (s_field _ _ _) | exact sv (s_indexAt _ _ _) | exact sv (s_index _ _ _) | exact sv (s_lookup _ _ _ _) | exact su (s_mapUpdate _ _ _ _) | exact sv (s_mapEntry _ _ _) | exact su (s_entryStore _ _ _ _)
    | exact sv (s_range _ _) | exact sv (s_next _ _ _) | exact sv (s_typeAssert _ _ _ _) | exact sv (s_extract _ _))
  · exact ⟨Sound.pure' _, ends_pure _⟩
  · exact ⟨Sound.pure' _, ends_pure _⟩
  · exact ⟨Sound.bind (s_bool _) (fun _ => Sound.pure' _), ends_bind (fun _ => ends_pure _)⟩
  · split
    · exact ⟨s_panic _, ends_nil⟩
    · exact ⟨s_panic _, ends_nil⟩
    · exact ⟨s_panic _, ends_nil⟩
    · split
      · exact ⟨s_panic _, ends_nil⟩
      · refine ⟨s_program (Sound.bind (s_nilAhead _ _ _ _) (fun _ => ?_)), ends_bind (fun _ => ends_bind (fun _ => ?_))⟩
        · split
          · exact s_unsupB _ _ rfl
          · exact Sound.pure' _
        · split
          · exact ends_bind (fun _ => ends_pure _)
          · exact ends_pure _
      · exact ⟨Sound.pure' _, ends_pure _⟩
    · exact ⟨Sound.pure' _, ends_pure _⟩
end
end Go.Proofs.YtnojjmkmkelbgaaGreat
