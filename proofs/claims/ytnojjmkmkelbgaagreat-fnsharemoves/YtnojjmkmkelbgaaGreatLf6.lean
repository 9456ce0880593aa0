/- Runs carried over, 6: maps, operators, appending. -/
import Derived.Test.YtnojjmkmkelbgaaGreatJ0
namespace Go.Proofs.YtnojjmkmkelbgaaGreat
open Go.Conc

section
variable {P : Program} {X : Nat → Prop} {α β : Type}

theorem s_eqGuardIn : ∀ (d : Nat) (t : TypeId) (x y : Value), Sound P X (Op.eqGuardIn d t x y)
  | 0, _, _, _ => Sound.halt _
  | d + 1, t, x, y => by
    have ih := fun t x y => s_eqGuardIn d t x y
    unfold Op.eqGuardIn
    refine Sound.bind (s_und t) (fun u => ?_)
    split <;> repeat' first | (with_reducible first | exact Sound.pure' _ | exact Sound.pure _ | exact Sound.halt _ | assumption | exact s_stuck _ | exact s_info _ | exact s_und _ | exact s_size _ | exact s_zero _ | exact s_agg _ | exact s_loads _ _ | exact s_stores _ _ _ | exact s_loadVar _ _ | exact s_storeVar _ _ _ | exact s_row _ _ | exact s_var _ _ | exact s_elem _ | exact s_part _ _ _ | exact s_panic _ | exact s_bounds _ _ _ _ | exact s_intOf _ | exact s_int _ | exact s_bool _ | exact s_str _ | exact s_asAgg _ | exact s_addr _ | exact s_sure _ | exact s_room _ | exact s_choose _ | exact s_load _ _ | exact s_store _ _ _ | exact s_getObj _ | exact s_equal _ _ _ | exact s_typeStr _ | exact ih _ _ _ | refine s_forArr (fun _ _ => ?_) _ _ | refine s_forRange (fun _ _ => ?_) _ _ | refine s_program ?_ | refine Sound.bind ?_ (fun _ => ?_)) | ((with_reducible refine s_unsup _ ?_) <;> rfl) | (dsimp only) | split
theorem s_eqGuard (op : BinOp) (t : TypeId) (x y : Operand) (a b : Value) : Sound P X (eqGuard op t x y a b) := by
  unfold eqGuard
  repeat' first | (with_reducible first | exact Sound.pure' _ | exact Sound.pure _ | exact Sound.halt _ | assumption | exact s_stuck _ | exact s_info _ | exact s_und _ | exact s_size _ | exact s_zero _ | exact s_agg _ | exact s_loads _ _ | exact s_stores _ _ _ | exact s_loadVar _ _ | exact s_storeVar _ _ _ | exact s_row _ _ | exact s_var _ _ | exact s_elem _ | exact s_part _ _ _ | exact s_panic _ | exact s_bounds _ _ _ _ | exact s_intOf _ | exact s_int _ | exact s_bool _ | exact s_str _ | exact s_asAgg _ | exact s_addr _ | exact s_sure _ | exact s_room _ | exact s_choose _ | exact s_load _ _ | exact s_store _ _ _ | exact s_getObj _ | exact s_equal _ _ _ | exact s_typeStr _ | exact s_eqGuardIn _ _ _ _ | refine s_program ?_ | refine Sound.bind ?_ (fun _ => ?_)) | ((with_reducible refine s_unsup _ ?_) <;> rfl) | (dsimp only) | split
theorem s_checkKey (e : Bool) : ∀ (d : Nat) (t : TypeId) (v : Value), Sound P X (Instr.checkKey e d t v)
  | 0, _, _ => Sound.halt _
  | d + 1, t, v => by
    have ih := fun t v => s_checkKey e d t v
    unfold Instr.checkKey
    refine Sound.bind (s_und t) (fun u => ?_)
    split <;> repeat' first | (with_reducible first | exact Sound.pure' _ | exact Sound.pure _ | exact Sound.halt _ | assumption | exact s_stuck _ | exact s_info _ | exact s_und _ | exact s_size _ | exact s_zero _ | exact s_agg _ | exact s_loads _ _ | exact s_stores _ _ _ | exact s_loadVar _ _ | exact s_storeVar _ _ _ | exact s_row _ _ | exact s_var _ _ | exact s_elem _ | exact s_part _ _ _ | exact s_panic _ | exact s_bounds _ _ _ _ | exact s_intOf _ | exact s_int _ | exact s_bool _ | exact s_str _ | exact s_asAgg _ | exact s_addr _ | exact s_sure _ | exact s_room _ | exact s_choose _ | exact s_load _ _ | exact s_store _ _ _ | exact s_getObj _ | exact s_equal _ _ _ | exact s_typeStr _ | exact ih _ _ | refine s_forArr (fun _ _ => ?_) _ _ | refine s_forRange (fun _ _ => ?_) _ _ | refine s_program ?_ | refine Sound.bind ?_ (fun _ => ?_)) | ((with_reducible refine s_unsup _ ?_) <;> rfl) | (dsimp only) | split
theorem s_findAsking (t : TypeId) (k : Value) : ∀ (es : List MapEntry) (i : Nat), Sound P X (Instr.findAsking t k es i)
  | [], _ => Sound.pure' _
  | e :: es, i => by
    unfold Instr.findAsking
    refine Sound.bind (s_equal _ _ _) (fun b => ?_)
    split
    · exact Sound.pure' _
    · exact s_findAsking t k es (i + 1)
theorem s_findKey (t : TypeId) (k : Value) (es : List MapEntry) : Sound P X (Instr.findKey t k es) := by
  unfold Instr.findKey
  refine Sound.bind (s_und t) (fun u => ?_)
  split
  · exact Sound.pure' _
  · exact s_findAsking _ _ _ _
theorem s_lookup (t : TypeId) (x i : Value) (ok : Bool) : Sound P X (Instr.lookup t x i ok) := by
  unfold Instr.lookup
  repeat' first | (with_reducible first | exact Sound.pure' _ | exact Sound.pure _ | exact Sound.halt _ | assumption | exact s_stuck _ | exact s_info _ | exact s_und _ | exact s_size _ | exact s_zero _ | exact s_agg _ | exact s_loads _ _ | exact s_stores _ _ _ | exact s_loadVar _ _ | exact s_storeVar _ _ _ | exact s_row _ _ | exact s_var _ _ | exact s_elem _ | exact s_part _ _ _ | exact s_panic _ | exact s_bounds _ _ _ _ | exact s_intOf _ | exact s_int _ | exact s_bool _ | exact s_str _ | exact s_asAgg _ | exact s_addr _ | exact s_sure _ | exact s_room _ | exact s_choose _ | exact s_load _ _ | exact s_store _ _ _ | exact s_getObj _ | exact s_equal _ _ _ | exact s_typeStr _ | exact s_checkKey _ _ _ _ | exact s_findKey _ _ _ | refine s_program ?_ | refine Sound.bind ?_ (fun _ => ?_)) | ((with_reducible refine s_unsup _ ?_) <;> rfl) | (dsimp only) | split
theorem s_keyThatStays (a b : Value) : Sound P X (Instr.keyThatStays a b) := by
  unfold Instr.keyThatStays
  repeat' first | (with_reducible first | exact Sound.pure' _ | exact Sound.pure _ | exact Sound.halt _ | assumption | exact s_stuck _ | exact s_info _ | exact s_und _ | exact s_size _ | exact s_zero _ | exact s_agg _ | exact s_loads _ _ | exact s_stores _ _ _ | exact s_loadVar _ _ | exact s_storeVar _ _ _ | exact s_row _ _ | exact s_var _ _ | exact s_elem _ | exact s_part _ _ _ | exact s_panic _ | exact s_bounds _ _ _ _ | exact s_intOf _ | exact s_int _ | exact s_bool _ | exact s_str _ | exact s_asAgg _ | exact s_addr _ | exact s_sure _ | exact s_room _ | exact s_choose _ | exact s_load _ _ | exact s_store _ _ _ | exact s_getObj _ | exact s_equal _ _ _ | exact s_typeStr _ | refine s_program ?_ | refine Sound.bind ?_ (fun _ => ?_)) | ((with_reducible refine s_unsup _ ?_) <;> rfl) | (dsimp only) | split
theorem s_mapUpdate (t : TypeId) (m k v : Value) : Sound P X (Instr.mapUpdate t m k v) := by
  unfold Instr.mapUpdate
  repeat' first | (with_reducible first | exact Sound.pure' _ | exact Sound.pure _ | exact Sound.halt _ | assumption | exact s_stuck _ | exact s_info _ | exact s_und _ | exact s_size _ | exact s_zero _ | exact s_agg _ | exact s_loads _ _ | exact s_stores _ _ _ | exact s_loadVar _ _ | exact s_storeVar _ _ _ | exact s_row _ _ | exact s_var _ _ | exact s_elem _ | exact s_part _ _ _ | exact s_panic _ | exact s_bounds _ _ _ _ | exact s_intOf _ | exact s_int _ | exact s_bool _ | exact s_str _ | exact s_asAgg _ | exact s_addr _ | exact s_sure _ | exact s_room _ | exact s_choose _ | exact s_load _ _ | exact s_store _ _ _ | exact s_getObj _ | exact s_equal _ _ _ | exact s_typeStr _ | exact s_checkKey _ _ _ _ | exact s_findKey _ _ _ | exact s_keyThatStays _ _ | refine s_program ?_ | refine Sound.bind ?_ (fun _ => ?_)) | exact s_set _ (by simp) | ((with_reducible refine s_unsup _ ?_) <;> rfl) | (dsimp only) | split
theorem s_intArith (op : BinOp) (k : IntKind) (x y : Int) : Sound P X (Op.intArith op k x y) := by
  unfold Op.intArith
  split <;> first | exact Sound.pure' _ | exact Sound.halt _
theorem s_intDiv (op : BinOp) (k : IntKind) (x y : Int) : Sound P X (Op.intDiv op k x y) := by
  unfold Op.intDiv
  split
  · exact s_panic _
  · split <;> first | exact Sound.pure' _ | exact Sound.halt _
theorem s_intBits (op : BinOp) (k : IntKind) (x y : Int) : Sound P X (Op.intBits op k x y) := by
  unfold Op.intBits
  dsimp only
  split <;> first | exact Sound.pure' _ | exact Sound.halt _
theorem s_shift (op : BinOp) (k : IntKind) (x : Int) (yk : IntKind) (y : Int) : Sound P X (Op.shift op k x yk y) := by
  unfold Op.shift
  split
  · exact s_panic _
  · dsimp only
    split <;> first | exact Sound.pure' _ | exact Sound.halt _
theorem s_intCmp (op : BinOp) (x y : Int) : Sound P X (Op.intCmp op x y) := by
  unfold Op.intCmp
  split <;> first | exact Sound.pure' _ | exact Sound.halt _
theorem s_stringOp (op : BinOp) (x y : ByteArray) : Sound P X (Op.stringOp op x y) := by
  unfold Op.stringOp
  dsimp only
  split <;> (try split) <;> first | exact Sound.pure' _ | exact Sound.halt _
theorem s_floatArith (op : BinOp) (k : FloatKind) (x y : Nat) : Sound P X (Op.floatArith op k x y) := by
  unfold Op.floatArith
  repeat' first | (with_reducible first | exact Sound.pure' _ | exact Sound.pure _ | exact Sound.halt _ | assumption | exact s_stuck _ | exact s_info _ | exact s_und _ | exact s_size _ | exact s_zero _ | exact s_agg _ | exact s_loads _ _ | exact s_stores _ _ _ | exact s_loadVar _ _ | exact s_storeVar _ _ _ | exact s_row _ _ | exact s_var _ _ | exact s_elem _ | exact s_part _ _ _ | exact s_panic _ | exact s_bounds _ _ _ _ | exact s_intOf _ | exact s_int _ | exact s_bool _ | exact s_str _ | exact s_asAgg _ | exact s_addr _ | exact s_sure _ | exact s_room _ | exact s_choose _ | exact s_load _ _ | exact s_store _ _ _ | exact s_getObj _ | exact s_equal _ _ _ | exact s_typeStr _ | refine s_program ?_ | refine Sound.bind ?_ (fun _ => ?_)) | ((with_reducible refine s_unsup _ ?_) <;> rfl) | (dsimp only) | split
theorem s_floatCmp (op : BinOp) (k : FloatKind) (x y : Nat) : Sound P X (Op.floatCmp op k x y) := by
  unfold Op.floatCmp
  dsimp only
  split <;> first | exact Sound.pure' _ | exact Sound.halt _
theorem s_unary (op : UnOp) (x : Value) : Sound P X (Op.unary op x) := by
  unfold Op.unary
  split <;> first | exact s_intArith _ _ _ _ | exact s_intBits _ _ _ _ | exact Sound.pure' _ | exact Sound.halt _
theorem s_unsupB (u : Unsupported) (f : α → Sem β) (h : early? (.unsupported u) = false) : Sound P X (unsupported u >>= f) := Sound.halt _ h
theorem s_stuckB (s : String) (f : α → Sem β) : Sound P X (stuck s >>= f) := Sound.halt _
theorem ill_unsup (u : Unsupported) (h : free (.unsupported u) = true := by rfl) : Ill P (unsupported u : Sem α) := fun w es => ⟨_, w, es, rfl, h⟩
theorem cab0 (p : Program) (d : Nat) (e : TypeId) (m off : Nat) (n : Int) : cellAtBytes p d e (0 / m) off n = none := by
  unfold cellAtBytes
  simp only [Nat.zero_div, Nat.zero_mul]
  split
  · rfl
  · cases byteOfCell p d e (off % p.cellsOf e) with
    | none => rfl
    | some here =>
      simp only [Option.bind_eq_bind, Option.bind_some]
      split
      · rfl
      · rename_i h
        exfalso
        apply h
        simp only [Bool.or_eq_true, decide_eq_true_eq]
        have h0 : Int.ofNat 0 = 0 := rfl
        rw [h0]
        omega
theorem s_unsafeAdd (t : TypeId) (x y : Value) : Sound P X (Builtin.unsafeAdd_ #[] t #[x, y]) := by
  cases x with
  | pointer ptr =>
    unfold Builtin.unsafeAdd_
    dsimp only
    have hm : ∀ n : Int, Sound P X (match ptr with
          | some a => do
            let __x ← shape a.block
            match __x with
              | some (e, cells) => do
                let p ← program
                match cellAtBytes p p.depth e (cells / p.cellsOf e) a.off n with
                  | some off => pure (Value.pointer (some { block := a.block, off := off, spot := a.spot }))
                  | none => unsupported (Unsupported.unsafePointer "Add")
              | _ => unsupported (Unsupported.unsafePointer "Add")
          | _ => unsupported (Unsupported.unsafePointer "Add")) := fun n => by
      split
      · refine s_shape (fun t k => .inr ?_) (fun o => ?_)
        · show Ill P (program >>= fun p => _)
          intro w es
          show ∃ h u eu, (Sem.runT P (match cellAtBytes P P.depth t (0 / P.cellsOf t) _ n with | some off => _ | none => _) w es) = _ ∧ _
          rw [cab0]
          exact ill_unsup _ rfl w es
        · repeat' first | (with_reducible first | exact Sound.pure' _ | exact Sound.pure _ | exact Sound.halt _ | assumption | exact s_stuck _ | exact s_info _ | exact s_und _ | exact s_size _ | exact s_zero _ | exact s_agg _ | exact s_loads _ _ | exact s_stores _ _ _ | exact s_loadVar _ _ | exact s_storeVar _ _ _ | exact s_row _ _ | exact s_var _ _ | exact s_elem _ | exact s_part _ _ _ | exact s_panic _ | exact s_bounds _ _ _ _ | exact s_intOf _ | exact s_int _ | exact s_bool _ | exact s_str _ | exact s_asAgg _ | exact s_addr _ | exact s_sure _ | exact s_room _ | exact s_choose _ | exact s_load _ _ | exact s_store _ _ _ | exact s_getObj _ | exact s_equal _ _ _ | exact s_typeStr _ | refine s_program ?_ | refine Sound.bind ?_ (fun _ => ?_)) | ((with_reducible refine s_unsup _ ?_) <;> rfl) | ((with_reducible refine s_unsupB _ _ ?_) <;> rfl) | (dsimp only) | split
      · exact Sound.halt _
    refine Sound.bind (s_int _) (fun n => ?_)
    split
    · cases ptr with
      | none => exact s_unsupB _ _ rfl
      | some a =>
        refine Sound.bind (s_viewAt _) (fun _ => ?_)
        split
        · exact s_unsupB _ _ rfl
        · exact Sound.pure' _
    · split
      · exact Sound.bind (Sound.halt _) (fun _ => hm n)
      · exact hm n
  | _ => exact Sound.halt _
theorem s_asNumber (a : Addr) (l : Bool) : Sound P X (asNumber a l) := Sound.bind (Sound.new (by simp) (fun _ => Sound.pure _)) (fun _ => Sound.pure' _)
theorem s_movedNumber (t : TypeId) (x y : Value) : Sound P X (movedNumber t x y) := by
  unfold movedNumber
  repeat' first | (with_reducible first | exact Sound.pure' _ | exact Sound.pure _ | exact Sound.halt _ | assumption | exact s_stuck _ | exact s_info _ | exact s_und _ | exact s_size _ | exact s_zero _ | exact s_agg _ | exact s_loads _ _ | exact s_stores _ _ _ | exact s_loadVar _ _ | exact s_storeVar _ _ _ | exact s_row _ _ | exact s_var _ _ | exact s_elem _ | exact s_part _ _ _ | exact s_panic _ | exact s_bounds _ _ _ _ | exact s_intOf _ | exact s_int _ | exact s_bool _ | exact s_str _ | exact s_asAgg _ | exact s_addr _ | exact s_sure _ | exact s_room _ | exact s_choose _ | exact s_load _ _ | exact s_store _ _ _ | exact s_getObj _ | exact s_equal _ _ _ | exact s_typeStr _ | exact s_unsafeAdd _ _ _ | exact s_behind _ | exact s_asNumber _ _ | refine s_program ?_ | refine Sound.bind ?_ (fun _ => ?_)) | ((with_reducible refine s_unsup _ ?_) <;> rfl) | ((with_reducible refine s_unsupB _ _ ?_) <;> rfl) | (dsimp only) | split
theorem s_movedPointer (t : TypeId) (x y : Value) : Sound P X (movedPointer t x y) := by
  unfold movedPointer
  repeat' first | (with_reducible first | exact Sound.pure' _ | exact Sound.pure _ | exact Sound.halt _ | assumption | exact s_stuck _ | exact s_info _ | exact s_und _ | exact s_size _ | exact s_zero _ | exact s_agg _ | exact s_loads _ _ | exact s_stores _ _ _ | exact s_loadVar _ _ | exact s_storeVar _ _ _ | exact s_row _ _ | exact s_var _ _ | exact s_elem _ | exact s_part _ _ _ | exact s_panic _ | exact s_bounds _ _ _ _ | exact s_intOf _ | exact s_int _ | exact s_bool _ | exact s_str _ | exact s_asAgg _ | exact s_addr _ | exact s_sure _ | exact s_room _ | exact s_choose _ | exact s_load _ _ | exact s_store _ _ _ | exact s_getObj _ | exact s_equal _ _ _ | exact s_typeStr _ | exact s_unsafeAdd _ _ _ | exact s_numberAt _ | refine s_program ?_ | refine Sound.bind ?_ (fun _ => ?_)) | ((with_reducible refine s_unsup _ ?_) <;> rfl) | ((with_reducible refine s_unsupB _ _ ?_) <;> rfl) | (dsimp only) | split
theorem s_twoPlaces (a b : Addr) : Sound P X (Op.twoPlaces a b) := by
  unfold Op.twoPlaces
  repeat' first | (with_reducible first | exact Sound.pure' _ | exact Sound.pure _ | exact Sound.halt _ | assumption | exact s_stuck _ | exact s_info _ | exact s_und _ | exact s_size _ | exact s_zero _ | exact s_agg _ | exact s_loads _ _ | exact s_stores _ _ _ | exact s_loadVar _ _ | exact s_storeVar _ _ _ | exact s_row _ _ | exact s_var _ _ | exact s_elem _ | exact s_part _ _ _ | exact s_panic _ | exact s_bounds _ _ _ _ | exact s_intOf _ | exact s_int _ | exact s_bool _ | exact s_str _ | exact s_asAgg _ | exact s_addr _ | exact s_sure _ | exact s_room _ | exact s_choose _ | exact s_load _ _ | exact s_store _ _ _ | exact s_getObj _ | exact s_equal _ _ _ | exact s_typeStr _ | exact s_byteOf _ | refine s_program ?_ | refine Sound.bind ?_ (fun _ => ?_)) | ((with_reducible refine s_unsup _ ?_) <;> rfl) | ((with_reducible refine s_unsupB _ _ ?_) <;> rfl) | (dsimp only) | split
theorem s_addrSub (k : IntKind) (a b : Addr) : Sound P X (Op.addrSub k a b) := Sound.bind (s_twoPlaces a b) (fun _ => Sound.pure' _)
theorem s_addrCmp (op : BinOp) (a b : Addr) : Sound P X (Op.addrCmp op a b) := by
  unfold Op.addrCmp
  repeat' first | (with_reducible first | exact Sound.pure' _ | exact Sound.pure _ | exact Sound.halt _ | assumption | exact s_stuck _ | exact s_info _ | exact s_und _ | exact s_size _ | exact s_zero _ | exact s_agg _ | exact s_loads _ _ | exact s_stores _ _ _ | exact s_loadVar _ _ | exact s_storeVar _ _ _ | exact s_row _ _ | exact s_var _ _ | exact s_elem _ | exact s_part _ _ _ | exact s_panic _ | exact s_bounds _ _ _ _ | exact s_intOf _ | exact s_int _ | exact s_bool _ | exact s_str _ | exact s_asAgg _ | exact s_addr _ | exact s_sure _ | exact s_room _ | exact s_choose _ | exact s_load _ _ | exact s_store _ _ _ | exact s_getObj _ | exact s_equal _ _ _ | exact s_typeStr _ | exact s_twoPlaces _ _ | refine s_program ?_ | refine Sound.bind ?_ (fun _ => ?_)) | ((with_reducible refine s_unsup _ ?_) <;> rfl) | ((with_reducible refine s_unsupB _ _ ?_) <;> rfl) | (dsimp only) | split
theorem s_addrMod (k : IntKind) (a : Addr) (n : Int) : Sound P X (Op.addrMod k a n) := by
  unfold Op.addrMod
  refine s_shape (fun t k => .inl rfl) (fun o => ?_)
  repeat' first | (with_reducible first | exact Sound.pure' _ | exact Sound.pure _ | exact Sound.halt _ | assumption | exact s_stuck _ | exact s_info _ | exact s_und _ | exact s_size _ | exact s_zero _ | exact s_agg _ | exact s_loads _ _ | exact s_stores _ _ _ | exact s_loadVar _ _ | exact s_storeVar _ _ _ | exact s_row _ _ | exact s_var _ _ | exact s_elem _ | exact s_part _ _ _ | exact s_panic _ | exact s_bounds _ _ _ _ | exact s_intOf _ | exact s_int _ | exact s_bool _ | exact s_str _ | exact s_asAgg _ | exact s_addr _ | exact s_sure _ | exact s_room _ | exact s_choose _ | exact s_load _ _ | exact s_store _ _ _ | exact s_getObj _ | exact s_equal _ _ _ | exact s_typeStr _ | exact s_byteOf _ | refine s_program ?_ | refine Sound.bind ?_ (fun _ => ?_)) | ((with_reducible refine s_unsup _ ?_) <;> rfl) | ((with_reducible refine s_unsupB _ _ ?_) <;> rfl) | (dsimp only) | split
theorem s_floatToFloat (s : FloatKind) (b : Nat) (d : FloatKind) : Sound P X (Conv.floatToFloat s b d) := by
  unfold Conv.floatToFloat
  repeat' first | (with_reducible first | exact Sound.pure' _ | exact Sound.pure _ | exact Sound.halt _ | assumption | exact s_stuck _ | exact s_info _ | exact s_und _ | exact s_size _ | exact s_zero _ | exact s_agg _ | exact s_loads _ _ | exact s_stores _ _ _ | exact s_loadVar _ _ | exact s_storeVar _ _ _ | exact s_row _ _ | exact s_var _ _ | exact s_elem _ | exact s_part _ _ _ | exact s_panic _ | exact s_bounds _ _ _ _ | exact s_intOf _ | exact s_int _ | exact s_bool _ | exact s_str _ | exact s_asAgg _ | exact s_addr _ | exact s_sure _ | exact s_room _ | exact s_choose _ | exact s_load _ _ | exact s_store _ _ _ | exact s_getObj _ | exact s_equal _ _ _ | exact s_typeStr _ | refine s_program ?_ | refine Sound.bind ?_ (fun _ => ?_)) | ((with_reducible refine s_unsup _ ?_) <;> rfl) | ((with_reducible refine s_unsupB _ _ ?_) <;> rfl) | (dsimp only) | split
theorem s_cArith (op : BinOp) (k : FloatKind) (x y : Nat) : Sound P X (Op.Complex.arith op k x y) := by
  unfold Op.Complex.arith
  repeat' first | (with_reducible first | exact Sound.pure' _ | exact Sound.pure _ | exact Sound.halt _ | assumption | exact s_stuck _ | exact s_info _ | exact s_und _ | exact s_size _ | exact s_zero _ | exact s_agg _ | exact s_loads _ _ | exact s_stores _ _ _ | exact s_loadVar _ _ | exact s_storeVar _ _ _ | exact s_row _ _ | exact s_var _ _ | exact s_elem _ | exact s_part _ _ _ | exact s_panic _ | exact s_bounds _ _ _ _ | exact s_intOf _ | exact s_int _ | exact s_bool _ | exact s_str _ | exact s_asAgg _ | exact s_addr _ | exact s_sure _ | exact s_room _ | exact s_choose _ | exact s_load _ _ | exact s_store _ _ _ | exact s_getObj _ | exact s_equal _ _ _ | exact s_typeStr _ | exact s_floatArith _ _ _ _ | refine s_program ?_ | refine Sound.bind ?_ (fun _ => ?_)) | ((with_reducible refine s_unsup _ ?_) <;> rfl) | ((with_reducible refine s_unsupB _ _ ?_) <;> rfl) | (dsimp only) | split
theorem s_cCmp (op : BinOp) (k : FloatKind) (x y : Nat) : Sound P X (Op.Complex.cmp op k x y) := Sound.bind (s_floatCmp _ _ _ _) (fun _ => s_bool _)
theorem s_cConv (a : FloatKind) (x : Nat) (b : FloatKind) : Sound P X (Op.Complex.conv a x b) := by
  unfold Op.Complex.conv
  repeat' first | (with_reducible first | exact Sound.pure' _ | exact Sound.pure _ | exact Sound.halt _ | assumption | exact s_stuck _ | exact s_info _ | exact s_und _ | exact s_size _ | exact s_zero _ | exact s_agg _ | exact s_loads _ _ | exact s_stores _ _ _ | exact s_loadVar _ _ | exact s_storeVar _ _ _ | exact s_row _ _ | exact s_var _ _ | exact s_elem _ | exact s_part _ _ _ | exact s_panic _ | exact s_bounds _ _ _ _ | exact s_intOf _ | exact s_int _ | exact s_bool _ | exact s_str _ | exact s_asAgg _ | exact s_addr _ | exact s_sure _ | exact s_room _ | exact s_choose _ | exact s_load _ _ | exact s_store _ _ _ | exact s_getObj _ | exact s_equal _ _ _ | exact s_typeStr _ | exact s_floatToFloat _ _ _ | refine s_program ?_ | refine Sound.bind ?_ (fun _ => ?_)) | ((with_reducible refine s_unsup _ ?_) <;> rfl) | ((with_reducible refine s_unsupB _ _ ?_) <;> rfl) | (dsimp only) | split
theorem s_complexOp (op : BinOp) (k : FloatKind) (a b c d : Nat) : Sound P X (Op.complexOp op k a b c d) := by
  have h1 : ∀ x y, Sound P X (Op.Complex.add x y) := fun _ _ => s_cArith _ _ _ _
  have h2 : ∀ x y, Sound P X (Op.Complex.sub x y) := fun _ _ => s_cArith _ _ _ _
  have h3 : ∀ x y, Sound P X (Op.Complex.mul x y) := fun _ _ => s_cArith _ _ _ _
  have h4 : ∀ x y, Sound P X (Op.Complex.quo x y) := fun _ _ => s_cArith _ _ _ _
  have h5 : ∀ a b c d, Sound P X (Op.Complex.product a b c d) := fun a b c d => by
    unfold Op.Complex.product
    repeat' first | (with_reducible first | exact Sound.pure' _ | exact Sound.pure _ | exact Sound.halt _ | assumption | exact s_stuck _ | exact s_info _ | exact s_und _ | exact s_size _ | exact s_zero _ | exact s_agg _ | exact s_loads _ _ | exact s_stores _ _ _ | exact s_loadVar _ _ | exact s_storeVar _ _ _ | exact s_row _ _ | exact s_var _ _ | exact s_elem _ | exact s_part _ _ _ | exact s_panic _ | exact s_bounds _ _ _ _ | exact s_intOf _ | exact s_int _ | exact s_bool _ | exact s_str _ | exact s_asAgg _ | exact s_addr _ | exact s_sure _ | exact s_room _ | exact s_choose _ | exact s_load _ _ | exact s_store _ _ _ | exact s_getObj _ | exact s_equal _ _ _ | exact s_typeStr _ | exact h1 _ _ | exact h2 _ _ | exact h3 _ _ | refine s_program ?_ | refine Sound.bind ?_ (fun _ => ?_)) | ((with_reducible refine s_unsup _ ?_) <;> rfl) | ((with_reducible refine s_unsupB _ _ ?_) <;> rfl) | (dsimp only) | split
  have h6 : ∀ s a b c d, Sound P X (Op.Complex.corrected s a b c d) := fun s a b c d => by
    unfold Op.Complex.corrected
    repeat' first | (with_reducible first | exact Sound.pure' _ | exact Sound.pure _ | exact Sound.halt _ | assumption | exact s_stuck _ | exact s_info _ | exact s_und _ | exact s_size _ | exact s_zero _ | exact s_agg _ | exact s_loads _ _ | exact s_stores _ _ _ | exact s_loadVar _ _ | exact s_storeVar _ _ _ | exact s_row _ _ | exact s_var _ _ | exact s_elem _ | exact s_part _ _ _ | exact s_panic _ | exact s_bounds _ _ _ _ | exact s_intOf _ | exact s_int _ | exact s_bool _ | exact s_str _ | exact s_asAgg _ | exact s_addr _ | exact s_sure _ | exact s_room _ | exact s_choose _ | exact s_load _ _ | exact s_store _ _ _ | exact s_getObj _ | exact s_equal _ _ _ | exact s_typeStr _ | exact h1 _ _ | exact h2 _ _ | exact h3 _ _ | refine s_program ?_ | refine Sound.bind ?_ (fun _ => ?_)) | ((with_reducible refine s_unsup _ ?_) <;> rfl) | ((with_reducible refine s_unsupB _ _ ?_) <;> rfl) | (dsimp only) | split
  have h7 : ∀ a b c d, Sound P X (Op.Complex.quotient a b c d) := fun a b c d => by
    unfold Op.Complex.quotient
    repeat' first | (with_reducible first | exact Sound.pure' _ | exact Sound.pure _ | exact Sound.halt _ | assumption | exact s_stuck _ | exact s_info _ | exact s_und _ | exact s_size _ | exact s_zero _ | exact s_agg _ | exact s_loads _ _ | exact s_stores _ _ _ | exact s_loadVar _ _ | exact s_storeVar _ _ _ | exact s_row _ _ | exact s_var _ _ | exact s_elem _ | exact s_part _ _ _ | exact s_panic _ | exact s_bounds _ _ _ _ | exact s_intOf _ | exact s_int _ | exact s_bool _ | exact s_str _ | exact s_asAgg _ | exact s_addr _ | exact s_sure _ | exact s_room _ | exact s_choose _ | exact s_load _ _ | exact s_store _ _ _ | exact s_getObj _ | exact s_equal _ _ _ | exact s_typeStr _ | exact h1 _ _ | exact h2 _ _ | exact h3 _ _ | exact h4 _ _ | exact s_cCmp _ _ _ _ | exact h6 _ _ _ _ _ | refine s_program ?_ | refine Sound.bind ?_ (fun _ => ?_)) | ((with_reducible refine s_unsup _ ?_) <;> rfl) | ((with_reducible refine s_unsupB _ _ ?_) <;> rfl) | (dsimp only) | split
  unfold Op.complexOp
  repeat' first | (with_reducible first | exact Sound.pure' _ | exact Sound.pure _ | exact Sound.halt _ | assumption | exact s_stuck _ | exact s_info _ | exact s_und _ | exact s_size _ | exact s_zero _ | exact s_agg _ | exact s_loads _ _ | exact s_stores _ _ _ | exact s_loadVar _ _ | exact s_storeVar _ _ _ | exact s_row _ _ | exact s_var _ _ | exact s_elem _ | exact s_part _ _ _ | exact s_panic _ | exact s_bounds _ _ _ _ | exact s_intOf _ | exact s_int _ | exact s_bool _ | exact s_str _ | exact s_asAgg _ | exact s_addr _ | exact s_sure _ | exact s_room _ | exact s_choose _ | exact s_load _ _ | exact s_store _ _ _ | exact s_getObj _ | exact s_equal _ _ _ | exact s_typeStr _ | exact s_cArith _ _ _ _ | exact s_cConv _ _ _ | exact s_cCmp _ _ _ _ | exact h5 _ _ _ _ | exact h7 _ _ _ _ | refine s_program ?_ | refine Sound.bind ?_ (fun _ => ?_)) | ((with_reducible refine s_unsup _ ?_) <;> rfl) | ((with_reducible refine s_unsupB _ _ ?_) <;> rfl) | (dsimp only) | split
theorem s_binOp (op : BinOp) (t : TypeId) (x y : Value) : Sound P X (binOp op t x y) := by
  unfold binOp
  split <;> repeat' first | (with_reducible first | exact Sound.pure' _ | exact Sound.pure _ | exact Sound.halt _ | assumption | exact s_stuck _ | exact s_info _ | exact s_und _ | exact s_size _ | exact s_zero _ | exact s_agg _ | exact s_loads _ _ | exact s_stores _ _ _ | exact s_loadVar _ _ | exact s_storeVar _ _ _ | exact s_row _ _ | exact s_var _ _ | exact s_elem _ | exact s_part _ _ _ | exact s_panic _ | exact s_bounds _ _ _ _ | exact s_intOf _ | exact s_int _ | exact s_bool _ | exact s_str _ | exact s_asAgg _ | exact s_addr _ | exact s_sure _ | exact s_room _ | exact s_choose _ | exact s_load _ _ | exact s_store _ _ _ | exact s_getObj _ | exact s_equal _ _ _ | exact s_typeStr _ | exact s_shift _ _ _ _ _ | exact s_intArith _ _ _ _ | exact s_intDiv _ _ _ _ | exact s_intBits _ _ _ _ | exact s_intCmp _ _ _ | exact s_floatArith _ _ _ _ | exact s_floatCmp _ _ _ _ | exact s_complexOp _ _ _ _ _ _ | exact s_stringOp _ _ _ | exact s_movedPointer _ _ _ | exact s_movedNumber _ _ _ | exact s_addrSub _ _ _ | exact s_addrCmp _ _ _ | exact s_addrMod _ _ _ | exact s_behind _ | refine s_program ?_ | refine Sound.bind ?_ (fun _ => ?_)) | ((with_reducible refine s_unsup _ ?_) <;> rfl) | ((with_reducible refine s_unsupB _ _ ?_) <;> rfl) | (dsimp only) | split
theorem run_holds (a : Addr) (n : Nat) (w : World) (es : Array Event) : ∃ b, (Builtin.holdsCells a n).runT P w es = (.ok b w, es) := by
  unfold Builtin.holdsCells
  show ∃ b, ((shape a.block).bind _).runT P w es = _
  rw [Sem.runT_bind']
  have e2 : ∀ r, (shape r).runT P w es = (.ok (w.shape? r) w, es) := fun _ => rfl
  rw [e2]
  cases w.shape? a.block with
  | none => exact ⟨_, rfl⟩
  | some o => exact ⟨_, rfl⟩
theorem run_mayShare (s l n : Nat) (base : Option Addr) (x : Value) (w : World) (es : Array Event) : ∃ b, (Builtin.mayShare s l n base x).runT P w es = (.ok b w, es) := by
  have e2 : ∀ a, (frozen a).runT P w es = (.ok (w.frozen? a) w, es) := fun _ => rfl
  have hx : ∀ there : Bool, ∃ b, ((if (!there) = true then Pure.pure true else match x with
      | .slice (some b) _ _ => do pure (!(← Builtin.holdsCells b (n * s)) || base.any (·.block == b.block))
      | _ => pure false : Sem Bool)).runT P w es = (.ok b w, es) := fun there => by
    split
    · exact ⟨_, rfl⟩
    · split
      · rename_i q _ _
        obtain ⟨b, hb⟩ := run_holds (P := P) q (n * s) w es
        refine ⟨(!b || base.any (·.block == q.block)), ?_⟩
        show ((Builtin.holdsCells _ _).bind _).runT P w es = _
        rw [Sem.runT_bind', hb]
        rfl
      · exact ⟨_, rfl⟩
  unfold Builtin.mayShare
  dsimp only
  cases base with
  | none => exact hx true
  | some a =>
    obtain ⟨b, hb⟩ := run_holds (P := P) a (l * s) w es
    show ∃ b, ((Builtin.holdsCells _ _).bind _).runT P w es = _
    rw [Sem.runT_bind', hb]
    show ∃ b, ((frozen _).bind _).runT P w es = _
    rw [Sem.runT_bind', e2]
    exact hx _
theorem s_refuse (s l n : Nat) (base : Option Addr) (x : Value) (u : Unsupported) (hu : free (.unsupported u) = true) : Sound P X (Builtin.mayShare s l n base x >>= fun b => if (!b) = true then (mark .noRoom >>= fun _ => (unsupported u : Sem α)) else unsupported u) := by
  have hi : Ill P (Builtin.mayShare s l n base x >>= fun b => if (!b) = true then (mark .noRoom >>= fun _ => (unsupported u : Sem α)) else unsupported u) := fun w es => by
    obtain ⟨b, hb⟩ := run_mayShare (P := P) s l n base x w es
    show ∃ h v ev, ((Builtin.mayShare s l n base x).bind _).runT P w es = _ ∧ _
    rw [Sem.runT_bind', hb]
    cases b
    · exact ⟨_, w, _, rfl, hu⟩
    · exact ⟨_, w, _, rfl, hu⟩
  exact fun n w u es _ => hi.alike _ _ _ _ _ _
theorem s_ite {c : Prop} [Decidable c] {a b : Sem α} (ha : Sound P X a) (hb : Sound P X b) : Sound P X (if c then a else b) := by
  split <;> assumption
/-- Appending: the look at shapes stands ahead of a refusal alone. -/
theorem s_append (a : Array TypeId) (t : TypeId) (v : Array Value) : Sound P X (Builtin.append_ a t v) := by
  unfold Builtin.append_
  repeat' first | ((with_reducible refine s_refuse _ _ _ _ _ _ ?_) <;> rfl) | ((with_reducible refine s_unsupB _ _ ?_) <;> rfl) | (with_reducible first | exact Sound.pure' _ | exact Sound.pure _ | exact Sound.halt _ | assumption | exact s_stuck _ | exact s_info _ | exact s_und _ | exact s_size _ | exact s_zero _ | exact s_agg _ | exact s_loads _ _ | exact s_stores _ _ _ | exact s_loadVar _ _ | exact s_storeVar _ _ _ | exact s_row _ _ | exact s_var _ _ | exact s_elem _ | exact s_part _ _ _ | exact s_panic _ | exact s_bounds _ _ _ _ | exact s_intOf _ | exact s_int _ | exact s_bool _ | exact s_str _ | exact s_asAgg _ | exact s_addr _ | exact s_sure _ | exact s_room _ | exact s_choose _ | exact s_load _ _ | exact s_store _ _ _ | exact s_getObj _ | exact s_equal _ _ _ | exact s_typeStr _ | exact s_lenOf _ | exact s_firstCells _ _ _ | refine s_ite ?_ ?_ | refine s_program ?_ | refine Sound.bind ?_ (fun _ => ?_)) | ((with_reducible refine s_unsup _ ?_) <;> rfl) | ((with_reducible refine s_unsupB _ _ ?_) <;> rfl) | ((with_reducible refine s_refuse _ _ _ _ _ _ ?_) <;> rfl) | (dsimp only) | split
end
end Go.Proofs.YtnojjmkmkelbgaaGreat
