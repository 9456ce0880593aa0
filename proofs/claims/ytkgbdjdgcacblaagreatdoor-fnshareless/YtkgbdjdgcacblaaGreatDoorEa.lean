/- Refusals asked with errors.As: what reflectlite's own operations do at this program's types. -/
import Derived.Test.YtkgbdjdgcacblaaGreatDoorJ0
import Derived.LaidEql
import Derived.Stop.Asserts
import Derived.RowKitTokens
namespace Go.Proofs.YtkgbdjdgcacblaaGreatDoor
open Go.RowKit Go.Extern.Stop Go.Stop Go.Extern

/-- Nobody was refused. -/
theorem as_nil (t : Value) (w : World) : Calls Tryz.prog 32 #[.nilIface, t] w fun e w' => e = .returned (.bool false) ∧ w' = w := by
  go_enter Tryz.func32, Tryz.ntmps32
  go_wp2
  go_ret
  exact ⟨rfl, rfl⟩
theorem ea_valueP (t : Addr) (w : World) : (ReflectliteValue.unpack (.iface 72 (.pointer (some t)))).run Tryz.prog w = .ok (Value.agg #[(Value.pointer (some ⟨1, 72, none⟩)), .pointer (some ⟨w.heap.size, 0, none⟩), .int .u64 150]) (w.alloc (.cells #[.pointer (some t)] 72)) := by kernel_rfl
theorem ea_typeP (a : Addr) (w : World) : (ReflectliteValue.methodAny (ReflectliteValue.valueError "reflectlite.Value.Type" 0) (fun t _ _ _ => ReflectliteType.toType t) #[(Value.agg #[(Value.pointer (some ⟨1, 72, none⟩)), .pointer (some a), .int .u64 150])]).run Tryz.prog w = .ok (Value.iface 127 (.agg #[(Value.pointer (some ⟨1, 72, none⟩))])) w := by kernel_rfl
theorem ea_mKind (h : Value) (w : World) : (Go.method 93 127 (.agg #[h]) "Kind").run Tryz.prog w = .ok (109, h) w := by kernel_rfl
theorem ea_mElem (h : Value) (w : World) : (Go.method 93 127 (.agg #[h]) "Elem").run Tryz.prog w = .ok (128, .agg #[h]) w := by kernel_rfl
theorem ea_mImpl (h : Value) (w : World) : (Go.method 93 127 (.agg #[h]) "Implements").run Tryz.prog w = .ok (129, .agg #[h]) w := by kernel_rfl
theorem ea_mAssign (h : Value) (w : World) : (Go.method 93 127 (.agg #[h]) "AssignableTo").run Tryz.prog w = .ok (126, .agg #[h]) w := by kernel_rfl
theorem ea_kindP (w : World) : ((ReflectliteType.abiMethod fun t => (fun a : Nat => Value.int IntKind.u8 (a : Int)) <$> Rtype.kind t) #[(Value.pointer (some ⟨1, 72, none⟩))]).run Tryz.prog w = .ok (.int .u8 22) w := by kernel_rfl
theorem ea_kindR (w : World) : ((ReflectliteType.abiMethod fun t => (fun a : Nat => Value.int IntKind.u8 (a : Int)) <$> Rtype.kind t) #[(Value.pointer (some ⟨1, 70, none⟩))]).run Tryz.prog w = .ok (.int .u8 25) w := by kernel_rfl
theorem ea_elemP (w : World) : (ReflectliteType.method ReflectliteType.elem #[.agg #[(Value.pointer (some ⟨1, 72, none⟩))]]).run Tryz.prog w = .ok (Value.iface 127 (.agg #[(Value.pointer (some ⟨1, 70, none⟩))])) w := by kernel_rfl
theorem ea_implR (w : World) : (ReflectliteType.relation "Implements" ReflectliteType.implements_ #[.agg #[(Value.pointer (some ⟨1, 70, none⟩))], (Value.iface 127 (.agg #[(Value.pointer (some ⟨1, 66, none⟩))]))]).run Tryz.prog w = .ok (.bool true) w := by kernel_rfl
theorem ea_typeR (v : Value) (w : World) : (ReflectliteType.typeOf #[.iface 70 v]).run Tryz.prog w = .ok (Value.iface 127 (.agg #[(Value.pointer (some ⟨1, 70, none⟩))])) w := by kernel_rfl
theorem ea_typeD (v : Value) (w : World) : (ReflectliteType.typeOf #[.iface 84 v]).run Tryz.prog w = .ok (Value.iface 127 (.agg #[(Value.pointer (some ⟨1, 84, none⟩))])) w := by kernel_rfl
theorem ea_assignR (w : World) : (ReflectliteType.relation "AssignableTo" ReflectliteType.assignableTo #[.agg #[(Value.pointer (some ⟨1, 70, none⟩))], (Value.iface 127 (.agg #[(Value.pointer (some ⟨1, 70, none⟩))]))]).run Tryz.prog w = .ok (.bool true) w := by kernel_rfl
theorem ea_assignD (w : World) : (ReflectliteType.relation "AssignableTo" ReflectliteType.assignableTo #[.agg #[(Value.pointer (some ⟨1, 84, none⟩))], (Value.iface 127 (.agg #[(Value.pointer (some ⟨1, 70, none⟩))]))]).run Tryz.prog w = .ok (.bool false) w := by kernel_rfl
theorem ea_valueR (c : Int) (w : World) : (ReflectliteValue.unpack (.iface 70 (.agg #[.int .i64 c]))).run Tryz.prog w = .ok (.agg #[(Value.pointer (some ⟨1, 70, none⟩)), .pointer (some ⟨w.heap.size, 0, none⟩), .int .u64 153]) (w.alloc (.cells #[.int .i64 c] 70)) := by kernel_rfl
theorem ea_elemOf (w : World) : (Rtype.elem? 72).run Tryz.prog w = .ok (some 70) w := by kernel_rfl
theorem ea_mkR (p : Addr) (w : World) : (ReflectliteValue.mk 70 p ReflectliteValue.flagAddr).run Tryz.prog w = .ok (.agg #[(Value.pointer (some ⟨1, 70, none⟩)), .pointer (some p), .int .u64 409]) w := by kernel_rfl
theorem ea_partsP (a : Addr) (w : World) : (ReflectliteValue.parts (Value.agg #[(Value.pointer (some ⟨1, 72, none⟩)), .pointer (some a), .int .u64 150])).run Tryz.prog w = .ok (some (72, a, 150)) w := by kernel_rfl
theorem ea_partsA (a : Addr) (w : World) : (ReflectliteValue.parts (.agg #[(Value.pointer (some ⟨1, 70, none⟩)), .pointer (some a), .int .u64 409])).run Tryz.prog w = .ok (some (70, a, 409)) w := by kernel_rfl
theorem ea_partsR (a : Addr) (w : World) : (ReflectliteValue.parts (.agg #[(Value.pointer (some ⟨1, 70, none⟩)), .pointer (some a), .int .u64 153])).run Tryz.prog w = .ok (some (70, a, 153)) w := by kernel_rfl
theorem ea_direct (w : World) : (Rtype.directlyAssignable 70 70).run Tryz.prog w = .ok true w := by kernel_rfl
end Go.Proofs.YtkgbdjdgcacblaaGreatDoor
