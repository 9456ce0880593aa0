/- Refusals asked with errors.As: what reflectlite's own operations do at this program's types. -/
import Derived.Test.YtcgkgmmclfeohaaGreatDoorJ3
import Derived.LaidEql
import Derived.Stop.Asserts
import Derived.RowKitTokens
namespace Go.Proofs.YtcgkgmmclfeohaaGreatDoor
open Go.Proofs.Tryz
open Go.RowKit Go.Extern.Stop Go.Stop Go.Extern
theorem AeC(t:Value)(w:World):Calls prog 49 #[.nilIface,t] w λe w'=>e=.returned (.bool false)/\w'=w:=by
 go_in;go_wp2;go_ret;exact⟨rfl,rfl⟩
theorem Po(t:Addr)(w:World):(ReflectliteValue.unpack (.iface 93 (.pointer (some t)))).run prog w=.ok (Value.agg #[(Value.pointer (some ⟨1,93,none⟩)),Pz w.heap.size 0,.int .u64 150]) (w.alloc (Kz [.pointer (some t)] 93)):=by kernel_rfl
theorem Rn(a:Addr)(w:World):(ReflectliteValue.methodAny (ReflectliteValue.valueError "reflectlite.Value.Type" 0) (λt _ _ _=>ReflectliteType.toType t) #[(Value.agg #[(Value.pointer (some ⟨1,93,none⟩)),.pointer (some a),.int .u64 150])]).run prog w=.ok (Value.iface 152 (.agg #[(Value.pointer (some ⟨1,93,none⟩))])) w:=by kernel_rfl
theorem Ro(h:Value)(w:World):(Go.method 122 152 (.agg #[h]) "Kind").run prog w=.ok (139,h) w:=by kernel_rfl
theorem Rp(h:Value)(w:World):(Go.method 122 152 (.agg #[h]) "Elem").run prog w=.ok (158,.agg #[h]) w:=by kernel_rfl
theorem Rq(h:Value)(w:World):(Go.method 122 152 (.agg #[h]) "Implements").run prog w=.ok (159,.agg #[h]) w:=by kernel_rfl
theorem MO(h:Value)(w:World):(Go.method 122 152 (.agg #[h]) "AssignableTo").run prog w=.ok (156,.agg #[h]) w:=by kernel_rfl
theorem Rr(w:World):((ReflectliteType.abiMethod λt=>(λa:Nat=>Value.int IntKind.u8 (a:Int)) <$> Rtype.kind t) #[(Value.pointer (some ⟨1,93,none⟩))]).run prog w=.ok (.int .u8 22) w:=by kernel_rfl
theorem Rs(w:World):((ReflectliteType.abiMethod λt=>(λa:Nat=>Value.int IntKind.u8 (a:Int)) <$> Rtype.kind t) #[(Value.pointer (some ⟨1,91,none⟩))]).run prog w=.ok (.int .u8 25) w:=by kernel_rfl
theorem Rt(w:World):(ReflectliteType.method ReflectliteType.elem #[.agg #[(Value.pointer (some ⟨1,93,none⟩))]]).run prog w=.ok (Value.iface 152 (.agg #[(Value.pointer (some ⟨1,91,none⟩))])) w:=by kernel_rfl
theorem Ru(w:World):(ReflectliteType.relation "Implements" ReflectliteType.implements_ #[.agg #[(Value.pointer (some ⟨1,91,none⟩))],(Value.iface 152 (.agg #[(Value.pointer (some ⟨1,87,none⟩))]))]).run prog w=.ok (.bool true) w:=by kernel_rfl
theorem Rv(v:Value)(w:World):(ReflectliteType.typeOf #[.iface 91 v]).run prog w=.ok (Value.iface 152 (.agg #[(Value.pointer (some ⟨1,91,none⟩))])) w:=by kernel_rfl
theorem Rw(v:Value)(w:World):(ReflectliteType.typeOf #[.iface 113 v]).run prog w=.ok (Value.iface 152 (.agg #[(Value.pointer (some ⟨1,113,none⟩))])) w:=by kernel_rfl
theorem MP(w:World):(ReflectliteType.relation "AssignableTo" ReflectliteType.assignableTo #[.agg #[(Value.pointer (some ⟨1,91,none⟩))],(Value.iface 152 (.agg #[(Value.pointer (some ⟨1,91,none⟩))]))]).run prog w=.ok (.bool true) w:=by kernel_rfl
theorem MQ(w:World):(ReflectliteType.relation "AssignableTo" ReflectliteType.assignableTo #[.agg #[(Value.pointer (some ⟨1,113,none⟩))],(Value.iface 152 (.agg #[(Value.pointer (some ⟨1,91,none⟩))]))]).run prog w=.ok (.bool false) w:=by kernel_rfl
theorem Pp(c:Int)(w:World):(ReflectliteValue.unpack (.iface 91 (.agg #[Iz c]))).run prog w=.ok (.agg #[(Value.pointer (some ⟨1,91,none⟩)),Pz w.heap.size 0,.int .u64 153]) (w.alloc (Kz [Iz c] 91)):=by kernel_rfl
theorem XQ(w:World):(Rtype.elem? 93).run prog w=.ok (some 91) w:=by kernel_rfl
theorem AeD(p:Addr)(w:World):(ReflectliteValue.mk 91 p ReflectliteValue.flagAddr).run prog w=.ok (.agg #[(Value.pointer (some ⟨1,91,none⟩)),.pointer (some p),.int .u64 409]) w:=by kernel_rfl
theorem Pq(a:Addr)(w:World):(ReflectliteValue.parts (Value.agg #[(Value.pointer (some ⟨1,93,none⟩)),.pointer (some a),.int .u64 150])).run prog w=.ok (some (93,a,150)) w:=by kernel_rfl
theorem XR(a:Addr)(w:World):(ReflectliteValue.parts (.agg #[(Value.pointer (some ⟨1,91,none⟩)),.pointer (some a),.int .u64 409])).run prog w=.ok (some (91,a,409)) w:=by kernel_rfl
theorem XS(a:Addr)(w:World):(ReflectliteValue.parts (.agg #[(Value.pointer (some ⟨1,91,none⟩)),.pointer (some a),.int .u64 153])).run prog w=.ok (some (91,a,153)) w:=by kernel_rfl
theorem XT(w:World):(Rtype.directlyAssignable 91 91).run prog w=.ok true w:=by kernel_rfl
end Go.Proofs.YtcgkgmmclfeohaaGreatDoor
