/- Entries without a text that the going laws come to. -/
import Derived.Test.YtcgkgmmclfeohaaGreatDoorProg
import Derived.Test.YtcgkgmmclfeohaaGreatDoorJ21
import Derived.Test.YtcgkgmmclfeohaaGreatDoorJ20
namespace Go.Proofs.YtcgkgmmclfeohaaGreatDoor
open Go.Proofs.Tryz
open Go.Conc Go.Extern
variable{P:Program}
theorem AaE{f:FuncId}{fn:Func}(hf:P.funcs[f]?=some fn)(hb:fn.body.isNone=true)(hn:(fn.name == "runtime.NumGoroutine")=false)(hx:(Extern.findNext fn).isNone=true)(he:(Extern.find fn).isNone=true):Ce P f:=λX args=>by
 have hx:Extern.findNext fn=none:=by simpa using hx
 have he:Extern.find fn=none:=by simpa using he
 constructor
 ·unfold callFunc;refine E2 ?_;simp only[hf,hn,hb,Bool.false_eq_true,if_false,if_true,hx,he];refine D3.bind (D3.extern (D3.pure _)) λ_=>?_;split
  ·exact D3.pure' _
  ·exact F7 _ rfl
 ·unfold callFunc;refine KE ?_;simp only[hf,hn,hb,Bool.false_eq_true,if_false,if_true,hx,he];refine EI λ_=>?_;split
  ·exact CM _
  ·exact Yd _
theorem AeS:Ce prog 111:=Df (e:=λa=>SlicesOverlaps.overlaps Tryz.f111.params Tryz.f111.resultTypes a) func111 (by kernel_rfl) (by kernel_rfl) (by kernel_rfl) (by kernel_rfl) (λ_ _=>VV _ _ _)
theorem Yy:Ce prog 62:=Df (e:=λargs=>ReflectliteValue.unpack (args.getD 0 (.tuple #[]))) func62 (by kernel_rfl) (by kernel_rfl) (by kernel_rfl) (by kernel_rfl) (λ_ _=>Fw _)
theorem AcU:Ce prog 63:=Df (e:=ReflectliteValue.methodAny (ReflectliteValue.valueError "reflectlite.Value.Type" 0) λt _ _ _=>ReflectliteType.toType t) func63 (by kernel_rfl) (by kernel_rfl) (by kernel_rfl) (by kernel_rfl) (λ_ _=>AeO (ED _ _) (λt _ _ _=>BF t) _)
theorem AeT:Ce prog 64:=Df (e:=ReflectliteValue.method (ReflectliteValue.valueError "reflectlite.Value.IsNil" 0) ReflectliteValue.isNil) func64 (by kernel_rfl) (by kernel_rfl) (by kernel_rfl) (by kernel_rfl) (λ_ _=>OE (ED _ _) (λ_ _ _ _=>OD _ _ _ _) _)
theorem AcV:Ce prog 85:=Df (e:=ReflectliteValue.method (ReflectliteValue.valueError "reflectlite.Value.Elem" 0) ReflectliteValue.elem) func85 (by kernel_rfl) (by kernel_rfl) (by kernel_rfl) (by kernel_rfl) (λ_ _=>OE (ED _ _) (λ_ _ _ _=>UH _ _ _ _) _)
theorem AeU:Ce prog 86:=Df (e:=ReflectliteValue.set) func86 (by kernel_rfl) (by kernel_rfl) (by kernel_rfl) (by kernel_rfl) (λ_ _=>AeP _)
theorem AcW:Ce prog 153:=Df (e:=ReflectliteValue.method (Pure.pure (.int .u8 0)) λ_ _ _ k=>Pure.pure (.int .u8 (Int.ofNat k))) func153 (by kernel_rfl) (by kernel_rfl) (by kernel_rfl) (by kernel_rfl) (λ_ _=>OE (D3.pure' _) (λ_ _ _ _=>D3.pure' _) _)
theorem AaF:Ce prog 84:=Df (e:=ReflectliteType.typeOf) func84 (by kernel_rfl) (by kernel_rfl) (by kernel_rfl) (by kernel_rfl) (λ_ _=>AaD _)
theorem AcX:Ce prog 158:=Df (e:=ReflectliteType.method ReflectliteType.elem) func158 (by kernel_rfl) (by kernel_rfl) (by kernel_rfl) (by kernel_rfl) (λ_ _=>AcS Dl _)
theorem AcY:Ce prog 159:=Df (e:=ReflectliteType.relation "Implements" ReflectliteType.implements_) func159 (by kernel_rfl) (by kernel_rfl) (by kernel_rfl) (by kernel_rfl) (λ_ _=>Nh AU _)
theorem AeV:Ce prog 156:=Df (e:=ReflectliteType.relation "AssignableTo" ReflectliteType.assignableTo) func156 (by kernel_rfl) (by kernel_rfl) (by kernel_rfl) (by kernel_rfl) (λ_ _=>Nh Bp _)
theorem AcZ:Ce prog 139:=Df (e:=ReflectliteType.abiMethod λt=>do Pure.pure (.int .u8 (← Rtype.kind t))) func139 (by kernel_rfl) (by kernel_rfl) (by kernel_rfl) (by kernel_rfl) (λ_ _=>Yv (λt=>D3.bind (Be t) λ_=>D3.pure' _) _)
theorem Ada:Ce prog 138:=AaE func138 (by kernel_rfl) (by kernel_rfl) (by kernel_rfl) (by kernel_rfl)
end Go.Proofs.YtcgkgmmclfeohaaGreatDoor
