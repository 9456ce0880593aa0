/- Entries without a text that the going laws come to. -/
import Derived.Test.YtmfjakieahkacaaGreatDoorProg
import Derived.Test.YtmfjakieahkacaaGreatDoorJ53
import Derived.Test.YtmfjakieahkacaaGreatDoorJ29
namespace Go.Proofs.YtmfjakieahkacaaGreatDoor
open Go.Conc Go.Extern
theorem XK{P:Program}{f:FuncId}{fn:Func}(hf:P.funcs[f]?=some fn)(hb:fn.body.isNone=true)(hn:(fn.name == "runtime.NumGoroutine")=false)(hx:(Extern.findNext fn).isNone=true)(he:(Extern.find fn).isNone=true):BP P f:=λX args=>by
 have hx:Extern.findNext fn=none:=by simpa using hx
 have he:Extern.find fn=none:=by simpa using he
 constructor
 ·unfold callFunc;refine D6 ?_;simp only[hf,hn,hb,Bool.false_eq_true,if_false,if_true,hx,he];refine D0.bind (D0.extern (D0.pure _)) λ_=>?_;split
  ·exact D0.pure' _
  ·exact E8 _ rfl
 ·unfold callFunc;refine Jb ?_;simp only[hf,hn,hb,Bool.false_eq_true,if_false,if_true,hx,he];refine DL λ_=>?_;split
  ·exact Cp _
  ·exact UM _
theorem Aba:BP Tryz.prog 117:=CA (e:=λa=>SlicesOverlaps.overlaps Tryz.f117.params Tryz.f117.resultTypes a) Tryz.func117 (by kernel_rfl) (by kernel_rfl) (by kernel_rfl) (by kernel_rfl) (λ_ _=>Te _ _ _)
theorem VM:BP Tryz.prog 61:=CA (e:=λargs=>ReflectliteValue.unpack (args.getD 0 (.tuple #[]))) Tryz.func61 (by kernel_rfl) (by kernel_rfl) (by kernel_rfl) (by kernel_rfl) (λ_ _=>Er _)
theorem ZP:BP Tryz.prog 62:=CA (e:=ReflectliteValue.methodAny (ReflectliteValue.valueError "reflectlite.Value.Type" 0) λt _ _ _=>ReflectliteType.toType t) Tryz.func62 (by kernel_rfl) (by kernel_rfl) (by kernel_rfl) (by kernel_rfl) (λ_ _=>AaX (DH _ _) (λt _ _ _=>AZ t) _)
theorem Abb:BP Tryz.prog 63:=CA (e:=ReflectliteValue.method (ReflectliteValue.valueError "reflectlite.Value.IsNil" 0) ReflectliteValue.isNil) Tryz.func63 (by kernel_rfl) (by kernel_rfl) (by kernel_rfl) (by kernel_rfl) (λ_ _=>Mp (DH _ _) (λ_ _ _ _=>Mo _ _ _ _) _)
theorem ZQ:BP Tryz.prog 88:=CA (e:=ReflectliteValue.method (ReflectliteValue.valueError "reflectlite.Value.Elem" 0) ReflectliteValue.elem) Tryz.func88 (by kernel_rfl) (by kernel_rfl) (by kernel_rfl) (by kernel_rfl) (λ_ _=>Mp (DH _ _) (λ_ _ _ _=>RQ _ _ _ _) _)
theorem Abc:BP Tryz.prog 89:=CA (e:=ReflectliteValue.set) Tryz.func89 (by kernel_rfl) (by kernel_rfl) (by kernel_rfl) (by kernel_rfl) (λ_ _=>AaY _)
theorem ZR:BP Tryz.prog 155:=CA (e:=ReflectliteValue.method (Pure.pure (.int .u8 0)) λ_ _ _ k=>Pure.pure (.int .u8 (Int.ofNat k))) Tryz.func155 (by kernel_rfl) (by kernel_rfl) (by kernel_rfl) (by kernel_rfl) (λ_ _=>Mp (D0.pure' _) (λ_ _ _ _=>D0.pure' _) _)
theorem XL:BP Tryz.prog 87:=CA (e:=ReflectliteType.typeOf) Tryz.func87 (by kernel_rfl) (by kernel_rfl) (by kernel_rfl) (by kernel_rfl) (λ_ _=>XD _)
theorem ZS:BP Tryz.prog 163:=CA (e:=ReflectliteType.method ReflectliteType.elem) Tryz.func163 (by kernel_rfl) (by kernel_rfl) (by kernel_rfl) (by kernel_rfl) (λ_ _=>ZL CF _)
theorem ZT:BP Tryz.prog 164:=CA (e:=ReflectliteType.relation "Implements" ReflectliteType.implements_) Tryz.func164 (by kernel_rfl) (by kernel_rfl) (by kernel_rfl) (by kernel_rfl) (λ_ _=>Lf Am _)
theorem Abd:BP Tryz.prog 161:=CA (e:=ReflectliteType.relation "AssignableTo" ReflectliteType.assignableTo) Tryz.func161 (by kernel_rfl) (by kernel_rfl) (by kernel_rfl) (by kernel_rfl) (λ_ _=>Lf AP _)
theorem ZU:BP Tryz.prog 145:=CA (e:=ReflectliteType.abiMethod λt=>do Pure.pure (.int .u8 (← Rtype.kind t))) Tryz.func145 (by kernel_rfl) (by kernel_rfl) (by kernel_rfl) (by kernel_rfl) (λ_ _=>Vu (λt=>D0.bind (AB t) λ_=>D0.pure' _) _)
theorem ZV:BP Tryz.prog 144:=XK Tryz.func144 (by kernel_rfl) (by kernel_rfl) (by kernel_rfl) (by kernel_rfl)
end Go.Proofs.YtmfjakieahkacaaGreatDoor
namespace Go.Proofs.YtmfjakieahkacaaGreatDoor
open Go.Conc
def xsW:List Nat:=[117,61,62,63,88,89,155,87,163,164,161,145,144]
def EN:List Nat:=[17,35,34,90,39,40,20,41,15,19,53,54,55,43,65,36,78,79,80,18,56,81,57,58,112,6,113,114,42,115,21,22,23,44,66,24,11,9,30,32,26,27,28,25,49,45,46,47,67,83,70,52,48,116,71,68,91,51,125,126,129,7,13,14,8,59,82,85,119,128,150,33,4,148,60,84,86,118,127,130,38,64,153,157,158,159]++xsW
set_option maxRecDepth 100000 in
theorem R9:N0 Tryz.prog (λg=>EN.contains g):=Nu (x:=xsW) (by
 intro f hf;simp only[xsW,List.mem_cons,List.not_mem_nil,or_false] at hf;rcases hf with rfl|rfl|rfl|rfl|rfl|rfl|rfl|rfl|rfl|rfl|rfl|rfl|rfl
 ·exact Aba
 ·exact VM
 ·exact ZP
 ·exact Abb
 ·exact ZQ
 ·exact Abc
 ·exact ZR
 ·exact XL
 ·exact ZS
 ·exact ZT
 ·exact Abd
 ·exact ZU
 ·exact ZV) (by kernel_rfl)
end Go.Proofs.YtmfjakieahkacaaGreatDoor
