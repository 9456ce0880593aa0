/- Runs carried over, 7b: the entries of reflectlite that errors.As comes to. -/
import Derived.Test.YtcgkgmmclfeohaaGreatDoorJ11
import Derived.Test.YtcgkgmmclfeohaaGreatDoorJ12
import Derived.Test.YtcgkgmmclfeohaaGreatDoorKt4
import Derived.Test.YtcgkgmmclfeohaaGreatDoorJ14
namespace Go.Proofs.YtcgkgmmclfeohaaGreatDoor
open Go.Proofs.Tryz
open Go.Conc Go.Extern
section
variable {P:Program} {X:Nat->Prop} {α β:Type}
theorem L8(h:Value):D3 P X (Rtype.ofHandle h):=by
 unfold Rtype.ofHandle;repeat' first|(with_reducible first|exact D3.pure' _|exact D3.pure _|exact D3.halt _|assumption|exact D8 _|exact G7 _|exact I7 _|exact G5 _|exact G8 _|exact K1 _|exact F6 _ _|exact E8 _ _ _|exact E5 _ _|exact E1 _ _ _|exact K2 _ _|exact J7 _ _|exact G9 _|exact I0 _ _ _|exact F2 _|exact F1 _ _ _ _|exact F8 _|exact K3 _|exact H0 _|exact K4 _|exact G0 _|exact H7 _|exact H6 _|exact I1 _|exact E9 _|exact H9 _ _|exact F9 _ _ _|exact G1 _|exact K0 _ _ _|exact G2 _|exact N2 _|exact M3 _|exact K9 _ _|exact K5 _ _|refine E2 ?_|refine D3.bind ?_ (λ_=>?_))|((with_reducible refine F7 _ ?_)<;>rfl)|((with_reducible refine I9 _ _ ?_)<;>rfl)|(dsimp only)|split
theorem S7(t:TypeId):D3 P X (Rtype.handle t):=by
 unfold Rtype.handle;repeat' first|(with_reducible first|exact D3.pure' _|exact D3.pure _|exact D3.halt _|assumption|exact D8 _|exact G7 _|exact I7 _|exact G5 _|exact G8 _|exact K1 _|exact F6 _ _|exact E8 _ _ _|exact E5 _ _|exact E1 _ _ _|exact K2 _ _|exact J7 _ _|exact G9 _|exact I0 _ _ _|exact F2 _|exact F1 _ _ _ _|exact F8 _|exact K3 _|exact H0 _|exact K4 _|exact G0 _|exact H7 _|exact H6 _|exact I1 _|exact E9 _|exact H9 _ _|exact F9 _ _ _|exact G1 _|exact K0 _ _ _|exact G2 _|exact N2 _|exact M3 _|exact K9 _ _|exact K5 _ _|exact L8 _|refine E2 ?_|refine D3.bind ?_ (λ_=>?_))|((with_reducible refine F7 _ ?_)<;>rfl)|((with_reducible refine I9 _ _ ?_)<;>rfl)|(dsimp only)|split
theorem S1(s:String)(t:TypeId):D3 P X (Rtype.noPack s t):=by
 unfold Rtype.noPack;repeat' first|(with_reducible first|exact D3.pure' _|exact D3.pure _|exact D3.halt _|assumption|exact D8 _|exact G7 _|exact I7 _|exact G5 _|exact G8 _|exact K1 _|exact F6 _ _|exact E8 _ _ _|exact E5 _ _|exact E1 _ _ _|exact K2 _ _|exact J7 _ _|exact G9 _|exact I0 _ _ _|exact F2 _|exact F1 _ _ _ _|exact F8 _|exact K3 _|exact H0 _|exact K4 _|exact G0 _|exact H7 _|exact H6 _|exact I1 _|exact E9 _|exact H9 _ _|exact F9 _ _ _|exact G1 _|exact K0 _ _ _|exact G2 _|exact N2 _|exact M3 _|exact K9 _ _|exact K5 _ _|exact L8 _|exact S7 _|refine E2 ?_|refine D3.bind ?_ (λ_=>?_))|((with_reducible refine F7 _ ?_)<;>rfl)|((with_reducible refine I9 _ _ ?_)<;>rfl)|(dsimp only)|split
theorem S4(s:String)(t:TypeId):D3 P X (Rtype.noPackNamed s t):=by
 unfold Rtype.noPackNamed;repeat' first|(with_reducible first|exact D3.pure' _|exact D3.pure _|exact D3.halt _|assumption|exact D8 _|exact G7 _|exact I7 _|exact G5 _|exact G8 _|exact K1 _|exact F6 _ _|exact E8 _ _ _|exact E5 _ _|exact E1 _ _ _|exact K2 _ _|exact J7 _ _|exact G9 _|exact I0 _ _ _|exact F2 _|exact F1 _ _ _ _|exact F8 _|exact K3 _|exact H0 _|exact K4 _|exact G0 _|exact H7 _|exact H6 _|exact I1 _|exact E9 _|exact H9 _ _|exact F9 _ _ _|exact G1 _|exact K0 _ _ _|exact G2 _|exact N2 _|exact M3 _|exact K9 _ _|exact K5 _ _|exact L8 _|exact S7 _|exact S1 _ _|refine E2 ?_|refine D3.bind ?_ (λ_=>?_))|((with_reducible refine F7 _ ?_)<;>rfl)|((with_reducible refine I9 _ _ ?_)<;>rfl)|(dsimp only)|split
theorem T7(s:String)(t:TypeId):D3 P X (Rtype.noPackMethods s t):=by
 unfold Rtype.noPackMethods;repeat' first|(with_reducible first|exact D3.pure' _|exact D3.pure _|exact D3.halt _|assumption|exact D8 _|exact G7 _|exact I7 _|exact G5 _|exact G8 _|exact K1 _|exact F6 _ _|exact E8 _ _ _|exact E5 _ _|exact E1 _ _ _|exact K2 _ _|exact J7 _ _|exact G9 _|exact I0 _ _ _|exact F2 _|exact F1 _ _ _ _|exact F8 _|exact K3 _|exact H0 _|exact K4 _|exact G0 _|exact H7 _|exact H6 _|exact I1 _|exact E9 _|exact H9 _ _|exact F9 _ _ _|exact G1 _|exact K0 _ _ _|exact G2 _|exact N2 _|exact M3 _|exact K9 _ _|exact K5 _ _|exact L8 _|exact S7 _|exact S1 _ _|exact S4 _ _|refine E2 ?_|refine D3.bind ?_ (λ_=>?_))|((with_reducible refine F7 _ ?_)<;>rfl)|((with_reducible refine I9 _ _ ?_)<;>rfl)|(dsimp only)|split
theorem Ae(t:TypeId):D3 P X (Rtype.spelt t):=by
 unfold Rtype.spelt;repeat' first|(with_reducible first|exact D3.pure' _|exact D3.pure _|exact D3.halt _|assumption|exact D8 _|exact G7 _|exact I7 _|exact G5 _|exact G8 _|exact K1 _|exact F6 _ _|exact E8 _ _ _|exact E5 _ _|exact E1 _ _ _|exact K2 _ _|exact J7 _ _|exact G9 _|exact I0 _ _ _|exact F2 _|exact F1 _ _ _ _|exact F8 _|exact K3 _|exact H0 _|exact K4 _|exact G0 _|exact H7 _|exact H6 _|exact I1 _|exact E9 _|exact H9 _ _|exact F9 _ _ _|exact G1 _|exact K0 _ _ _|exact G2 _|exact N2 _|exact M3 _|exact K9 _ _|exact K5 _ _|exact L8 _|exact S7 _|exact S1 _ _|exact S4 _ _|exact T7 _ _|refine E2 ?_|refine D3.bind ?_ (λ_=>?_))|((with_reducible refine F7 _ ?_)<;>rfl)|((with_reducible refine I9 _ _ ?_)<;>rfl)|(dsimp only)|split
theorem Ak(t:TypeId):D3 P X (Rtype.under t):=by
 unfold Rtype.under;repeat' first|(with_reducible first|exact D3.pure' _|exact D3.pure _|exact D3.halt _|assumption|exact D8 _|exact G7 _|exact I7 _|exact G5 _|exact G8 _|exact K1 _|exact F6 _ _|exact E8 _ _ _|exact E5 _ _|exact E1 _ _ _|exact K2 _ _|exact J7 _ _|exact G9 _|exact I0 _ _ _|exact F2 _|exact F1 _ _ _ _|exact F8 _|exact K3 _|exact H0 _|exact K4 _|exact G0 _|exact H7 _|exact H6 _|exact I1 _|exact E9 _|exact H9 _ _|exact F9 _ _ _|exact G1 _|exact K0 _ _ _|exact G2 _|exact N2 _|exact M3 _|exact K9 _ _|exact K5 _ _|exact L8 _|exact S7 _|exact S1 _ _|exact S4 _ _|exact T7 _ _|exact Ae _|refine E2 ?_|refine D3.bind ?_ (λ_=>?_))|((with_reducible refine F7 _ ?_)<;>rfl)|((with_reducible refine I9 _ _ ?_)<;>rfl)|(dsimp only)|split
theorem Be(t:TypeId):D3 P X (Rtype.kind t):=by
 unfold Rtype.kind;repeat' first|(with_reducible first|exact D3.pure' _|exact D3.pure _|exact D3.halt _|assumption|exact D8 _|exact G7 _|exact I7 _|exact G5 _|exact G8 _|exact K1 _|exact F6 _ _|exact E8 _ _ _|exact E5 _ _|exact E1 _ _ _|exact K2 _ _|exact J7 _ _|exact G9 _|exact I0 _ _ _|exact F2 _|exact F1 _ _ _ _|exact F8 _|exact K3 _|exact H0 _|exact K4 _|exact G0 _|exact H7 _|exact H6 _|exact I1 _|exact E9 _|exact H9 _ _|exact F9 _ _ _|exact G1 _|exact K0 _ _ _|exact G2 _|exact N2 _|exact M3 _|exact K9 _ _|exact K5 _ _|exact L8 _|exact S7 _|exact S1 _ _|exact S4 _ _|exact T7 _ _|exact Ae _|exact Ak _|refine E2 ?_|refine D3.bind ?_ (λ_=>?_))|((with_reducible refine F7 _ ?_)<;>rfl)|((with_reducible refine I9 _ _ ?_)<;>rfl)|(dsimp only)|split
theorem Z3(t:TypeId):D3 P X (Rtype.hasName t):=by
 unfold Rtype.hasName;repeat' first|(with_reducible first|exact D3.pure' _|exact D3.pure _|exact D3.halt _|assumption|exact D8 _|exact G7 _|exact I7 _|exact G5 _|exact G8 _|exact K1 _|exact F6 _ _|exact E8 _ _ _|exact E5 _ _|exact E1 _ _ _|exact K2 _ _|exact J7 _ _|exact G9 _|exact I0 _ _ _|exact F2 _|exact F1 _ _ _ _|exact F8 _|exact K3 _|exact H0 _|exact K4 _|exact G0 _|exact H7 _|exact H6 _|exact I1 _|exact E9 _|exact H9 _ _|exact F9 _ _ _|exact G1 _|exact K0 _ _ _|exact G2 _|exact N2 _|exact M3 _|exact K9 _ _|exact K5 _ _|exact L8 _|exact S7 _|exact S1 _ _|exact S4 _ _|exact T7 _ _|exact Ae _|exact Ak _|exact Be _|refine E2 ?_|refine D3.bind ?_ (λ_=>?_))|((with_reducible refine F7 _ ?_)<;>rfl)|((with_reducible refine I9 _ _ ?_)<;>rfl)|(dsimp only)|split
theorem Bi(t:TypeId):D3 P X (Rtype.elem? t):=by
 unfold Rtype.elem?;repeat' first|(with_reducible first|exact D3.pure' _|exact D3.pure _|exact D3.halt _|assumption|exact D8 _|exact G7 _|exact I7 _|exact G5 _|exact G8 _|exact K1 _|exact F6 _ _|exact E8 _ _ _|exact E5 _ _|exact E1 _ _ _|exact K2 _ _|exact J7 _ _|exact G9 _|exact I0 _ _ _|exact F2 _|exact F1 _ _ _ _|exact F8 _|exact K3 _|exact H0 _|exact K4 _|exact G0 _|exact H7 _|exact H6 _|exact I1 _|exact E9 _|exact H9 _ _|exact F9 _ _ _|exact G1 _|exact K0 _ _ _|exact G2 _|exact N2 _|exact M3 _|exact K9 _ _|exact K5 _ _|exact L8 _|exact S7 _|exact S1 _ _|exact S4 _ _|exact T7 _ _|exact Ae _|exact Ak _|exact Be _|exact Z3 _|refine E2 ?_|refine D3.bind ?_ (λ_=>?_))|((with_reducible refine F7 _ ?_)<;>rfl)|((with_reducible refine I9 _ _ ?_)<;>rfl)|(dsimp only)|split
theorem Cj(a b:TypeId):D3 P X (Rtype.implements a b):=by
 unfold Rtype.implements;repeat' first|(with_reducible first|exact D3.pure' _|exact D3.pure _|exact D3.halt _|assumption|exact D8 _|exact G7 _|exact I7 _|exact G5 _|exact G8 _|exact K1 _|exact F6 _ _|exact E8 _ _ _|exact E5 _ _|exact E1 _ _ _|exact K2 _ _|exact J7 _ _|exact G9 _|exact I0 _ _ _|exact F2 _|exact F1 _ _ _ _|exact F8 _|exact K3 _|exact H0 _|exact K4 _|exact G0 _|exact H7 _|exact H6 _|exact I1 _|exact E9 _|exact H9 _ _|exact F9 _ _ _|exact G1 _|exact K0 _ _ _|exact G2 _|exact N2 _|exact M3 _|exact K9 _ _|exact K5 _ _|exact L8 _|exact S7 _|exact S1 _ _|exact S4 _ _|exact T7 _ _|exact Ae _|exact Ak _|exact Be _|exact Z3 _|exact Bi _|refine E2 ?_|refine D3.bind ?_ (λ_=>?_))|((with_reducible refine F7 _ ?_)<;>rfl)|((with_reducible refine I9 _ _ ?_)<;>rfl)|(dsimp only)|split
theorem CG(a b:TypeId):D3 P X (Rtype.directlyAssignable a b):=by
 unfold Rtype.directlyAssignable;repeat' first|(with_reducible first|exact D3.pure' _|exact D3.pure _|exact D3.halt _|assumption|exact D8 _|exact G7 _|exact I7 _|exact G5 _|exact G8 _|exact K1 _|exact F6 _ _|exact E8 _ _ _|exact E5 _ _|exact E1 _ _ _|exact K2 _ _|exact J7 _ _|exact G9 _|exact I0 _ _ _|exact F2 _|exact F1 _ _ _ _|exact F8 _|exact K3 _|exact H0 _|exact K4 _|exact G0 _|exact H7 _|exact H6 _|exact I1 _|exact E9 _|exact H9 _ _|exact F9 _ _ _|exact G1 _|exact K0 _ _ _|exact G2 _|exact N2 _|exact M3 _|exact K9 _ _|exact K5 _ _|exact L8 _|exact S7 _|exact S1 _ _|exact S4 _ _|exact T7 _ _|exact Ae _|exact Ak _|exact Be _|exact Z3 _|exact Bi _|exact Cj _ _|refine E2 ?_|refine D3.bind ?_ (λ_=>?_))|((with_reducible refine F7 _ ?_)<;>rfl)|((with_reducible refine I9 _ _ ?_)<;>rfl)|(dsimp only)|split
theorem AY(s:String):D3 P X (cutType s):=by
 unfold cutType;repeat' first|(with_reducible first|exact D3.pure' _|exact D3.pure _|exact D3.halt _|assumption|exact D8 _|exact G7 _|exact I7 _|exact G5 _|exact G8 _|exact K1 _|exact F6 _ _|exact E8 _ _ _|exact E5 _ _|exact E1 _ _ _|exact K2 _ _|exact J7 _ _|exact G9 _|exact I0 _ _ _|exact F2 _|exact F1 _ _ _ _|exact F8 _|exact K3 _|exact H0 _|exact K4 _|exact G0 _|exact H7 _|exact H6 _|exact I1 _|exact E9 _|exact H9 _ _|exact F9 _ _ _|exact G1 _|exact K0 _ _ _|exact G2 _|exact N2 _|exact M3 _|exact K9 _ _|exact K5 _ _|exact L8 _|exact S7 _|exact S1 _ _|exact S4 _ _|exact T7 _ _|exact Ae _|exact Ak _|exact Be _|exact Z3 _|exact Bi _|exact Cj _ _|exact CG _ _|refine E2 ?_|refine D3.bind ?_ (λ_=>?_))|((with_reducible refine F7 _ ?_)<;>rfl)|((with_reducible refine I9 _ _ ?_)<;>rfl)|(dsimp only)|split
theorem Ay(v:Value):D3 P X (goPanic v:Sem α):=D3.halt _
theorem BE(s:String):D3 P X (panicString s:Sem α):=by
 unfold panicString;repeat' first|(with_reducible first|exact D3.pure' _|exact D3.pure _|exact D3.halt _|assumption|exact D8 _|exact G7 _|exact I7 _|exact G5 _|exact G8 _|exact K1 _|exact F6 _ _|exact E8 _ _ _|exact E5 _ _|exact E1 _ _ _|exact K2 _ _|exact J7 _ _|exact G9 _|exact I0 _ _ _|exact F2 _|exact F1 _ _ _ _|exact F8 _|exact K3 _|exact H0 _|exact K4 _|exact G0 _|exact H7 _|exact H6 _|exact I1 _|exact E9 _|exact H9 _ _|exact F9 _ _ _|exact G1 _|exact K0 _ _ _|exact G2 _|exact N2 _|exact M3 _|exact K9 _ _|exact K5 _ _|exact Ay _|exact L8 _|exact S7 _|exact S1 _ _|exact S4 _ _|exact T7 _ _|exact Ae _|exact Ak _|exact Be _|exact Z3 _|exact Bi _|exact Cj _ _|exact CG _ _|exact AY _|refine E2 ?_|refine D3.bind ?_ (λ_=>?_))|((with_reducible refine F7 _ ?_)<;>rfl)|((with_reducible refine I9 _ _ ?_)<;>rfl)|(dsimp only)|split
theorem BF(t:TypeId):D3 P X (ReflectliteType.toType t):=by
 unfold ReflectliteType.toType;repeat' first|(with_reducible first|exact D3.pure' _|exact D3.pure _|exact D3.halt _|assumption|exact D8 _|exact G7 _|exact I7 _|exact G5 _|exact G8 _|exact K1 _|exact F6 _ _|exact E8 _ _ _|exact E5 _ _|exact E1 _ _ _|exact K2 _ _|exact J7 _ _|exact G9 _|exact I0 _ _ _|exact F2 _|exact F1 _ _ _ _|exact F8 _|exact K3 _|exact H0 _|exact K4 _|exact G0 _|exact H7 _|exact H6 _|exact I1 _|exact E9 _|exact H9 _ _|exact F9 _ _ _|exact G1 _|exact K0 _ _ _|exact G2 _|exact N2 _|exact M3 _|exact K9 _ _|exact K5 _ _|exact L8 _|exact S7 _|exact S1 _ _|exact S4 _ _|exact T7 _ _|exact Ae _|exact Ak _|exact Be _|exact Z3 _|exact Bi _|exact Cj _ _|exact CG _ _|exact AY _|exact BE _|exact Ay _|refine E2 ?_|refine D3.bind ?_ (λ_=>?_))|((with_reducible refine F7 _ ?_)<;>rfl)|((with_reducible refine I9 _ _ ?_)<;>rfl)|(dsimp only)|split
theorem Az(v:Value):D3 P X (ReflectliteType.ofRtype v):=by
 cases v<;>first|exact D8 _|skip
 rename_i a;obtain⟨l⟩:=a;rcases l with _|⟨x,_|⟨y,l⟩⟩
 ·exact D8 _
 ·exact D3.bind (L8 x) λt=>D3.bind (S1 _ t) λ_=>D3.pure' _
 ·exact D8 _
theorem Dl(t:TypeId):D3 P X (ReflectliteType.elem t):=by
 unfold ReflectliteType.elem;repeat' first|(with_reducible first|exact D3.pure' _|exact D3.pure _|exact D3.halt _|assumption|exact D8 _|exact G7 _|exact I7 _|exact G5 _|exact G8 _|exact K1 _|exact F6 _ _|exact E8 _ _ _|exact E5 _ _|exact E1 _ _ _|exact K2 _ _|exact J7 _ _|exact G9 _|exact I0 _ _ _|exact F2 _|exact F1 _ _ _ _|exact F8 _|exact K3 _|exact H0 _|exact K4 _|exact G0 _|exact H7 _|exact H6 _|exact I1 _|exact E9 _|exact H9 _ _|exact F9 _ _ _|exact G1 _|exact K0 _ _ _|exact G2 _|exact N2 _|exact M3 _|exact K9 _ _|exact K5 _ _|exact L8 _|exact S7 _|exact S1 _ _|exact S4 _ _|exact T7 _ _|exact Ae _|exact Ak _|exact Be _|exact Z3 _|exact Bi _|exact Cj _ _|exact CG _ _|exact AY _|exact BE _|exact Ay _|exact BF _|exact Az _|refine E2 ?_|refine D3.bind ?_ (λ_=>?_))|((with_reducible refine F7 _ ?_)<;>rfl)|((with_reducible refine I9 _ _ ?_)<;>rfl)|(dsimp only)|split
theorem AU(a b:TypeId):D3 P X (ReflectliteType.implements_ a b):=by
 unfold ReflectliteType.implements_;repeat' first|(with_reducible first|exact D3.pure' _|exact D3.pure _|exact D3.halt _|assumption|exact D8 _|exact G7 _|exact I7 _|exact G5 _|exact G8 _|exact K1 _|exact F6 _ _|exact E8 _ _ _|exact E5 _ _|exact E1 _ _ _|exact K2 _ _|exact J7 _ _|exact G9 _|exact I0 _ _ _|exact F2 _|exact F1 _ _ _ _|exact F8 _|exact K3 _|exact H0 _|exact K4 _|exact G0 _|exact H7 _|exact H6 _|exact I1 _|exact E9 _|exact H9 _ _|exact F9 _ _ _|exact G1 _|exact K0 _ _ _|exact G2 _|exact N2 _|exact M3 _|exact K9 _ _|exact K5 _ _|exact L8 _|exact S7 _|exact S1 _ _|exact S4 _ _|exact T7 _ _|exact Ae _|exact Ak _|exact Be _|exact Z3 _|exact Bi _|exact Cj _ _|exact CG _ _|exact AY _|exact BE _|exact Ay _|exact BF _|exact Az _|exact Dl _|refine E2 ?_|refine D3.bind ?_ (λ_=>?_))|((with_reducible refine F7 _ ?_)<;>rfl)|((with_reducible refine I9 _ _ ?_)<;>rfl)|(dsimp only)|split
theorem Bp(a b:TypeId):D3 P X (ReflectliteType.assignableTo a b):=by
 unfold ReflectliteType.assignableTo;repeat' first|(with_reducible first|exact D3.pure' _|exact D3.pure _|exact D3.halt _|assumption|exact D8 _|exact G7 _|exact I7 _|exact G5 _|exact G8 _|exact K1 _|exact F6 _ _|exact E8 _ _ _|exact E5 _ _|exact E1 _ _ _|exact K2 _ _|exact J7 _ _|exact G9 _|exact I0 _ _ _|exact F2 _|exact F1 _ _ _ _|exact F8 _|exact K3 _|exact H0 _|exact K4 _|exact G0 _|exact H7 _|exact H6 _|exact I1 _|exact E9 _|exact H9 _ _|exact F9 _ _ _|exact G1 _|exact K0 _ _ _|exact G2 _|exact N2 _|exact M3 _|exact K9 _ _|exact K5 _ _|exact L8 _|exact S7 _|exact S1 _ _|exact S4 _ _|exact T7 _ _|exact Ae _|exact Ak _|exact Be _|exact Z3 _|exact Bi _|exact Cj _ _|exact CG _ _|exact AY _|exact BE _|exact Ay _|exact BF _|exact Az _|exact Dl _|exact AU _ _|refine E2 ?_|refine D3.bind ?_ (λ_=>?_))|((with_reducible refine F7 _ ?_)<;>rfl)|((with_reducible refine I9 _ _ ?_)<;>rfl)|(dsimp only)|split
theorem Lm(t:TypeId)(a:Addr)(n:Nat):D3 P X (ReflectliteValue.mk t a n):=by
 unfold ReflectliteValue.mk;repeat' first|(with_reducible first|exact D3.pure' _|exact D3.pure _|exact D3.halt _|assumption|exact D8 _|exact G7 _|exact I7 _|exact G5 _|exact G8 _|exact K1 _|exact F6 _ _|exact E8 _ _ _|exact E5 _ _|exact E1 _ _ _|exact K2 _ _|exact J7 _ _|exact G9 _|exact I0 _ _ _|exact F2 _|exact F1 _ _ _ _|exact F8 _|exact K3 _|exact H0 _|exact K4 _|exact G0 _|exact H7 _|exact H6 _|exact I1 _|exact E9 _|exact H9 _ _|exact F9 _ _ _|exact G1 _|exact K0 _ _ _|exact G2 _|exact N2 _|exact M3 _|exact K9 _ _|exact K5 _ _|exact L8 _|exact S7 _|exact S1 _ _|exact S4 _ _|exact T7 _ _|exact Ae _|exact Ak _|exact Be _|exact Z3 _|exact Bi _|exact Cj _ _|exact CG _ _|exact AY _|exact BE _|exact Ay _|exact BF _|exact Az _|exact Dl _|exact AU _ _|exact Bp _ _|refine E2 ?_|refine D3.bind ?_ (λ_=>?_))|((with_reducible refine F7 _ ?_)<;>rfl)|((with_reducible refine I9 _ _ ?_)<;>rfl)|(dsimp only)|split
theorem Fw(v:Value):D3 P X (ReflectliteValue.unpack v):=by
 unfold ReflectliteValue.unpack;repeat' first|(with_reducible first|exact D3.pure' _|exact D3.pure _|exact D3.halt _|assumption|exact D8 _|exact G7 _|exact I7 _|exact G5 _|exact G8 _|exact K1 _|exact F6 _ _|exact E8 _ _ _|exact E5 _ _|exact E1 _ _ _|exact K2 _ _|exact J7 _ _|exact G9 _|exact I0 _ _ _|exact F2 _|exact F1 _ _ _ _|exact F8 _|exact K3 _|exact H0 _|exact K4 _|exact G0 _|exact H7 _|exact H6 _|exact I1 _|exact E9 _|exact H9 _ _|exact F9 _ _ _|exact G1 _|exact K0 _ _ _|exact G2 _|exact N2 _|exact M3 _|exact K9 _ _|exact K5 _ _|exact L8 _|exact S7 _|exact S1 _ _|exact S4 _ _|exact T7 _ _|exact Ae _|exact Ak _|exact Be _|exact Z3 _|exact Bi _|exact Cj _ _|exact CG _ _|exact AY _|exact BE _|exact Ay _|exact BF _|exact Az _|exact Dl _|exact AU _ _|exact Bp _ _|exact Lm _ _ _|refine E2 ?_|refine D3.bind ?_ (λ_=>?_))|((with_reducible refine F7 _ ?_)<;>rfl)|((with_reducible refine I9 _ _ ?_)<;>rfl)|(dsimp only)|split
theorem ED(s:String)(k:Nat):D3 P X (ReflectliteValue.valueError s k:Sem α):=by
 unfold ReflectliteValue.valueError;repeat' first|(with_reducible first|exact D3.pure' _|exact D3.pure _|exact D3.halt _|assumption|exact D8 _|exact G7 _|exact I7 _|exact G5 _|exact G8 _|exact K1 _|exact F6 _ _|exact E8 _ _ _|exact E5 _ _|exact E1 _ _ _|exact K2 _ _|exact J7 _ _|exact G9 _|exact I0 _ _ _|exact F2 _|exact F1 _ _ _ _|exact F8 _|exact K3 _|exact H0 _|exact K4 _|exact G0 _|exact H7 _|exact H6 _|exact I1 _|exact E9 _|exact H9 _ _|exact F9 _ _ _|exact G1 _|exact K0 _ _ _|exact G2 _|exact N2 _|exact M3 _|exact K9 _ _|exact K5 _ _|exact L8 _|exact S7 _|exact S1 _ _|exact S4 _ _|exact T7 _ _|exact Ae _|exact Ak _|exact Be _|exact Z3 _|exact Bi _|exact Cj _ _|exact CG _ _|exact AY _|exact BE _|exact Ay _|exact BF _|exact Az _|exact Dl _|exact AU _ _|exact Bp _ _|exact Lm _ _ _|exact Fw _|refine E2 ?_|refine D3.bind ?_ (λ_=>?_))|((with_reducible refine F7 _ ?_)<;>rfl)|((with_reducible refine I9 _ _ ?_)<;>rfl)|(dsimp only)|split
theorem Hf(v:Value):D3 P X (ReflectliteValue.partsAny v):=by
 cases v<;>first|exact D8 _|skip
 rename_i a;obtain⟨l⟩:=a;rcases l with _|⟨x,_|⟨y,_|⟨z,_|⟨q,l⟩⟩⟩⟩
 ·exact D8 _
 ·exact D8 _
 ·exact D8 _
 ·cases z<;>first|exact D8 _|(cases y<;>first|exact D8 _|(rename_i o;cases o<;>exact D8 _))|skip
  rename_i k n;cases k<;>first|exact D8 _|(cases y<;>first|exact D8 _|(rename_i o;cases o<;>exact D8 _))|skip
  rcases n with (_|m)|m
  ·exact D3.pure' _
  ·cases y<;>first|exact D8 _|skip
   rename_i o;cases o
   ·exact D8 _
   ·exact D3.bind (L8 x) λ_=>D3.pure' _
  ·cases y<;>first|exact D8 _|skip
   rename_i o;cases o
   ·exact D8 _
   ·exact D3.bind (L8 x) λ_=>D3.pure' _
 ·exact D8 _
theorem GD(v:Value):D3 P X (ReflectliteValue.parts v):=by
 unfold ReflectliteValue.parts;repeat' first|(with_reducible first|exact D3.pure' _|exact D3.pure _|exact D3.halt _|assumption|exact D8 _|exact G7 _|exact I7 _|exact G5 _|exact G8 _|exact K1 _|exact F6 _ _|exact E8 _ _ _|exact E5 _ _|exact E1 _ _ _|exact K2 _ _|exact J7 _ _|exact G9 _|exact I0 _ _ _|exact F2 _|exact F1 _ _ _ _|exact F8 _|exact K3 _|exact H0 _|exact K4 _|exact G0 _|exact H7 _|exact H6 _|exact I1 _|exact E9 _|exact H9 _ _|exact F9 _ _ _|exact G1 _|exact K0 _ _ _|exact G2 _|exact N2 _|exact M3 _|exact K9 _ _|exact K5 _ _|exact L8 _|exact S7 _|exact S1 _ _|exact S4 _ _|exact T7 _ _|exact Ae _|exact Ak _|exact Be _|exact Z3 _|exact Bi _|exact Cj _ _|exact CG _ _|exact AY _|exact BE _|exact Ay _|exact BF _|exact Az _|exact Dl _|exact AU _ _|exact Bp _ _|exact Lm _ _ _|exact Fw _|exact ED _ _|exact Hf _|refine E2 ?_|refine D3.bind ?_ (λ_=>?_))|((with_reducible refine F7 _ ?_)<;>rfl)|((with_reducible refine I9 _ _ ?_)<;>rfl)|(dsimp only)|split
theorem OD(t:TypeId)(a:Addr)(x k:Nat):D3 P X (ReflectliteValue.isNil t a x k):=by
 unfold ReflectliteValue.isNil;repeat' first|(with_reducible first|exact D3.pure' _|exact D3.pure _|exact D3.halt _|assumption|exact D8 _|exact G7 _|exact I7 _|exact G5 _|exact G8 _|exact K1 _|exact F6 _ _|exact E8 _ _ _|exact E5 _ _|exact E1 _ _ _|exact K2 _ _|exact J7 _ _|exact G9 _|exact I0 _ _ _|exact F2 _|exact F1 _ _ _ _|exact F8 _|exact K3 _|exact H0 _|exact K4 _|exact G0 _|exact H7 _|exact H6 _|exact I1 _|exact E9 _|exact H9 _ _|exact F9 _ _ _|exact G1 _|exact K0 _ _ _|exact G2 _|exact N2 _|exact M3 _|exact K9 _ _|exact K5 _ _|exact L8 _|exact S7 _|exact S1 _ _|exact S4 _ _|exact T7 _ _|exact Ae _|exact Ak _|exact Be _|exact Z3 _|exact Bi _|exact Cj _ _|exact CG _ _|exact AY _|exact BE _|exact Ay _|exact BF _|exact Az _|exact Dl _|exact AU _ _|exact Bp _ _|exact Lm _ _ _|exact Fw _|exact ED _ _|exact Hf _|exact GD _|refine E2 ?_|refine D3.bind ?_ (λ_=>?_))|((with_reducible refine F7 _ ?_)<;>rfl)|((with_reducible refine I9 _ _ ?_)<;>rfl)|(dsimp only)|split
theorem UH(t:TypeId)(a:Addr)(x k:Nat):D3 P X (ReflectliteValue.elem t a x k):=by
 unfold ReflectliteValue.elem;repeat' first|(with_reducible first|exact D3.pure' _|exact D3.pure _|exact D3.halt _|assumption|exact D8 _|exact G7 _|exact I7 _|exact G5 _|exact G8 _|exact K1 _|exact F6 _ _|exact E8 _ _ _|exact E5 _ _|exact E1 _ _ _|exact K2 _ _|exact J7 _ _|exact G9 _|exact I0 _ _ _|exact F2 _|exact F1 _ _ _ _|exact F8 _|exact K3 _|exact H0 _|exact K4 _|exact G0 _|exact H7 _|exact H6 _|exact I1 _|exact E9 _|exact H9 _ _|exact F9 _ _ _|exact G1 _|exact K0 _ _ _|exact G2 _|exact N2 _|exact M3 _|exact K9 _ _|exact K5 _ _|exact L8 _|exact S7 _|exact S1 _ _|exact S4 _ _|exact T7 _ _|exact Ae _|exact Ak _|exact Be _|exact Z3 _|exact Bi _|exact Cj _ _|exact CG _ _|exact AY _|exact BE _|exact Ay _|exact BF _|exact Az _|exact Dl _|exact AU _ _|exact Bp _ _|exact Lm _ _ _|exact Fw _|exact ED _ _|exact Hf _|exact GD _|exact OD _ _ _ _|refine E2 ?_|refine D3.bind ?_ (λ_=>?_))|((with_reducible refine F7 _ ?_)<;>rfl)|((with_reducible refine I9 _ _ ?_)<;>rfl)|(dsimp only)|split
theorem AcS{f:TypeId->Sem Value}(hf:∀t,D3 P X (f t))(v:Array Value):D3 P X (ReflectliteType.method f v):=by
 obtain⟨l⟩:=v;rcases l with _|⟨x,_|⟨y,l⟩⟩
 ·exact D8 _
 ·exact D3.bind (Az x) hf
 ·exact D8 _
theorem Yv{f:TypeId->Sem Value}(hf:∀t,D3 P X (f t))(v:Array Value):D3 P X (ReflectliteType.abiMethod f v):=by
 obtain⟨l⟩:=v;rcases l with _|⟨x,_|⟨y,l⟩⟩
 ·exact D8 _
 ·exact D3.bind (L8 x) λt=>D3.bind (S1 _ t) λ_=>hf t
 ·exact D8 _
theorem Nh{what:String}{f:TypeId->TypeId->Sem Bool}(hf:∀a b,D3 P X (f a b))(v:Array Value):D3 P X (ReflectliteType.relation what f v):=by
 obtain⟨l⟩:=v;rcases l with _|⟨x,_|⟨y,_|⟨z,l⟩⟩⟩
 ·exact D8 _
 ·exact D8 _
 ·cases y<;>first|exact D8 _|exact BE _|exact Ay _|skip
  rename_i t u;exact D3.bind (Az u) λa=>D3.bind (Az x) λb=>D3.bind (hf a b) λ_=>D3.pure' _
 ·cases y<;>exact D8 _
theorem AaD(v:Array Value):D3 P X (ReflectliteType.typeOf v):=by
 obtain⟨l⟩:=v;rcases l with _|⟨x,_|⟨y,l⟩⟩
 ·exact D8 _
 ·cases x<;>first|exact D8 _|exact D3.pure' _|exact BF _
 ·cases x<;>exact D8 _
theorem OE{z:Sem Value}{f:TypeId->Addr->Nat->Nat->Sem Value}(hz:D3 P X z)(hf:∀t a m n,D3 P X (f t a m n))(v:Array Value):D3 P X (ReflectliteValue.method z f v):=by
 obtain⟨l⟩:=v;rcases l with _|⟨x,_|⟨y,l⟩⟩
 ·exact D8 _
 ·exact D3.bind (GD x) λo=>by
   cases o with
   | none=>exact hz
   | some r=>exact hf _ _ _ _
 ·exact D8 _
theorem AeO{z:Sem Value}{f:TypeId->Addr->Nat->Nat->Sem Value}(hz:D3 P X z)(hf:∀t a m n,D3 P X (f t a m n))(v:Array Value):D3 P X (ReflectliteValue.methodAny z f v):=by
 obtain⟨l⟩:=v;rcases l with _|⟨x,_|⟨y,l⟩⟩
 ·exact D8 _
 ·exact D3.bind (Hf x) λo=>by
   cases o with
   | none=>exact hz
   | some r=>exact hf _ _ _ _
 ·exact D8 _
theorem AeP(v:Array Value):D3 P X (ReflectliteValue.set v):=by
 obtain⟨l⟩:=v;rcases l with _|⟨x,_|⟨y,_|⟨z,l⟩⟩⟩
 ·exact D8 _
 ·exact D8 _
 ·refine D3.bind (GD x) λa=>D3.bind (GD y) λb=>?_;repeat' first|(with_reducible first|exact D3.pure' _|exact D3.pure _|exact D3.halt _|assumption|exact D8 _|exact G7 _|exact I7 _|exact G5 _|exact G8 _|exact K1 _|exact F6 _ _|exact E8 _ _ _|exact E5 _ _|exact E1 _ _ _|exact K2 _ _|exact J7 _ _|exact G9 _|exact I0 _ _ _|exact F2 _|exact F1 _ _ _ _|exact F8 _|exact K3 _|exact H0 _|exact K4 _|exact G0 _|exact H7 _|exact H6 _|exact I1 _|exact E9 _|exact H9 _ _|exact F9 _ _ _|exact G1 _|exact K0 _ _ _|exact G2 _|exact N2 _|exact M3 _|exact K9 _ _|exact K5 _ _|exact L8 _|exact S7 _|exact S1 _ _|exact S4 _ _|exact T7 _ _|exact Ae _|exact Ak _|exact Be _|exact Z3 _|exact Bi _|exact Cj _ _|exact CG _ _|exact AY _|exact BE _|exact Ay _|exact BF _|exact Az _|exact Dl _|exact AU _ _|exact Bp _ _|exact Lm _ _ _|exact Fw _|exact ED _ _|exact Hf _|exact GD _|exact OD _ _ _ _|exact UH _ _ _ _|refine E2 ?_|refine D3.bind ?_ (λ_=>?_))|((with_reducible refine F7 _ ?_)<;>rfl)|((with_reducible refine I9 _ _ ?_)<;>rfl)|(dsimp only)|split
 ·exact D8 _
end
end Go.Proofs.YtcgkgmmclfeohaaGreatDoor
namespace Go.Proofs.YtcgkgmmclfeohaaGreatDoor
open Go.Proofs.Tryz
open Go.RowKit
theorem Io(b:Bk)(v:Value)(w:World)(h:K6 w v b)(hok:I8 b):
  Calls prog 26 #[v] w λe w'=>(∃v',e=.returned v'/\N4 w' w.heap.size v' b)/\Up w w':=by
 obtain⟨s1,s2,s3⟩:=Ai hok;refine (Jv b v w h (by omega) (by omega) (λy hy=>by have:=s3 y hy;omega)).mono ?_;rintro e w' ⟨⟨tu,bu,ps,rfl,h1,h2,h3,-⟩,hb⟩;exact⟨⟨_,rfl,tu,bu,ps,rfl,h1,h2,h3⟩,hb⟩
theorem Ip(b:Bk)(v:Value)(w:World)(h:K6 w v b)(h1:b.tg.length<=100)(h2:b.bs.length<=100)(h3:∀y∈b.bs,y.has.length<=100/\y.nd.length<=100):
  Calls prog 26 #[v] w λe w'=>(∃v',e=.returned v'/\N4 w' w.heap.size v' b)/\Up w w':=by
 refine (Jv b v w h (by omega) (by omega) (λy hy=>by have:=h3 y hy;omega)).mono ?_;rintro e w' ⟨⟨tu,bu,ps,rfl,h1,h2,h3,-⟩,hb⟩;exact⟨⟨_,rfl,tu,bu,ps,rfl,h1,h2,h3⟩,hb⟩
theorem Jy:∀(ps:List Bv)(k:Nat)(p:Bv)(u:Value)(x:Ba),ps[k]?=some p->x.nm=p.1.nm->(E4 ps).set (k*3+1) u=E4 (ps.set k (x,u,p.2.2))
 | q::r,0,p,u,x,hp,hx=>by
  simp at hp;subst hp
  simp[E4,P6,hx]
 | q::r,k+1,p,u,x,hp,hx=>by
  have ih:=Jy r k p u x (by simpa using hp) hx;have hl:(P6 q).length=3:=rfl;rw[List.set_cons_succ,E4,E4,← ih,List.set_append_right _ _ (by rw[hl];omega),hl,show (k+1)*3+1-3=k*3+1 by omega]
theorem Ni:∀(ps:List Bv)(k:Nat)(p:Bv)(u:Value)(x:Ba),ps[k]?=some p->x.nm=p.1.nm->(E4 ps).set (k*3+2) u=E4 (ps.set k (x,p.2.1,u))
 | q::r,0,p,u,x,hp,hx=>by
  simp at hp;subst hp
  simp[E4,P6,hx]
 | q::r,k+1,p,u,x,hp,hx=>by
  have ih:=Ni r k p u x (by simpa using hp) hx;have hl:(P6 q).length=3:=rfl;rw[List.set_cons_succ,E4,E4,← ih,List.set_append_right _ _ (by rw[hl];omega),hl,show (k+1)*3+2-3=k*3+2 by omega]
set_option maxHeartbeats 2000000 in
theorem Sd(ss:List BA)(v:Value)(nm:BA)(w:World)(h:GL w v ss)(hn:ss.length<=1000):
  Calls prog 32 #[v,Tz nm] w λe w'=>(∃u,e=.returned u/\GL w' u (U7 ss nm)/\(u=v/\U7 ss nm=ss∨G3 w' w.heap.size u (U7 ss nm)))/\Up w w':=by
 have hT:=h;obtain⟨g,c,rfl,hS,hg,hc,b0⟩:=h;unfold maxLen at b0;obtain⟨ii,hi,a1,a2,a3⟩:=info_parts Bg;have HT:Hid (GL w (Sz g ss.length c) ss):=hT;clear hT;go_in;go_wp2_with fail;go_loop [5] (λi=>∃k:Nat,k<=ss.length/\i=.int .i64 k/\Oy ss nm k) (λi=>ss.length-(intOf i).toNat)
 case atStart=>exact⟨0,by omega,rfl,λj s hj=>by omega⟩
 case round =>
  obtain⟨k,hk,rfl,a4⟩:=hrel;have Hlow:Hid (Oy ss nm k):=a4;clear a4;by_cases hp:k<ss.length
  ·have c0:=hS k ss[k] (by simp[hp]);simp only[Nat.zero_add] at c0;cases hl:Op.bytesLess (ss[k]).toList nm.toList
   case true =>
    have Hl:Hid (FL ss[k] nm=true):=hl;go_wp2_with fail;go_round
    case rel=>exact⟨k+1,by omega,by go_num,Yg Hlow.out hp Hl.out⟩
    case measure=>simp[intOf];omega
   have Hl:Hid (FL ss[k] nm=false):=hl;cases hq:((ss[k]).toList==nm.toList)
   case true =>
    have Hq:Hid (U7 ss nm=ss):=RS ss nm k Hlow.out ⟨ss[k],by simp[hp],Hl.out,hq⟩;go_wp2_with fail;go_ret;exact⟨⟨_,rfl,by rw[Hq.out];exact HT.out,.inl ⟨rfl,Hq.out⟩⟩,A4 _ _⟩
   have Hq:Hid (U7 ss nm=ss.take k++nm::ss.drop k):=Mj ss nm k Hlow.out hk (λs hs=>by
    obtain⟨_,rfl⟩:=A2.1 hs;exact⟨Hl.out,hq⟩)
   go_wp2_with fail
   obtain⟨o2,a0⟩:∃o2:Nat,(if c=k then some (⟨g,0,none⟩:Addr) else some ⟨g,k,none⟩)=some ⟨g,o2,none⟩/\N3 w g o2 (ss.drop k):=by
    by_cases h7:c=k
    ·exact⟨0,by rw[if_pos h7],λi s hs=>by
      have:=(A2.1 hs).1;simp at this;omega⟩
    ·exact⟨k,by rw[if_neg h7],by have:=hS.drop k;simpa using this⟩
   obtain⟨a0,-⟩:=a0;have Nb:((w.alloc (Kz [] 9)).alloc (Kz [Tz nm] 9)).drew.cell? ⟨w.heap.size+1,0,none⟩=some (Tz nm):=by simp[go_sem]
   have a6:some (w.heap.size+1)≠(Vz (some ⟨w.heap.size,0,none⟩) 0 0).ownBlock:=by simp[Value.ownBlock]
   have Nc:((w.alloc (Kz [Tz nm] 9)).alloc (Kz [] 9)).drew.cell? ⟨w.heap.size,0,none⟩=some (Tz nm):=by simp[go_sem]
   have a7:some w.heap.size≠(Vz (some ⟨w.heap.size+1,0,none⟩) 0 0).ownBlock:=by simp[Value.ownBlock]
   have b1:k<=c:=by omega
   have Fa:=(IU hS (A4 w.heap.size w)).drew;have Fb:=((IU hS (A4 w.heap.size w)).alloc (Kz [Tz nm] 9)).drew;have Fc:=(IU (hS.alloc (Kz [Tz nm] 9)) ((A4 w.heap.size w).alloc (A3 _) (Kz [Tz nm] 9))).drew;rw[show (w.alloc (Kz [Tz nm] 9)).heap.size=w.heap.size+1 by simp] at Fc
   go_region_law (first
    | (revert h2;intro h2;refine O3 rfl _ _ 23 rfl w.heap.size 9 ii _ 1 16 underlying23 hi a1 a2 a3 rfl (by decide) _ _ _ rfl h2.1 ⟨g,o2,none⟩ (ss.length-k) _ ((ss.drop k).map Value.string) rfl (by simp) (CD (Pu h2.2.1 a0 hc)) (Mc _) (by unfold maxLen;omega) (by omega) h2.2.2.size ?_;intro v3 w3 hown3 hgrow3;have h3:=h2.grow hg hgrow3 hown3;clear h2 hown3 hgrow3)
    | (revert h1;intro h1;refine O3 rfl _ _ 23 rfl w.heap.size 9 ii _ 1 16 underlying23 hi a1 a2 a3 rfl (by decide) _ _ _ rfl (by first|exact h1.1|exact (h1.alloc _).1) _ 1 1 [Tz nm] rfl rfl (by first|exact BZ _ _ _|exact Uo a5) (Gk nm) (by unfold maxLen;omega) (by omega) (by first|exact h1.2.2.size|exact (h1.alloc _).2.2.size) ?_;intro v2 w2 hown2 hgrow2;first|have h2:=h1.grow hg hgrow2 hown2|have h2:=(h1.alloc _).grow hg hgrow2 hown2;clear h1 hown2 hgrow2)
    | (refine O3 rfl _ _ 23 rfl w.heap.size 9 ii _ 1 16 underlying23 hi a1 a2 a3 rfl (by decide) _ 0 [] rfl (by first|exact Fa.1|exact Fb.1|exact Fc.1) ⟨g,0,none⟩ k _ ((ss.take k).map Value.string) rfl (by simp;omega) (by first|exact CD (Fa.2.1.take k)|exact CD (Fb.2.1.take k)|exact CD (Fc.2.1.take k)) (Mc _) (by unfold maxLen;omega) (by omega) (by first|exact Fa.2.2.size|exact Fb.2.2.size|exact Fc.2.2.size) ?_;intro v1 w1 hown1 hgrow1;first|(have h1:=Fa.grow hg hgrow1 hown1)|(have h1:=Fb.grow hg hgrow1 hown1;have a5:=hgrow1.cell Nb a6)|(have h1:=Fc.grow hg hgrow1 hown1;have a5:=hgrow1.cell Nc a7);clear hown1 hgrow1))
   all_goals
    have HT3:GL w3 v3 (U7 ss nm):=by
     rw[Hq.out];exact GL.own (n:=0+k+1+(ss.length-k)) (by simpa using h3.1) (by simp;omega) (U5 h3.1 (by omega))
    have a8:G3 w3 w.heap.size v3 (U7 ss nm):=by
     unfold G3;rw[Hq.out];have:=h3.1;have e1:(ss.take k++nm::ss.drop k).length=0+k+1+(ss.length-k):=by simp;omega
     rw[e1];simpa using this
    have a9:=h3.2.2;clear h3;go_wp2_with fail;go_ret;exact⟨⟨_,rfl,HT3,.inr a8⟩,a9⟩
  ·have Hq:Hid (U7 ss nm=ss.take k++nm::ss.drop k):=Mj ss nm k Hlow.out hk (λs hs=>by
    have:=(A2.1 hs).1;omega)
   go_wp2_with fail
   obtain⟨o2,a0⟩:∃o2:Nat,(if c=k then some (⟨g,0,none⟩:Addr) else some ⟨g,k,none⟩)=some ⟨g,o2,none⟩/\N3 w g o2 (ss.drop k):=by
    by_cases h7:c=k
    ·exact⟨0,by rw[if_pos h7],λi s hs=>by
      have:=(A2.1 hs).1;simp at this;omega⟩
    ·exact⟨k,by rw[if_neg h7],by have:=hS.drop k;simpa using this⟩
   obtain⟨a0,-⟩:=a0;have Nb:((w.alloc (Kz [] 9)).alloc (Kz [Tz nm] 9)).drew.cell? ⟨w.heap.size+1,0,none⟩=some (Tz nm):=by simp[go_sem]
   have a6:some (w.heap.size+1)≠(Vz (some ⟨w.heap.size,0,none⟩) 0 0).ownBlock:=by simp[Value.ownBlock]
   have Nc:((w.alloc (Kz [Tz nm] 9)).alloc (Kz [] 9)).drew.cell? ⟨w.heap.size,0,none⟩=some (Tz nm):=by simp[go_sem]
   have a7:some w.heap.size≠(Vz (some ⟨w.heap.size+1,0,none⟩) 0 0).ownBlock:=by simp[Value.ownBlock]
   have b1:k<=c:=by omega
   have Fa:=(IU hS (A4 w.heap.size w)).drew;have Fb:=((IU hS (A4 w.heap.size w)).alloc (Kz [Tz nm] 9)).drew;have Fc:=(IU (hS.alloc (Kz [Tz nm] 9)) ((A4 w.heap.size w).alloc (A3 _) (Kz [Tz nm] 9))).drew;rw[show (w.alloc (Kz [Tz nm] 9)).heap.size=w.heap.size+1 by simp] at Fc
   go_region_law (first
    | (revert h2;intro h2;refine O3 rfl _ _ 23 rfl w.heap.size 9 ii _ 1 16 underlying23 hi a1 a2 a3 rfl (by decide) _ _ _ rfl h2.1 ⟨g,o2,none⟩ (ss.length-k) _ ((ss.drop k).map Value.string) rfl (by simp) (CD (Pu h2.2.1 a0 hc)) (Mc _) (by unfold maxLen;omega) (by omega) h2.2.2.size ?_;intro v3 w3 hown3 hgrow3;have h3:=h2.grow hg hgrow3 hown3;clear h2 hown3 hgrow3)
    | (revert h1;intro h1;refine O3 rfl _ _ 23 rfl w.heap.size 9 ii _ 1 16 underlying23 hi a1 a2 a3 rfl (by decide) _ _ _ rfl (by first|exact h1.1|exact (h1.alloc _).1) _ 1 1 [Tz nm] rfl rfl (by first|exact BZ _ _ _|exact Uo a5) (Gk nm) (by unfold maxLen;omega) (by omega) (by first|exact h1.2.2.size|exact (h1.alloc _).2.2.size) ?_;intro v2 w2 hown2 hgrow2;first|have h2:=h1.grow hg hgrow2 hown2|have h2:=(h1.alloc _).grow hg hgrow2 hown2;clear h1 hown2 hgrow2)
    | (refine O3 rfl _ _ 23 rfl w.heap.size 9 ii _ 1 16 underlying23 hi a1 a2 a3 rfl (by decide) _ 0 [] rfl (by first|exact Fa.1|exact Fb.1|exact Fc.1) ⟨g,0,none⟩ k _ ((ss.take k).map Value.string) rfl (by simp;omega) (by first|exact CD (Fa.2.1.take k)|exact CD (Fb.2.1.take k)|exact CD (Fc.2.1.take k)) (Mc _) (by unfold maxLen;omega) (by omega) (by first|exact Fa.2.2.size|exact Fb.2.2.size|exact Fc.2.2.size) ?_;intro v1 w1 hown1 hgrow1;first|(have h1:=Fa.grow hg hgrow1 hown1)|(have h1:=Fb.grow hg hgrow1 hown1;have a5:=hgrow1.cell Nb a6)|(have h1:=Fc.grow hg hgrow1 hown1;have a5:=hgrow1.cell Nc a7);clear hown1 hgrow1))
   all_goals
    have HT3:GL w3 v3 (U7 ss nm):=by
     rw[Hq.out];exact GL.own (n:=0+k+1+(ss.length-k)) (by simpa using h3.1) (by simp;omega) (U5 h3.1 (by omega))
    have a8:G3 w3 w.heap.size v3 (U7 ss nm):=by
     unfold G3;rw[Hq.out];have:=h3.1;have e1:(ss.take k++nm::ss.drop k).length=0+k+1+(ss.length-k):=by simp;omega
     rw[e1];simpa using this
    have a9:=h3.2.2;clear h3;go_wp2_with fail;go_ret;exact⟨⟨_,rfl,HT3,.inr a8⟩,a9⟩
end Go.Proofs.YtcgkgmmclfeohaaGreatDoor
