/- Runs carried over, 7b: the entries of reflectlite that errors.As comes to. -/
import Derived.Test.YtmfjakieahkacaaGreatDoorJ21
import Derived.Test.YtmfjakieahkacaaGreatDoorDn0
namespace Go.Proofs.YtmfjakieahkacaaGreatDoor
open Go.Conc Go.Extern
section
variable {P:Program} {X:Nat->Prop} {α β:Type}
theorem M2(h:Value):D0 P X (Rtype.ofHandle h):=by
 unfold Rtype.ofHandle;repeat' first|(with_reducible first|exact D0.pure' _|exact D0.pure _|exact D0.halt _|assumption|exact D4 _|exact F8 _|exact H0 _|exact F5 _|exact F9 _|exact I2 _|exact E7 _ _|exact D9 _ _ _|exact D8 _ _|exact D5 _ _ _|exact I4 _ _|exact H7 _ _|exact G0 _|exact G7 _ _ _|exact E4 _|exact E2 _ _ _ _|exact E9 _|exact I5 _|exact G1 _|exact I6 _|exact F2 _|exact G5 _|exact G2 _|exact G8 _|exact E1 _|exact G6 _ _|exact F1 _ _ _|exact F3 _|exact I0 _ _ _|exact F4 _|exact N1 _|exact M6 _|exact K6 _ _|exact J7 _ _|refine D6 ?_|refine D0.bind ?_ (λ_=>?_))|((with_reducible refine E8 _ ?_)<;>rfl)|((with_reducible refine H6 _ _ ?_)<;>rfl)|(dsimp only)|split
theorem R5(t:TypeId):D0 P X (Rtype.handle t):=by
 unfold Rtype.handle;repeat' first|(with_reducible first|exact D0.pure' _|exact D0.pure _|exact D0.halt _|assumption|exact D4 _|exact F8 _|exact H0 _|exact F5 _|exact F9 _|exact I2 _|exact E7 _ _|exact D9 _ _ _|exact D8 _ _|exact D5 _ _ _|exact I4 _ _|exact H7 _ _|exact G0 _|exact G7 _ _ _|exact E4 _|exact E2 _ _ _ _|exact E9 _|exact I5 _|exact G1 _|exact I6 _|exact F2 _|exact G5 _|exact G2 _|exact G8 _|exact E1 _|exact G6 _ _|exact F1 _ _ _|exact F3 _|exact I0 _ _ _|exact F4 _|exact N1 _|exact M6 _|exact K6 _ _|exact J7 _ _|exact M2 _|refine D6 ?_|refine D0.bind ?_ (λ_=>?_))|((with_reducible refine E8 _ ?_)<;>rfl)|((with_reducible refine H6 _ _ ?_)<;>rfl)|(dsimp only)|split
theorem P7(s:String)(t:TypeId):D0 P X (Rtype.noPack s t):=by
 unfold Rtype.noPack;repeat' first|(with_reducible first|exact D0.pure' _|exact D0.pure _|exact D0.halt _|assumption|exact D4 _|exact F8 _|exact H0 _|exact F5 _|exact F9 _|exact I2 _|exact E7 _ _|exact D9 _ _ _|exact D8 _ _|exact D5 _ _ _|exact I4 _ _|exact H7 _ _|exact G0 _|exact G7 _ _ _|exact E4 _|exact E2 _ _ _ _|exact E9 _|exact I5 _|exact G1 _|exact I6 _|exact F2 _|exact G5 _|exact G2 _|exact G8 _|exact E1 _|exact G6 _ _|exact F1 _ _ _|exact F3 _|exact I0 _ _ _|exact F4 _|exact N1 _|exact M6 _|exact K6 _ _|exact J7 _ _|exact M2 _|exact R5 _|refine D6 ?_|refine D0.bind ?_ (λ_=>?_))|((with_reducible refine E8 _ ?_)<;>rfl)|((with_reducible refine H6 _ _ ?_)<;>rfl)|(dsimp only)|split
theorem P9(s:String)(t:TypeId):D0 P X (Rtype.noPackNamed s t):=by
 unfold Rtype.noPackNamed;repeat' first|(with_reducible first|exact D0.pure' _|exact D0.pure _|exact D0.halt _|assumption|exact D4 _|exact F8 _|exact H0 _|exact F5 _|exact F9 _|exact I2 _|exact E7 _ _|exact D9 _ _ _|exact D8 _ _|exact D5 _ _ _|exact I4 _ _|exact H7 _ _|exact G0 _|exact G7 _ _ _|exact E4 _|exact E2 _ _ _ _|exact E9 _|exact I5 _|exact G1 _|exact I6 _|exact F2 _|exact G5 _|exact G2 _|exact G8 _|exact E1 _|exact G6 _ _|exact F1 _ _ _|exact F3 _|exact I0 _ _ _|exact F4 _|exact N1 _|exact M6 _|exact K6 _ _|exact J7 _ _|exact M2 _|exact R5 _|exact P7 _ _|refine D6 ?_|refine D0.bind ?_ (λ_=>?_))|((with_reducible refine E8 _ ?_)<;>rfl)|((with_reducible refine H6 _ _ ?_)<;>rfl)|(dsimp only)|split
theorem R7(s:String)(t:TypeId):D0 P X (Rtype.noPackMethods s t):=by
 unfold Rtype.noPackMethods;repeat' first|(with_reducible first|exact D0.pure' _|exact D0.pure _|exact D0.halt _|assumption|exact D4 _|exact F8 _|exact H0 _|exact F5 _|exact F9 _|exact I2 _|exact E7 _ _|exact D9 _ _ _|exact D8 _ _|exact D5 _ _ _|exact I4 _ _|exact H7 _ _|exact G0 _|exact G7 _ _ _|exact E4 _|exact E2 _ _ _ _|exact E9 _|exact I5 _|exact G1 _|exact I6 _|exact F2 _|exact G5 _|exact G2 _|exact G8 _|exact E1 _|exact G6 _ _|exact F1 _ _ _|exact F3 _|exact I0 _ _ _|exact F4 _|exact N1 _|exact M6 _|exact K6 _ _|exact J7 _ _|exact M2 _|exact R5 _|exact P7 _ _|exact P9 _ _|refine D6 ?_|refine D0.bind ?_ (λ_=>?_))|((with_reducible refine E8 _ ?_)<;>rfl)|((with_reducible refine H6 _ _ ?_)<;>rfl)|(dsimp only)|split
theorem Y5(t:TypeId):D0 P X (Rtype.spelt t):=by
 unfold Rtype.spelt;repeat' first|(with_reducible first|exact D0.pure' _|exact D0.pure _|exact D0.halt _|assumption|exact D4 _|exact F8 _|exact H0 _|exact F5 _|exact F9 _|exact I2 _|exact E7 _ _|exact D9 _ _ _|exact D8 _ _|exact D5 _ _ _|exact I4 _ _|exact H7 _ _|exact G0 _|exact G7 _ _ _|exact E4 _|exact E2 _ _ _ _|exact E9 _|exact I5 _|exact G1 _|exact I6 _|exact F2 _|exact G5 _|exact G2 _|exact G8 _|exact E1 _|exact G6 _ _|exact F1 _ _ _|exact F3 _|exact I0 _ _ _|exact F4 _|exact N1 _|exact M6 _|exact K6 _ _|exact J7 _ _|exact M2 _|exact R5 _|exact P7 _ _|exact P9 _ _|exact R7 _ _|refine D6 ?_|refine D0.bind ?_ (λ_=>?_))|((with_reducible refine E8 _ ?_)<;>rfl)|((with_reducible refine H6 _ _ ?_)<;>rfl)|(dsimp only)|split
theorem Z2(t:TypeId):D0 P X (Rtype.under t):=by
 unfold Rtype.under;repeat' first|(with_reducible first|exact D0.pure' _|exact D0.pure _|exact D0.halt _|assumption|exact D4 _|exact F8 _|exact H0 _|exact F5 _|exact F9 _|exact I2 _|exact E7 _ _|exact D9 _ _ _|exact D8 _ _|exact D5 _ _ _|exact I4 _ _|exact H7 _ _|exact G0 _|exact G7 _ _ _|exact E4 _|exact E2 _ _ _ _|exact E9 _|exact I5 _|exact G1 _|exact I6 _|exact F2 _|exact G5 _|exact G2 _|exact G8 _|exact E1 _|exact G6 _ _|exact F1 _ _ _|exact F3 _|exact I0 _ _ _|exact F4 _|exact N1 _|exact M6 _|exact K6 _ _|exact J7 _ _|exact M2 _|exact R5 _|exact P7 _ _|exact P9 _ _|exact R7 _ _|exact Y5 _|refine D6 ?_|refine D0.bind ?_ (λ_=>?_))|((with_reducible refine E8 _ ?_)<;>rfl)|((with_reducible refine H6 _ _ ?_)<;>rfl)|(dsimp only)|split
theorem AB(t:TypeId):D0 P X (Rtype.kind t):=by
 unfold Rtype.kind;repeat' first|(with_reducible first|exact D0.pure' _|exact D0.pure _|exact D0.halt _|assumption|exact D4 _|exact F8 _|exact H0 _|exact F5 _|exact F9 _|exact I2 _|exact E7 _ _|exact D9 _ _ _|exact D8 _ _|exact D5 _ _ _|exact I4 _ _|exact H7 _ _|exact G0 _|exact G7 _ _ _|exact E4 _|exact E2 _ _ _ _|exact E9 _|exact I5 _|exact G1 _|exact I6 _|exact F2 _|exact G5 _|exact G2 _|exact G8 _|exact E1 _|exact G6 _ _|exact F1 _ _ _|exact F3 _|exact I0 _ _ _|exact F4 _|exact N1 _|exact M6 _|exact K6 _ _|exact J7 _ _|exact M2 _|exact R5 _|exact P7 _ _|exact P9 _ _|exact R7 _ _|exact Y5 _|exact Z2 _|refine D6 ?_|refine D0.bind ?_ (λ_=>?_))|((with_reducible refine E8 _ ?_)<;>rfl)|((with_reducible refine H6 _ _ ?_)<;>rfl)|(dsimp only)|split
theorem V7(t:TypeId):D0 P X (Rtype.hasName t):=by
 unfold Rtype.hasName;repeat' first|(with_reducible first|exact D0.pure' _|exact D0.pure _|exact D0.halt _|assumption|exact D4 _|exact F8 _|exact H0 _|exact F5 _|exact F9 _|exact I2 _|exact E7 _ _|exact D9 _ _ _|exact D8 _ _|exact D5 _ _ _|exact I4 _ _|exact H7 _ _|exact G0 _|exact G7 _ _ _|exact E4 _|exact E2 _ _ _ _|exact E9 _|exact I5 _|exact G1 _|exact I6 _|exact F2 _|exact G5 _|exact G2 _|exact G8 _|exact E1 _|exact G6 _ _|exact F1 _ _ _|exact F3 _|exact I0 _ _ _|exact F4 _|exact N1 _|exact M6 _|exact K6 _ _|exact J7 _ _|exact M2 _|exact R5 _|exact P7 _ _|exact P9 _ _|exact R7 _ _|exact Y5 _|exact Z2 _|exact AB _|refine D6 ?_|refine D0.bind ?_ (λ_=>?_))|((with_reducible refine E8 _ ?_)<;>rfl)|((with_reducible refine H6 _ _ ?_)<;>rfl)|(dsimp only)|split
theorem AF(t:TypeId):D0 P X (Rtype.elem? t):=by
 unfold Rtype.elem?;repeat' first|(with_reducible first|exact D0.pure' _|exact D0.pure _|exact D0.halt _|assumption|exact D4 _|exact F8 _|exact H0 _|exact F5 _|exact F9 _|exact I2 _|exact E7 _ _|exact D9 _ _ _|exact D8 _ _|exact D5 _ _ _|exact I4 _ _|exact H7 _ _|exact G0 _|exact G7 _ _ _|exact E4 _|exact E2 _ _ _ _|exact E9 _|exact I5 _|exact G1 _|exact I6 _|exact F2 _|exact G5 _|exact G2 _|exact G8 _|exact E1 _|exact G6 _ _|exact F1 _ _ _|exact F3 _|exact I0 _ _ _|exact F4 _|exact N1 _|exact M6 _|exact K6 _ _|exact J7 _ _|exact M2 _|exact R5 _|exact P7 _ _|exact P9 _ _|exact R7 _ _|exact Y5 _|exact Z2 _|exact AB _|exact V7 _|refine D6 ?_|refine D0.bind ?_ (λ_=>?_))|((with_reducible refine E8 _ ?_)<;>rfl)|((with_reducible refine H6 _ _ ?_)<;>rfl)|(dsimp only)|split
theorem BU(a b:TypeId):D0 P X (Rtype.implements a b):=by
 unfold Rtype.implements;repeat' first|(with_reducible first|exact D0.pure' _|exact D0.pure _|exact D0.halt _|assumption|exact D4 _|exact F8 _|exact H0 _|exact F5 _|exact F9 _|exact I2 _|exact E7 _ _|exact D9 _ _ _|exact D8 _ _|exact D5 _ _ _|exact I4 _ _|exact H7 _ _|exact G0 _|exact G7 _ _ _|exact E4 _|exact E2 _ _ _ _|exact E9 _|exact I5 _|exact G1 _|exact I6 _|exact F2 _|exact G5 _|exact G2 _|exact G8 _|exact E1 _|exact G6 _ _|exact F1 _ _ _|exact F3 _|exact I0 _ _ _|exact F4 _|exact N1 _|exact M6 _|exact K6 _ _|exact J7 _ _|exact M2 _|exact R5 _|exact P7 _ _|exact P9 _ _|exact R7 _ _|exact Y5 _|exact Z2 _|exact AB _|exact V7 _|exact AF _|refine D6 ?_|refine D0.bind ?_ (λ_=>?_))|((with_reducible refine E8 _ ?_)<;>rfl)|((with_reducible refine H6 _ _ ?_)<;>rfl)|(dsimp only)|split
theorem Cn(a b:TypeId):D0 P X (Rtype.directlyAssignable a b):=by
 unfold Rtype.directlyAssignable;repeat' first|(with_reducible first|exact D0.pure' _|exact D0.pure _|exact D0.halt _|assumption|exact D4 _|exact F8 _|exact H0 _|exact F5 _|exact F9 _|exact I2 _|exact E7 _ _|exact D9 _ _ _|exact D8 _ _|exact D5 _ _ _|exact I4 _ _|exact H7 _ _|exact G0 _|exact G7 _ _ _|exact E4 _|exact E2 _ _ _ _|exact E9 _|exact I5 _|exact G1 _|exact I6 _|exact F2 _|exact G5 _|exact G2 _|exact G8 _|exact E1 _|exact G6 _ _|exact F1 _ _ _|exact F3 _|exact I0 _ _ _|exact F4 _|exact N1 _|exact M6 _|exact K6 _ _|exact J7 _ _|exact M2 _|exact R5 _|exact P7 _ _|exact P9 _ _|exact R7 _ _|exact Y5 _|exact Z2 _|exact AB _|exact V7 _|exact AF _|exact BU _ _|refine D6 ?_|refine D0.bind ?_ (λ_=>?_))|((with_reducible refine E8 _ ?_)<;>rfl)|((with_reducible refine H6 _ _ ?_)<;>rfl)|(dsimp only)|split
theorem Ax(s:String):D0 P X (cutType s):=by
 unfold cutType;repeat' first|(with_reducible first|exact D0.pure' _|exact D0.pure _|exact D0.halt _|assumption|exact D4 _|exact F8 _|exact H0 _|exact F5 _|exact F9 _|exact I2 _|exact E7 _ _|exact D9 _ _ _|exact D8 _ _|exact D5 _ _ _|exact I4 _ _|exact H7 _ _|exact G0 _|exact G7 _ _ _|exact E4 _|exact E2 _ _ _ _|exact E9 _|exact I5 _|exact G1 _|exact I6 _|exact F2 _|exact G5 _|exact G2 _|exact G8 _|exact E1 _|exact G6 _ _|exact F1 _ _ _|exact F3 _|exact I0 _ _ _|exact F4 _|exact N1 _|exact M6 _|exact K6 _ _|exact J7 _ _|exact M2 _|exact R5 _|exact P7 _ _|exact P9 _ _|exact R7 _ _|exact Y5 _|exact Z2 _|exact AB _|exact V7 _|exact AF _|exact BU _ _|exact Cn _ _|refine D6 ?_|refine D0.bind ?_ (λ_=>?_))|((with_reducible refine E8 _ ?_)<;>rfl)|((with_reducible refine H6 _ _ ?_)<;>rfl)|(dsimp only)|split
theorem Ab(v:Value):D0 P X (goPanic v:Sem α):=D0.halt _
theorem AY(s:String):D0 P X (panicString s:Sem α):=by
 unfold panicString;repeat' first|(with_reducible first|exact D0.pure' _|exact D0.pure _|exact D0.halt _|assumption|exact D4 _|exact F8 _|exact H0 _|exact F5 _|exact F9 _|exact I2 _|exact E7 _ _|exact D9 _ _ _|exact D8 _ _|exact D5 _ _ _|exact I4 _ _|exact H7 _ _|exact G0 _|exact G7 _ _ _|exact E4 _|exact E2 _ _ _ _|exact E9 _|exact I5 _|exact G1 _|exact I6 _|exact F2 _|exact G5 _|exact G2 _|exact G8 _|exact E1 _|exact G6 _ _|exact F1 _ _ _|exact F3 _|exact I0 _ _ _|exact F4 _|exact N1 _|exact M6 _|exact K6 _ _|exact J7 _ _|exact Ab _|exact M2 _|exact R5 _|exact P7 _ _|exact P9 _ _|exact R7 _ _|exact Y5 _|exact Z2 _|exact AB _|exact V7 _|exact AF _|exact BU _ _|exact Cn _ _|exact Ax _|refine D6 ?_|refine D0.bind ?_ (λ_=>?_))|((with_reducible refine E8 _ ?_)<;>rfl)|((with_reducible refine H6 _ _ ?_)<;>rfl)|(dsimp only)|split
theorem AZ(t:TypeId):D0 P X (ReflectliteType.toType t):=by
 unfold ReflectliteType.toType;repeat' first|(with_reducible first|exact D0.pure' _|exact D0.pure _|exact D0.halt _|assumption|exact D4 _|exact F8 _|exact H0 _|exact F5 _|exact F9 _|exact I2 _|exact E7 _ _|exact D9 _ _ _|exact D8 _ _|exact D5 _ _ _|exact I4 _ _|exact H7 _ _|exact G0 _|exact G7 _ _ _|exact E4 _|exact E2 _ _ _ _|exact E9 _|exact I5 _|exact G1 _|exact I6 _|exact F2 _|exact G5 _|exact G2 _|exact G8 _|exact E1 _|exact G6 _ _|exact F1 _ _ _|exact F3 _|exact I0 _ _ _|exact F4 _|exact N1 _|exact M6 _|exact K6 _ _|exact J7 _ _|exact M2 _|exact R5 _|exact P7 _ _|exact P9 _ _|exact R7 _ _|exact Y5 _|exact Z2 _|exact AB _|exact V7 _|exact AF _|exact BU _ _|exact Cn _ _|exact Ax _|exact AY _|exact Ab _|refine D6 ?_|refine D0.bind ?_ (λ_=>?_))|((with_reducible refine E8 _ ?_)<;>rfl)|((with_reducible refine H6 _ _ ?_)<;>rfl)|(dsimp only)|split
theorem Ac(v:Value):D0 P X (ReflectliteType.ofRtype v):=by
 cases v<;>first|exact D4 _|skip
 rename_i a;obtain⟨l⟩:=a;rcases l with _|⟨x,_|⟨y,l⟩⟩
 ·exact D4 _
 ·exact D0.bind (M2 x) λt=>D0.bind (P7 _ t) λ_=>D0.pure' _
 ·exact D4 _
theorem CF(t:TypeId):D0 P X (ReflectliteType.elem t):=by
 unfold ReflectliteType.elem;repeat' first|(with_reducible first|exact D0.pure' _|exact D0.pure _|exact D0.halt _|assumption|exact D4 _|exact F8 _|exact H0 _|exact F5 _|exact F9 _|exact I2 _|exact E7 _ _|exact D9 _ _ _|exact D8 _ _|exact D5 _ _ _|exact I4 _ _|exact H7 _ _|exact G0 _|exact G7 _ _ _|exact E4 _|exact E2 _ _ _ _|exact E9 _|exact I5 _|exact G1 _|exact I6 _|exact F2 _|exact G5 _|exact G2 _|exact G8 _|exact E1 _|exact G6 _ _|exact F1 _ _ _|exact F3 _|exact I0 _ _ _|exact F4 _|exact N1 _|exact M6 _|exact K6 _ _|exact J7 _ _|exact M2 _|exact R5 _|exact P7 _ _|exact P9 _ _|exact R7 _ _|exact Y5 _|exact Z2 _|exact AB _|exact V7 _|exact AF _|exact BU _ _|exact Cn _ _|exact Ax _|exact AY _|exact Ab _|exact AZ _|exact Ac _|refine D6 ?_|refine D0.bind ?_ (λ_=>?_))|((with_reducible refine E8 _ ?_)<;>rfl)|((with_reducible refine H6 _ _ ?_)<;>rfl)|(dsimp only)|split
theorem Am(a b:TypeId):D0 P X (ReflectliteType.implements_ a b):=by
 unfold ReflectliteType.implements_;repeat' first|(with_reducible first|exact D0.pure' _|exact D0.pure _|exact D0.halt _|assumption|exact D4 _|exact F8 _|exact H0 _|exact F5 _|exact F9 _|exact I2 _|exact E7 _ _|exact D9 _ _ _|exact D8 _ _|exact D5 _ _ _|exact I4 _ _|exact H7 _ _|exact G0 _|exact G7 _ _ _|exact E4 _|exact E2 _ _ _ _|exact E9 _|exact I5 _|exact G1 _|exact I6 _|exact F2 _|exact G5 _|exact G2 _|exact G8 _|exact E1 _|exact G6 _ _|exact F1 _ _ _|exact F3 _|exact I0 _ _ _|exact F4 _|exact N1 _|exact M6 _|exact K6 _ _|exact J7 _ _|exact M2 _|exact R5 _|exact P7 _ _|exact P9 _ _|exact R7 _ _|exact Y5 _|exact Z2 _|exact AB _|exact V7 _|exact AF _|exact BU _ _|exact Cn _ _|exact Ax _|exact AY _|exact Ab _|exact AZ _|exact Ac _|exact CF _|refine D6 ?_|refine D0.bind ?_ (λ_=>?_))|((with_reducible refine E8 _ ?_)<;>rfl)|((with_reducible refine H6 _ _ ?_)<;>rfl)|(dsimp only)|split
theorem AP(a b:TypeId):D0 P X (ReflectliteType.assignableTo a b):=by
 unfold ReflectliteType.assignableTo;repeat' first|(with_reducible first|exact D0.pure' _|exact D0.pure _|exact D0.halt _|assumption|exact D4 _|exact F8 _|exact H0 _|exact F5 _|exact F9 _|exact I2 _|exact E7 _ _|exact D9 _ _ _|exact D8 _ _|exact D5 _ _ _|exact I4 _ _|exact H7 _ _|exact G0 _|exact G7 _ _ _|exact E4 _|exact E2 _ _ _ _|exact E9 _|exact I5 _|exact G1 _|exact I6 _|exact F2 _|exact G5 _|exact G2 _|exact G8 _|exact E1 _|exact G6 _ _|exact F1 _ _ _|exact F3 _|exact I0 _ _ _|exact F4 _|exact N1 _|exact M6 _|exact K6 _ _|exact J7 _ _|exact M2 _|exact R5 _|exact P7 _ _|exact P9 _ _|exact R7 _ _|exact Y5 _|exact Z2 _|exact AB _|exact V7 _|exact AF _|exact BU _ _|exact Cn _ _|exact Ax _|exact AY _|exact Ab _|exact AZ _|exact Ac _|exact CF _|exact Am _ _|refine D6 ?_|refine D0.bind ?_ (λ_=>?_))|((with_reducible refine E8 _ ?_)<;>rfl)|((with_reducible refine H6 _ _ ?_)<;>rfl)|(dsimp only)|split
theorem JF(t:TypeId)(a:Addr)(n:Nat):D0 P X (ReflectliteValue.mk t a n):=by
 unfold ReflectliteValue.mk;repeat' first|(with_reducible first|exact D0.pure' _|exact D0.pure _|exact D0.halt _|assumption|exact D4 _|exact F8 _|exact H0 _|exact F5 _|exact F9 _|exact I2 _|exact E7 _ _|exact D9 _ _ _|exact D8 _ _|exact D5 _ _ _|exact I4 _ _|exact H7 _ _|exact G0 _|exact G7 _ _ _|exact E4 _|exact E2 _ _ _ _|exact E9 _|exact I5 _|exact G1 _|exact I6 _|exact F2 _|exact G5 _|exact G2 _|exact G8 _|exact E1 _|exact G6 _ _|exact F1 _ _ _|exact F3 _|exact I0 _ _ _|exact F4 _|exact N1 _|exact M6 _|exact K6 _ _|exact J7 _ _|exact M2 _|exact R5 _|exact P7 _ _|exact P9 _ _|exact R7 _ _|exact Y5 _|exact Z2 _|exact AB _|exact V7 _|exact AF _|exact BU _ _|exact Cn _ _|exact Ax _|exact AY _|exact Ab _|exact AZ _|exact Ac _|exact CF _|exact Am _ _|exact AP _ _|refine D6 ?_|refine D0.bind ?_ (λ_=>?_))|((with_reducible refine E8 _ ?_)<;>rfl)|((with_reducible refine H6 _ _ ?_)<;>rfl)|(dsimp only)|split
theorem Er(v:Value):D0 P X (ReflectliteValue.unpack v):=by
 unfold ReflectliteValue.unpack;repeat' first|(with_reducible first|exact D0.pure' _|exact D0.pure _|exact D0.halt _|assumption|exact D4 _|exact F8 _|exact H0 _|exact F5 _|exact F9 _|exact I2 _|exact E7 _ _|exact D9 _ _ _|exact D8 _ _|exact D5 _ _ _|exact I4 _ _|exact H7 _ _|exact G0 _|exact G7 _ _ _|exact E4 _|exact E2 _ _ _ _|exact E9 _|exact I5 _|exact G1 _|exact I6 _|exact F2 _|exact G5 _|exact G2 _|exact G8 _|exact E1 _|exact G6 _ _|exact F1 _ _ _|exact F3 _|exact I0 _ _ _|exact F4 _|exact N1 _|exact M6 _|exact K6 _ _|exact J7 _ _|exact M2 _|exact R5 _|exact P7 _ _|exact P9 _ _|exact R7 _ _|exact Y5 _|exact Z2 _|exact AB _|exact V7 _|exact AF _|exact BU _ _|exact Cn _ _|exact Ax _|exact AY _|exact Ab _|exact AZ _|exact Ac _|exact CF _|exact Am _ _|exact AP _ _|exact JF _ _ _|refine D6 ?_|refine D0.bind ?_ (λ_=>?_))|((with_reducible refine E8 _ ?_)<;>rfl)|((with_reducible refine H6 _ _ ?_)<;>rfl)|(dsimp only)|split
theorem DH(s:String)(k:Nat):D0 P X (ReflectliteValue.valueError s k:Sem α):=by
 unfold ReflectliteValue.valueError;repeat' first|(with_reducible first|exact D0.pure' _|exact D0.pure _|exact D0.halt _|assumption|exact D4 _|exact F8 _|exact H0 _|exact F5 _|exact F9 _|exact I2 _|exact E7 _ _|exact D9 _ _ _|exact D8 _ _|exact D5 _ _ _|exact I4 _ _|exact H7 _ _|exact G0 _|exact G7 _ _ _|exact E4 _|exact E2 _ _ _ _|exact E9 _|exact I5 _|exact G1 _|exact I6 _|exact F2 _|exact G5 _|exact G2 _|exact G8 _|exact E1 _|exact G6 _ _|exact F1 _ _ _|exact F3 _|exact I0 _ _ _|exact F4 _|exact N1 _|exact M6 _|exact K6 _ _|exact J7 _ _|exact M2 _|exact R5 _|exact P7 _ _|exact P9 _ _|exact R7 _ _|exact Y5 _|exact Z2 _|exact AB _|exact V7 _|exact AF _|exact BU _ _|exact Cn _ _|exact Ax _|exact AY _|exact Ab _|exact AZ _|exact Ac _|exact CF _|exact Am _ _|exact AP _ _|exact JF _ _ _|exact Er _|refine D6 ?_|refine D0.bind ?_ (λ_=>?_))|((with_reducible refine E8 _ ?_)<;>rfl)|((with_reducible refine H6 _ _ ?_)<;>rfl)|(dsimp only)|split
theorem FN(v:Value):D0 P X (ReflectliteValue.partsAny v):=by
 cases v<;>first|exact D4 _|skip
 rename_i a;obtain⟨l⟩:=a;rcases l with _|⟨x,_|⟨y,_|⟨z,_|⟨q,l⟩⟩⟩⟩
 ·exact D4 _
 ·exact D4 _
 ·exact D4 _
 ·cases z<;>first|exact D4 _|(cases y<;>first|exact D4 _|(rename_i o;cases o<;>exact D4 _))|skip
  rename_i k n;cases k<;>first|exact D4 _|(cases y<;>first|exact D4 _|(rename_i o;cases o<;>exact D4 _))|skip
  rcases n with (_|m)|m
  ·exact D0.pure' _
  ·cases y<;>first|exact D4 _|skip
   rename_i o;cases o
   ·exact D4 _
   ·exact D0.bind (M2 x) λ_=>D0.pure' _
  ·cases y<;>first|exact D4 _|skip
   rename_i o;cases o
   ·exact D4 _
   ·exact D0.bind (M2 x) λ_=>D0.pure' _
 ·exact D4 _
theorem Fq(v:Value):D0 P X (ReflectliteValue.parts v):=by
 unfold ReflectliteValue.parts;repeat' first|(with_reducible first|exact D0.pure' _|exact D0.pure _|exact D0.halt _|assumption|exact D4 _|exact F8 _|exact H0 _|exact F5 _|exact F9 _|exact I2 _|exact E7 _ _|exact D9 _ _ _|exact D8 _ _|exact D5 _ _ _|exact I4 _ _|exact H7 _ _|exact G0 _|exact G7 _ _ _|exact E4 _|exact E2 _ _ _ _|exact E9 _|exact I5 _|exact G1 _|exact I6 _|exact F2 _|exact G5 _|exact G2 _|exact G8 _|exact E1 _|exact G6 _ _|exact F1 _ _ _|exact F3 _|exact I0 _ _ _|exact F4 _|exact N1 _|exact M6 _|exact K6 _ _|exact J7 _ _|exact M2 _|exact R5 _|exact P7 _ _|exact P9 _ _|exact R7 _ _|exact Y5 _|exact Z2 _|exact AB _|exact V7 _|exact AF _|exact BU _ _|exact Cn _ _|exact Ax _|exact AY _|exact Ab _|exact AZ _|exact Ac _|exact CF _|exact Am _ _|exact AP _ _|exact JF _ _ _|exact Er _|exact DH _ _|exact FN _|refine D6 ?_|refine D0.bind ?_ (λ_=>?_))|((with_reducible refine E8 _ ?_)<;>rfl)|((with_reducible refine H6 _ _ ?_)<;>rfl)|(dsimp only)|split
theorem Mo(t:TypeId)(a:Addr)(x k:Nat):D0 P X (ReflectliteValue.isNil t a x k):=by
 unfold ReflectliteValue.isNil;repeat' first|(with_reducible first|exact D0.pure' _|exact D0.pure _|exact D0.halt _|assumption|exact D4 _|exact F8 _|exact H0 _|exact F5 _|exact F9 _|exact I2 _|exact E7 _ _|exact D9 _ _ _|exact D8 _ _|exact D5 _ _ _|exact I4 _ _|exact H7 _ _|exact G0 _|exact G7 _ _ _|exact E4 _|exact E2 _ _ _ _|exact E9 _|exact I5 _|exact G1 _|exact I6 _|exact F2 _|exact G5 _|exact G2 _|exact G8 _|exact E1 _|exact G6 _ _|exact F1 _ _ _|exact F3 _|exact I0 _ _ _|exact F4 _|exact N1 _|exact M6 _|exact K6 _ _|exact J7 _ _|exact M2 _|exact R5 _|exact P7 _ _|exact P9 _ _|exact R7 _ _|exact Y5 _|exact Z2 _|exact AB _|exact V7 _|exact AF _|exact BU _ _|exact Cn _ _|exact Ax _|exact AY _|exact Ab _|exact AZ _|exact Ac _|exact CF _|exact Am _ _|exact AP _ _|exact JF _ _ _|exact Er _|exact DH _ _|exact FN _|exact Fq _|refine D6 ?_|refine D0.bind ?_ (λ_=>?_))|((with_reducible refine E8 _ ?_)<;>rfl)|((with_reducible refine H6 _ _ ?_)<;>rfl)|(dsimp only)|split
theorem RQ(t:TypeId)(a:Addr)(x k:Nat):D0 P X (ReflectliteValue.elem t a x k):=by
 unfold ReflectliteValue.elem;repeat' first|(with_reducible first|exact D0.pure' _|exact D0.pure _|exact D0.halt _|assumption|exact D4 _|exact F8 _|exact H0 _|exact F5 _|exact F9 _|exact I2 _|exact E7 _ _|exact D9 _ _ _|exact D8 _ _|exact D5 _ _ _|exact I4 _ _|exact H7 _ _|exact G0 _|exact G7 _ _ _|exact E4 _|exact E2 _ _ _ _|exact E9 _|exact I5 _|exact G1 _|exact I6 _|exact F2 _|exact G5 _|exact G2 _|exact G8 _|exact E1 _|exact G6 _ _|exact F1 _ _ _|exact F3 _|exact I0 _ _ _|exact F4 _|exact N1 _|exact M6 _|exact K6 _ _|exact J7 _ _|exact M2 _|exact R5 _|exact P7 _ _|exact P9 _ _|exact R7 _ _|exact Y5 _|exact Z2 _|exact AB _|exact V7 _|exact AF _|exact BU _ _|exact Cn _ _|exact Ax _|exact AY _|exact Ab _|exact AZ _|exact Ac _|exact CF _|exact Am _ _|exact AP _ _|exact JF _ _ _|exact Er _|exact DH _ _|exact FN _|exact Fq _|exact Mo _ _ _ _|refine D6 ?_|refine D0.bind ?_ (λ_=>?_))|((with_reducible refine E8 _ ?_)<;>rfl)|((with_reducible refine H6 _ _ ?_)<;>rfl)|(dsimp only)|split
theorem ZL{f:TypeId->Sem Value}(hf:∀t,D0 P X (f t))(v:Array Value):D0 P X (ReflectliteType.method f v):=by
 obtain⟨l⟩:=v;rcases l with _|⟨x,_|⟨y,l⟩⟩
 ·exact D4 _
 ·exact D0.bind (Ac x) hf
 ·exact D4 _
theorem Vu{f:TypeId->Sem Value}(hf:∀t,D0 P X (f t))(v:Array Value):D0 P X (ReflectliteType.abiMethod f v):=by
 obtain⟨l⟩:=v;rcases l with _|⟨x,_|⟨y,l⟩⟩
 ·exact D4 _
 ·exact D0.bind (M2 x) λt=>D0.bind (P7 _ t) λ_=>hf t
 ·exact D4 _
theorem Lf{what:String}{f:TypeId->TypeId->Sem Bool}(hf:∀a b,D0 P X (f a b))(v:Array Value):D0 P X (ReflectliteType.relation what f v):=by
 obtain⟨l⟩:=v;rcases l with _|⟨x,_|⟨y,_|⟨z,l⟩⟩⟩
 ·exact D4 _
 ·exact D4 _
 ·cases y<;>first|exact D4 _|exact AY _|exact Ab _|skip
  rename_i t u;exact D0.bind (Ac u) λa=>D0.bind (Ac x) λb=>D0.bind (hf a b) λ_=>D0.pure' _
 ·cases y<;>exact D4 _
theorem XD(v:Array Value):D0 P X (ReflectliteType.typeOf v):=by
 obtain⟨l⟩:=v;rcases l with _|⟨x,_|⟨y,l⟩⟩
 ·exact D4 _
 ·cases x<;>first|exact D4 _|exact D0.pure' _|exact AZ _
 ·cases x<;>exact D4 _
theorem Mp{z:Sem Value}{f:TypeId->Addr->Nat->Nat->Sem Value}(hz:D0 P X z)(hf:∀t a m n,D0 P X (f t a m n))(v:Array Value):D0 P X (ReflectliteValue.method z f v):=by
 obtain⟨l⟩:=v;rcases l with _|⟨x,_|⟨y,l⟩⟩
 ·exact D4 _
 ·exact D0.bind (Fq x) λo=>by
   cases o with
   | none=>exact hz
   | some r=>exact hf _ _ _ _
 ·exact D4 _
theorem AaX{z:Sem Value}{f:TypeId->Addr->Nat->Nat->Sem Value}(hz:D0 P X z)(hf:∀t a m n,D0 P X (f t a m n))(v:Array Value):D0 P X (ReflectliteValue.methodAny z f v):=by
 obtain⟨l⟩:=v;rcases l with _|⟨x,_|⟨y,l⟩⟩
 ·exact D4 _
 ·exact D0.bind (FN x) λo=>by
   cases o with
   | none=>exact hz
   | some r=>exact hf _ _ _ _
 ·exact D4 _
theorem AaY(v:Array Value):D0 P X (ReflectliteValue.set v):=by
 obtain⟨l⟩:=v;rcases l with _|⟨x,_|⟨y,_|⟨z,l⟩⟩⟩
 ·exact D4 _
 ·exact D4 _
 ·refine D0.bind (Fq x) λa=>D0.bind (Fq y) λb=>?_;repeat' first|(with_reducible first|exact D0.pure' _|exact D0.pure _|exact D0.halt _|assumption|exact D4 _|exact F8 _|exact H0 _|exact F5 _|exact F9 _|exact I2 _|exact E7 _ _|exact D9 _ _ _|exact D8 _ _|exact D5 _ _ _|exact I4 _ _|exact H7 _ _|exact G0 _|exact G7 _ _ _|exact E4 _|exact E2 _ _ _ _|exact E9 _|exact I5 _|exact G1 _|exact I6 _|exact F2 _|exact G5 _|exact G2 _|exact G8 _|exact E1 _|exact G6 _ _|exact F1 _ _ _|exact F3 _|exact I0 _ _ _|exact F4 _|exact N1 _|exact M6 _|exact K6 _ _|exact J7 _ _|exact M2 _|exact R5 _|exact P7 _ _|exact P9 _ _|exact R7 _ _|exact Y5 _|exact Z2 _|exact AB _|exact V7 _|exact AF _|exact BU _ _|exact Cn _ _|exact Ax _|exact AY _|exact Ab _|exact AZ _|exact Ac _|exact CF _|exact Am _ _|exact AP _ _|exact JF _ _ _|exact Er _|exact DH _ _|exact FN _|exact Fq _|exact Mo _ _ _ _|exact RQ _ _ _ _|refine D6 ?_|refine D0.bind ?_ (λ_=>?_))|((with_reducible refine E8 _ ?_)<;>rfl)|((with_reducible refine H6 _ _ ?_)<;>rfl)|(dsimp only)|split
 ·exact D4 _
end
end Go.Proofs.YtmfjakieahkacaaGreatDoor
namespace Go.Proofs.YtmfjakieahkacaaGreatDoor
open Go.RowKit
theorem Tv(a:Option Addr)(n cap:Nat)(w:World)(h:Y4 w w.heap.size (.slice a n cap) n)(hcap:n<=cap)(_hbig:cap<=maxLen):
  Calls Tryz.prog 34 #[.slice a n cap] w
   λe w'=>(∃(rb len:Nat)(v:Value),e=.returned (.pointer (some ⟨rb,0,none⟩))/\Rd w' rb v len 0/\w.heap.size<=rb)/\Below w.heap.size w w':=by
 by_cases hn:2000<n
 ·go_enter Tryz.func34,Tryz.ntmps34;go_wp2_with fail;go_ret;exact⟨⟨w.heap.size,2000,_,rfl,Pn w _ 2000 _ (h.cut (by omega)) (by omega),A3 _⟩,(A4 _ _).alloc (A3 _) _⟩
 ·go_enter Tryz.func34,Tryz.ntmps34;go_wp2_with fail;go_ret;exact⟨⟨w.heap.size,n,_,rfl,Pn w _ n _ h (by omega),A3 _⟩,(A4 _ _).alloc (A3 _) _⟩
end Go.Proofs.YtmfjakieahkacaaGreatDoor
