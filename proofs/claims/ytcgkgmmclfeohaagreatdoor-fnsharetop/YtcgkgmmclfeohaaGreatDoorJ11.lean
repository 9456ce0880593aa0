/- Runs carried over, 7: the operations whole. -/
import Derived.Test.YtcgkgmmclfeohaaGreatDoorLf6
namespace Go.Proofs.YtcgkgmmclfeohaaGreatDoor
open Go.Conc
section
variable {P:Program} {X:Nat->Prop} {α β:Type}
theorem Kv{t:TypeId}{d:TypeDesc}{f:TypeDesc->Sem α}(h:P.underlying t=some d)(hf:D3 P X (f d)):D3 P X (underlying t >>= f):=by
 refine D3.program ?_;show D3 P X (Sem.bind (match P.underlying t with|some d=>Pure.pure d|none=>stuck "no such type") f)
 rw[h];exact hf
theorem VT(t:TypeId)(m k:Value):D3 P X (Instr.mapEntry t m k):=by
 unfold Instr.mapEntry;repeat' first|(with_reducible first|exact D3.pure' _|exact D3.pure _|exact D3.halt _|assumption|exact D8 _|exact G7 _|exact I7 _|exact G5 _|exact G8 _|exact K1 _|exact F6 _ _|exact E8 _ _ _|exact E5 _ _|exact E1 _ _ _|exact K2 _ _|exact J7 _ _|exact G9 _|exact I0 _ _ _|exact F2 _|exact F1 _ _ _ _|exact F8 _|exact K3 _|exact H0 _|exact K4 _|exact G0 _|exact H7 _|exact H6 _|exact I1 _|exact E9 _|exact H9 _ _|exact F9 _ _ _|exact G1 _|exact K0 _ _ _|exact G2 _|exact Gv _ _ _ _|exact Kq _ _ _|exact IP _ _|refine E2 ?_|refine D3.bind ?_ (λ_=>?_))|exact MH _ (by simp)|((with_reducible refine F7 _ ?_)<;>rfl)|((with_reducible refine I9 _ _ ?_)<;>rfl)|(dsimp only)|split
theorem RE(t:TypeId)(m k v:Value):D3 P X (Instr.entryStore t m k v):=by
 unfold Instr.entryStore;repeat' first|(with_reducible first|exact D3.pure' _|exact D3.pure _|exact D3.halt _|assumption|exact D8 _|exact G7 _|exact I7 _|exact G5 _|exact G8 _|exact K1 _|exact F6 _ _|exact E8 _ _ _|exact E5 _ _|exact E1 _ _ _|exact K2 _ _|exact J7 _ _|exact G9 _|exact I0 _ _ _|exact F2 _|exact F1 _ _ _ _|exact F8 _|exact K3 _|exact H0 _|exact K4 _|exact G0 _|exact H7 _|exact H6 _|exact I1 _|exact E9 _|exact H9 _ _|exact F9 _ _ _|exact G1 _|exact K0 _ _ _|exact G2 _|refine E2 ?_|refine D3.bind ?_ (λ_=>?_))|exact MH _ (by simp)|((with_reducible refine F7 _ ?_)<;>rfl)|((with_reducible refine I9 _ _ ?_)<;>rfl)|(dsimp only)|split
theorem JY:∀(l:List FieldStep)(t:TypeId)(x:Option Value),D3 P X (followBlind l t x)
 | [],_,_=>D3.pure' _
 | s::l,t,x=>by
  have ih:=λt x=>JY l t x;unfold followBlind;repeat' first|(with_reducible first|exact D3.pure' _|exact D3.pure _|exact D3.halt _|assumption|exact D8 _|exact G7 _|exact I7 _|exact G5 _|exact G8 _|exact K1 _|exact F6 _ _|exact E8 _ _ _|exact E5 _ _|exact E1 _ _ _|exact K2 _ _|exact J7 _ _|exact G9 _|exact I0 _ _ _|exact F2 _|exact F1 _ _ _ _|exact F8 _|exact K3 _|exact H0 _|exact K4 _|exact G0 _|exact H7 _|exact H6 _|exact I1 _|exact E9 _|exact H9 _ _|exact F9 _ _ _|exact G1 _|exact K0 _ _ _|exact G2 _|exact ih _ _|refine E2 ?_|refine D3.bind ?_ (λ_=>?_))|((with_reducible refine F7 _ ?_)<;>rfl)|((with_reducible refine I9 _ _ ?_)<;>rfl)|(dsimp only)|split
theorem MV:∀(n:Nat)(t:TypeId)(v:Value)(s:String),D3 P X (nilAhead n t v s)
 | 0,_,_,_=>D3.pure' _
 | n+1,t,v,s=>by
  have ih:=λt v=>MV n t v s;unfold nilAhead;repeat' first|(with_reducible first|exact D3.pure' _|exact D3.pure _|exact D3.halt _|assumption|exact D8 _|exact G7 _|exact I7 _|exact G5 _|exact G8 _|exact K1 _|exact F6 _ _|exact E8 _ _ _|exact E5 _ _|exact E1 _ _ _|exact K2 _ _|exact J7 _ _|exact G9 _|exact I0 _ _ _|exact F2 _|exact F1 _ _ _ _|exact F8 _|exact K3 _|exact H0 _|exact K4 _|exact G0 _|exact H7 _|exact H6 _|exact I1 _|exact E9 _|exact H9 _ _|exact F9 _ _ _|exact G1 _|exact K0 _ _ _|exact G2 _|exact ih _ _|exact JY _ _ _|refine E2 ?_|refine D3.bind ?_ (λ_=>?_))|((with_reducible refine F7 _ ?_)<;>rfl)|((with_reducible refine I9 _ _ ?_)<;>rfl)|(dsimp only)|split
theorem RF(x:Value)(a b:TypeId)(ok:Bool):D3 P X (Instr.typeAssert x a b ok):=by
 unfold Instr.typeAssert;repeat' first|(with_reducible first|exact D3.pure' _|exact D3.pure _|exact D3.halt _|assumption|exact D8 _|exact G7 _|exact I7 _|exact G5 _|exact G8 _|exact K1 _|exact F6 _ _|exact E8 _ _ _|exact E5 _ _|exact E1 _ _ _|exact K2 _ _|exact J7 _ _|exact G9 _|exact I0 _ _ _|exact F2 _|exact F1 _ _ _ _|exact F8 _|exact K3 _|exact H0 _|exact K4 _|exact G0 _|exact H7 _|exact H6 _|exact I1 _|exact E9 _|exact H9 _ _|exact F9 _ _ _|exact G1 _|exact K0 _ _ _|exact G2 _|refine E2 ?_|refine D3.bind ?_ (λ_=>?_))|((with_reducible refine F7 _ ?_)<;>rfl)|((with_reducible refine I9 _ _ ?_)<;>rfl)|(dsimp only)|split
theorem VU:D3 P X Instr.panicnil:=by
 unfold Instr.panicnil;refine D3.bind (D3.sysEnv λ_=>D3.pure _) λr=>?_;split
 ·exact E2 (D3.pure' _)
 ·exact D8 _
theorem AcD(v:Value):D3 P X (Instr.panic v):=by
 unfold Instr.panic;split
 ·exact D3.halt _
 ·refine D3.bind VU λ_=>?_;split
  ·exact D3.halt _
  ·exact F2 _
 ·exact D3.halt _
theorem Yb(t:TypeId)(x:Value):D3 P X (Instr.arrayAt t x):=by
 unfold Instr.arrayAt;repeat' first|(with_reducible first|exact D3.pure' _|exact D3.pure _|exact D3.halt _|assumption|exact D8 _|exact G7 _|exact I7 _|exact G5 _|exact G8 _|exact K1 _|exact F6 _ _|exact E8 _ _ _|exact E5 _ _|exact E1 _ _ _|exact K2 _ _|exact J7 _ _|exact G9 _|exact I0 _ _ _|exact F2 _|exact F1 _ _ _ _|exact F8 _|exact K3 _|exact H0 _|exact K4 _|exact G0 _|exact H7 _|exact H6 _|exact I1 _|exact E9 _|exact H9 _ _|exact F9 _ _ _|exact G1 _|exact K0 _ _ _|exact G2 _|refine E2 ?_|refine D3.bind ?_ (λ_=>?_))|((with_reducible refine F7 _ ?_)<;>rfl)|((with_reducible refine I9 _ _ ?_)<;>rfl)|(dsimp only)|split
theorem AcE(g:Nat):D3 P X (Instr.waits g):=GB (λ_ _=>.inl rfl) (λ_=>D3.pure' _)
theorem RG(s:FloatKind)(b:Nat)(k:IntKind):D3 P X (Conv.floatToInt s b k):=by
 unfold Conv.floatToInt;repeat' first|(with_reducible first|exact D3.pure' _|exact D3.pure _|exact D3.halt _|assumption|exact D8 _|exact G7 _|exact I7 _|exact G5 _|exact G8 _|exact K1 _|exact F6 _ _|exact E8 _ _ _|exact E5 _ _|exact E1 _ _ _|exact K2 _ _|exact J7 _ _|exact G9 _|exact I0 _ _ _|exact F2 _|exact F1 _ _ _ _|exact F8 _|exact K3 _|exact H0 _|exact K4 _|exact G0 _|exact H7 _|exact H6 _|exact I1 _|exact E9 _|exact H9 _ _|exact F9 _ _ _|exact G1 _|exact K0 _ _ _|exact G2 _|refine E2 ?_|refine D3.bind ?_ (λ_=>?_))|((with_reducible refine F7 _ ?_)<;>rfl)|((with_reducible refine I9 _ _ ?_)<;>rfl)|(dsimp only)|split
theorem RH{src dst:TypeId}{x:Value}{j k:IntKind}(h1:P.underlying src=some (.int j))(h:P.underlying dst=some (.int k)):D3 P X (convert src dst x):=by
 unfold convert;refine Kv h1 (Kv h ?_);cases x<;>first|exact D3.pure' _|exact RG _ _ _|exact D3.halt _|skip
 rename_i a;cases a<;>exact D3.halt _
def BS(n:Next):Prop:=(∃v,n=.value v)∨n=.skip
def BD(P:Program)(Q:Next->Prop)(s:Sem Next):Prop:=∀w es n w' es',s.runT P w es=(.ok n w',es')->Q n
theorem Yc(s:Sem Value):BD P BS (do pure (.value (← s))):=λw es n w' es' h=>by
 have h:(s.bind _).runT P w es=_:=h;rw[Sem.runT_bind'] at h;match hs:s.runT P w es,h with
 | (.ok a w1,e1),h=>exact .inl ⟨a,by cases h;rfl⟩
 | (.halt a w1,e1),h=>cases h
theorem AeG(s:Sem Unit):BD P BS (do s;pure .skip):=λw es n w' es' h=>by
 have h:(s.bind _).runT P w es=_:=h;rw[Sem.runT_bind'] at h;match hs:s.runT P w es,h with
 | (.ok a w1,e1),h=>exact .inr (by cases h;rfl)
 | (.halt a w1,e1),h=>cases h
theorem CM(v:Value):BD P BS (Pure.pure (.value v)):=λw es n w' es' h=>by cases h;exact .inl ⟨v,rfl⟩
theorem EI{Q:Next->Prop}{s:Sem α}{f:α->Sem Next}(hf:∀a,BD P Q (f a)):BD P Q (s >>= f):=λw es n w' es' h=>by
 have h:(s.bind f).runT P w es=_:=h;rw[Sem.runT_bind'] at h;match hs:s.runT P w es,h with
 | (.ok a w1,e1),h=>exact hf a _ _ _ _ _ h
 | (.halt a w1,e1),h=>cases h
theorem Yd{Q:Next->Prop}(k:Halt):BD P Q (Sem.halt k):=λw es n w' es' h=>by cases h
theorem Jq{Q:Next->Prop}:BD P Q (runtimePanic .nilDeref):=λw es n w' es' h=>by cases h
theorem sv{s:Sem Value}(h:D3 P X s):D3 P X (do pure (.value (← s)):Sem Next)/\BD P BS (do pure (.value (← s))):=⟨D3.bind h (λ_=>D3.pure' _),Yc s⟩
theorem su{s:Sem Unit}(h:D3 P X s):D3 P X (do s;pure .skip:Sem Next)/\BD P BS (do s;pure .skip):=⟨D3.bind h (λ_=>D3.pure' _),AeG s⟩
def Oq:Op->Bool
 | .move _ | .assign _ | .pick .. | .alloc _ | .box .. | .build .. | .buildSlice .. | .load .. | .store .. | .waits _ | .binOp .. | .unOp .. | .sliceToArrayPointer .. | .makeInterface .. | .makeFunc .. | .makeMap .. | .makeSlice .. | .slice .. | .fieldAddr .. | .field .. | .indexAddr .. | .index .. | .lookup .. | .mapUpdate .. | .insert .. | .mapEntry .. | .entryStore .. | .range .. | .next .. | .typeAssert .. | .extract .. | .nilCheck _ | .panic _=>true
 | _=>false
set_option maxHeartbeats 4000000 in
theorem Aas(ρ:Operand->Value)(o:Oper)(h:Oq o.op=true):D3 P X (execOp ρ o)/\BD P BS (execOp ρ o):=by
 unfold execOp;cases hop:o.op<;>rw[hop] at h<;>(try (cases h;done))<;>dsimp only
 any_goals (with_reducible first
  | exact sv (Acz _ _ _)|exact sv (Ahh _ _)|exact sv (Ac2 _ _)|exact sv (QX _ _ _)|exact sv (Aae _ _)|exact su (Xz _ _ _)|exact sv (AcE _)
  | exact sv (D3.bind (XU _ _ _ _ _ _) (λ_=>Ac9 _ _ _ _))|exact sv (Ac7 _ _)|exact sv (Yb _ _)|exact sv (MG _ _)|exact sv (VG _ _ _)|exact sv (XC _ _)|exact sv (Tt _ _ _)
  | exact sv (XE _ _ _ _ _)|exact sv (XD _ _ _)|exact sv (Ac0 _ _ _)|exact sv (XA _ _ _)|exact sv (Ac1 _ _ _)|exact sv (Aai _ _ _ _)|exact su (Tx _ _ _ _)|exact sv (VT _ _ _)|exact su (RE _ _ _ _)
  | exact sv (Ac4 _ _)|exact sv (Ae7 _ _ _)|exact sv (RF _ _ _ _)|exact sv (XB _ _)|exact sv (AcD _))
 ·exact⟨D3.pure' _,CM _⟩
 ·exact⟨D3.pure' _,CM _⟩
 ·exact⟨D3.bind (H0 _) (λ_=>D3.pure' _),EI (λ_=>CM _)⟩
 ·split
  ·exact⟨F2 _,Jq⟩
  ·exact⟨F2 _,Jq⟩
  ·exact⟨F2 _,Jq⟩
  ·split
   ·exact⟨F2 _,Jq⟩
   ·refine⟨E2 (D3.bind (MV _ _ _ _) (λ_=>?_)),EI (λ_=>EI (λ_=>?_))⟩
    ·split
     ·exact I9 _ _ rfl
     ·exact D3.pure' _
    ·split
     ·exact EI (λ_=>CM _)
     ·exact CM _
   ·exact⟨D3.pure' _,CM _⟩
  ·exact⟨D3.pure' _,CM _⟩
end
section
variable {P:Program} {X:Nat->Prop} {α β:Type}
theorem Ot(t:TypeId)(x:Place):D3 P X (x.get t):=by
 unfold Place.get;repeat' first|(with_reducible first|exact D3.pure' _|exact D3.pure _|exact D3.halt _|assumption|exact D8 _|exact G7 _|exact I7 _|exact G5 _|exact G8 _|exact K1 _|exact F6 _ _|exact E8 _ _ _|exact E5 _ _|exact E1 _ _ _|exact K2 _ _|exact J7 _ _|exact G9 _|exact I0 _ _ _|exact F2 _|exact F1 _ _ _ _|exact F8 _|exact K3 _|exact H0 _|exact K4 _|exact G0 _|exact H7 _|exact H6 _|exact I1 _|exact E9 _|exact H9 _ _|exact F9 _ _ _|exact G1 _|exact K0 _ _ _|exact G2 _|exact N2 _|exact M3 _|exact K9 _ _|exact K5 _ _|refine E2 ?_|refine D3.bind ?_ (λ_=>?_))|((with_reducible refine F7 _ ?_)<;>rfl)|((with_reducible refine I9 _ _ ?_)<;>rfl)|(dsimp only)|split
theorem RJ:∀(l:List FieldStep)(t:TypeId)(x:Place),D3 P X (follow l t x)
 | [],_,_=>D3.pure' _
 | s::l,t,x=>by
  have ih:=λt x=>RJ l t x;unfold follow;repeat' first|(with_reducible first|exact D3.pure' _|exact D3.pure _|exact D3.halt _|assumption|exact D8 _|exact G7 _|exact I7 _|exact G5 _|exact G8 _|exact K1 _|exact F6 _ _|exact E8 _ _ _|exact E5 _ _|exact E1 _ _ _|exact K2 _ _|exact J7 _ _|exact G9 _|exact I0 _ _ _|exact F2 _|exact F1 _ _ _ _|exact F8 _|exact K3 _|exact H0 _|exact K4 _|exact G0 _|exact H7 _|exact H6 _|exact I1 _|exact E9 _|exact H9 _ _|exact F9 _ _ _|exact G1 _|exact K0 _ _ _|exact G2 _|exact N2 _|exact M3 _|exact K9 _ _|exact K5 _ _|exact ih _ _|exact Ot _ _|refine E2 ?_|refine D3.bind ?_ (λ_=>?_))|((with_reducible refine F7 _ ?_)<;>rfl)|((with_reducible refine I9 _ _ ?_)<;>rfl)|(dsimp only)|split
theorem Ye(a:Array TypeId)(t:TypeId)(v:Value)(m n:ByteArray):D3 P X (Builtin.ssaWrapNilChk_ a t #[v,.string m,.string n]):=by
 cases v<;>first|exact D8 _|skip
 rename_i o;cases o with
 | some x=>exact D3.pure' _
 | none =>
  refine D3.bind (E9 (.extern "ssa:wrapnilchk.dereferenced" 2)) (λr=>?_);repeat' first|(with_reducible first|exact D3.pure' _|exact D3.pure _|exact D3.halt _|assumption|exact D8 _|exact G7 _|exact I7 _|exact G5 _|exact G8 _|exact K1 _|exact F6 _ _|exact E8 _ _ _|exact E5 _ _|exact E1 _ _ _|exact K2 _ _|exact J7 _ _|exact G9 _|exact I0 _ _ _|exact F2 _|exact F1 _ _ _ _|exact F8 _|exact K3 _|exact H0 _|exact K4 _|exact G0 _|exact H7 _|exact H6 _|exact I1 _|exact E9 _|exact H9 _ _|exact F9 _ _ _|exact G1 _|exact K0 _ _ _|exact G2 _|exact N2 _|exact M3 _|exact K9 _ _|exact K5 _ _|refine E2 ?_|refine D3.bind ?_ (λ_=>?_))|((with_reducible refine F7 _ ?_)<;>rfl)|((with_reducible refine I9 _ _ ?_)<;>rfl)|(dsimp only)|split
theorem RL(t:TypeId)(x:Place)(b:Bool)(o:Option String):D3 P X (receiverAt t x b o):=by
 unfold receiverAt strVal;repeat' first|(with_reducible first|exact D3.pure' _|exact D3.pure _|exact D3.halt _|assumption|exact D8 _|exact G7 _|exact I7 _|exact G5 _|exact G8 _|exact K1 _|exact F6 _ _|exact E8 _ _ _|exact E5 _ _|exact E1 _ _ _|exact K2 _ _|exact J7 _ _|exact G9 _|exact I0 _ _ _|exact F2 _|exact F1 _ _ _ _|exact F8 _|exact K3 _|exact H0 _|exact K4 _|exact G0 _|exact H7 _|exact H6 _|exact I1 _|exact E9 _|exact H9 _ _|exact F9 _ _ _|exact G1 _|exact K0 _ _ _|exact G2 _|exact N2 _|exact M3 _|exact K9 _ _|exact K5 _ _|exact Ot _ _|exact Ye _ _ _ _ _|refine E2 ?_|refine D3.bind ?_ (λ_=>?_))|((with_reducible refine F7 _ ?_)<;>rfl)|((with_reducible refine I9 _ _ ?_)<;>rfl)|(dsimp only)|split
theorem RM:∀(n:Nat)(t:TypeId)(v:Value)(s:String),D3 P X (method n t v s)
 | 0,_,_,_=>F7 _ rfl
 | n+1,t,v,s=>by
  have ih:=λt v=>RM n t v s;unfold method;repeat' first|(with_reducible first|exact D3.pure' _|exact D3.pure _|exact D3.halt _|assumption|exact D8 _|exact G7 _|exact I7 _|exact G5 _|exact G8 _|exact K1 _|exact F6 _ _|exact E8 _ _ _|exact E5 _ _|exact E1 _ _ _|exact K2 _ _|exact J7 _ _|exact G9 _|exact I0 _ _ _|exact F2 _|exact F1 _ _ _ _|exact F8 _|exact K3 _|exact H0 _|exact K4 _|exact G0 _|exact H7 _|exact H6 _|exact I1 _|exact E9 _|exact H9 _ _|exact F9 _ _ _|exact G1 _|exact K0 _ _ _|exact G2 _|exact N2 _|exact M3 _|exact K9 _ _|exact K5 _ _|exact ih _ _|exact RJ _ _ _|exact RL _ _ _ _|exact Ot _ _|refine E2 ?_|refine D3.bind ?_ (λ_=>?_))|((with_reducible refine F7 _ ?_)<;>rfl)|((with_reducible refine I9 _ _ ?_)<;>rfl)|(dsimp only)|split
theorem AcF(a:Array TypeId)(t:TypeId)(v:Array Value):D3 P X (Builtin.clear_ a t v):=by
 unfold Builtin.clear_;repeat' first|(with_reducible first|exact D3.pure' _|exact D3.pure _|exact D3.halt _|assumption|exact D8 _|exact G7 _|exact I7 _|exact G5 _|exact G8 _|exact K1 _|exact F6 _ _|exact E8 _ _ _|exact E5 _ _|exact E1 _ _ _|exact K2 _ _|exact J7 _ _|exact G9 _|exact I0 _ _ _|exact F2 _|exact F1 _ _ _ _|exact F8 _|exact K3 _|exact H0 _|exact K4 _|exact G0 _|exact H7 _|exact H6 _|exact I1 _|exact E9 _|exact H9 _ _|exact F9 _ _ _|exact G1 _|exact K0 _ _ _|exact G2 _|exact N2 _|exact M3 _|exact K9 _ _|exact K5 _ _|refine E2 ?_|refine D3.bind ?_ (λ_=>?_))|exact MH _ (by simp)|((with_reducible refine F7 _ ?_)<;>rfl)|((with_reducible refine I9 _ _ ?_)<;>rfl)|(dsimp only)|split
theorem VV(a b:Array TypeId)(v:Array Value):D3 P X (Extern.SlicesOverlaps.overlaps a b v):=by
 obtain⟨l⟩:=v;rcases l with _|⟨x,_|⟨y,_|⟨z,l⟩⟩⟩
 ·exact D8 _
 ·cases x<;>exact D8 _
 ·cases x<;>first|exact D8 _|skip
  cases y<;>first|exact D8 _|skip
  unfold Extern.SlicesOverlaps.overlaps;generalize a[0]?=o;cases o with
  | none=>exact D8 _
  | some t =>
  refine D3.bind (I7 t) λd=>?_;dsimp only
  repeat' first|(with_reducible first|exact D3.pure' _|exact D3.pure _|exact D3.halt _|assumption|exact D8 _|exact G7 _|exact I7 _|exact G5 _|exact G8 _|exact K1 _|exact F6 _ _|exact E8 _ _ _|exact E5 _ _|exact E1 _ _ _|exact K2 _ _|exact J7 _ _|exact G9 _|exact I0 _ _ _|exact F2 _|exact F1 _ _ _ _|exact F8 _|exact K3 _|exact H0 _|exact K4 _|exact G0 _|exact H7 _|exact H6 _|exact I1 _|exact E9 _|exact H9 _ _|exact F9 _ _ _|exact G1 _|exact K0 _ _ _|exact G2 _|exact N2 _|exact M3 _|exact K9 _ _|exact K5 _ _|refine E2 ?_|refine D3.bind ?_ (λ_=>?_))|((with_reducible refine F7 _ ?_)<;>rfl)|((with_reducible refine I9 _ _ ?_)<;>rfl)|(dsimp only)|split
 ·cases x<;>exact D8 _
def Kw(P:Program)(s:Nat->Bool)(name:String):Bool:=P.types.all λti=>ti.methods.all λm=>m.name != name || (match m.func with|none=>true|some (f,_)=>s f)
def AO(P:Program){α:Type}(Q:α->Prop)(s:Sem α):Prop:=∀w es a w' es',s.runT P w es=(.ok a w',es')->Q a
theorem AO.bind{Q:α->Prop}{Q':β->Prop}{x:Sem α}{f:α->Sem β}(hx:AO P Q x)(hf:∀a,Q a->AO P Q' (f a)):AO P Q' (x >>= f):=λw es a w' es' h=>by
 have h:(x.bind f).runT P w es=_:=h;rw[Sem.runT_bind'] at h;cases hr:x.runT P w es with
 | mk r es1 =>
  rw[hr] at h;cases r with
  | ok b w1=>exact hf b (hx _ _ _ _ _ hr) _ _ _ _ _ h
  | halt k w1=>cases h
theorem AO.any{x:Sem α}:AO P (λ_=>True) x:=λ_ _ _ _ _ _=>trivial
theorem AO.pure{Q:α->Prop}{a:α}(h:Q a):AO P Q (Pure.pure a:Sem α):=λ_ _ _ _ _ e=>by cases e;exact h
theorem AO.halt{Q:α->Prop}(k:Halt):AO P Q (Sem.halt k:Sem α):=λ_ _ _ _ _ e=>by cases e
theorem TB{info:TypeId->Option TypeInfo}{d:TypeDesc}{i:TypeInfo}(h:Made.reckon info d=some i):i.methods=#[]:=by
 unfold Made.reckon at h;split at h
 ·simp only[Option.bind_eq_bind,Option.bind_eq_some_iff] at h;obtain⟨j,-,h⟩:=h;split at h
  ·cases h
  ·split at h
   ·cases h
   ·simp only[Option.bind_eq_some_iff] at h;obtain⟨s,-,h⟩:=h;cases h;rfl
  ·simp only[Option.bind_eq_some_iff] at h;obtain⟨s,-,h⟩:=h;cases h;rfl
 all_goals first|(cases h;done)|skip
 ·simp only[Option.bind_eq_bind,Option.bind_eq_some_iff] at h;obtain⟨j,-,s,-,h⟩:=h;cases h;rfl
 ·simp only[Option.bind_eq_bind,Option.bind_eq_some_iff] at h;obtain⟨j,-,s,-,j',-,s',-,h⟩:=h;cases h;rfl
 ·simp only[Option.bind_eq_bind,Option.bind_eq_some_iff] at h;obtain⟨j,-,s,-,h⟩:=h;cases h;rfl
 ·simp only[Option.bind_eq_bind,Option.bind_eq_some_iff] at h;obtain⟨s,-,h⟩:=h;cases h;rfl
 ·simp only[Option.bind_eq_bind,Option.bind_eq_some_iff] at h;obtain⟨j,-,s,-,h⟩:=h;cases h;rfl
 ·unfold Made.reckonStruct at h;simp only[Option.bind_eq_bind,Option.bind_eq_some_iff] at h;obtain⟨j,-,h⟩:=h;split at h<;>(cases h;rfl)
theorem AcG{s:Nat->Bool}{name:String}(h:Kw P s name=true){t:TypeId}{ti:TypeInfo}(hi:P.info? t=some ti){m:Method}(hm:ti.methods.find? (·.name==name)=some m){f:FuncId}{b:Bool}(hf:m.func=some (f,b)):s f=true:=by
 have a0:ti.methods≠#[]:=λe=>by rw[e] at hm;simp at hm
 have a1:ti∈P.types:=by
  unfold Tables.info? at hi;split at hi
  ·exact Array.mem_of_getElem? hi
  ·exfalso
   rename_i hlt;rw[show Made.depth=99+1 from rfl,Made.infoAt] at hi;rw[if_neg hlt,Option.bind_eq_some_iff] at hi;obtain⟨d,-,hi⟩:=hi;exact a0 (TB hi)
 have h1:=Array.all_eq_true'.1 h ti a1;have h2:=Array.all_eq_true'.1 h1 m (Array.mem_of_find?_eq_some hm);have h3:(m.name==name)=true:=by simpa using Array.find?_some hm
 rw[hf] at h2;simp only[beq_iff_eq] at h3;simpa [h3] using h2
theorem VW(t:TypeId):AO P (λti=>P.info? t=some ti) (typeInfo t):=λw es a w' es' h=>by
 unfold typeInfo at h;change Sem.runT P (match P.info? t with|some i=>Pure.pure i|none=>stuck "no such type") w es=_ at h
 cases hi:P.info? t with
 | none=>rw[hi] at h;cases h
 | some i=>rw[hi] at h;cases h;rfl
theorem GV{s:Nat->Bool}{name:String}(h:Kw P s name=true):∀(n:Nat)(t:TypeId)(v:Value),AO P (λr=>s r.1=true) (method n t v name)
 | 0,_,_=>AO.halt _
 | n+1,t,v=>by
  have ih:=λt v=>GV h n t v;unfold method;refine AO.bind (VW t) λti hi=>?_;split
  ·rename_i m hm;refine AO.bind AO.any λr _=>?_;obtain⟨xt,x⟩:=r;dsimp only
   split
   ·refine AO.bind AO.any λv _=>?_;split
    ·exact ih _ _
    ·exact λw es a w' es' hh=>by cases hh
    ·exact AO.halt _
   ·rename_i f b hf;exact AO.bind AO.any λ_ _=>AO.pure (AcG h hi hm hf)
  ·exact AO.halt _
end
section
variable {P:Program} {X:Nat->Prop} {α β:Type}
theorem Ahl(a:Array TypeId)(t:TypeId)(v:Array Value):D3 P X (Builtin.cap_ a t v):=by
 unfold Builtin.cap_;repeat' first|(with_reducible first|exact D3.pure' _|exact D8 _|exact I7 _|exact G1 _|refine D3.bind ?_ (λ_=>?_))|(dsimp only)|split
def VX:Builtin->Bool
 | .append | .len | .cap | .copy | .clear=>true
 | _=>false
theorem VY(ρ:Operand->Value)(o:Oper){b:Builtin}{aas:Array Operand}{ats:Array TypeId}(hop:o.op=.call {callee:=.builtin b,args:=aas,argTypes:=ats})(hb:VX b=true):
  D3 P X (execOp ρ o)/\BD P BS (execOp ρ o):=by
 have e:execOp ρ o=builtin b ats o.type (aas.map fun | .const _=>true|_=>false) (aas.map ρ):=by
  unfold execOp;rw[hop];rfl
 rw[e];cases b<;>first|(cases hb;done)|skip
 ·exact sv (Aal _ _ _)
 ·exact sv (Ahl _ _ _)
 ·exact sv (AcF _ _ _)
 ·exact sv (Ae8 _ _ _)
 ·exact sv (Ahi _ _ _)
theorem Aat{f:FuncId}{fn:Func}(hf:P.funcs[f]?=some fn)(hb:fn.body.isNone=false)(hn:(fn.name == "runtime.NumGoroutine")=false)(args:Array Value):
  D3 P X (callFunc f args)/\BD P (λn=>∃args,n=.enter f args) (callFunc f args):=by
 have e2:∀w es,(callFunc f args).runT P w es=(.ok (.enter f args) w,es):=λw es=>by
  unfold callFunc;show Sem.runT P (match P.funcs[f]? with|none=>_|some fn=>_) w es=_
  rw[hf];simp only[hn,hb];rfl
 constructor
 ·intro n w u es h;rw[e2,e2];exact λ_=>⟨λ_ he=>.inl he,w,rfl,On.refl h⟩
 ·intro w es n w' es' h;rw[e2] at h;cases h
  exact⟨args,rfl⟩
theorem AcH(ρ:Operand->Value)(o:Oper){f:FuncId}{as_:Array Operand}{ats:Array TypeId}(hop:o.op=.call {callee:=.value (.func f),args:=as_,argTypes:=ats})(hρ:ρ (.func f)=.func (.func f) #[] #[]):∃args,execOp ρ o=callFunc f args:=by
 refine⟨(#[]++as_.map ρ) ++ #[],?_⟩;unfold execOp;rw[hop];show (do let d ← resolve ρ _ o.type;invoke d.target d.args)=_
 simp only[resolve,hρ];rfl
theorem Yf(ρ:Operand->Value)(o:Oper){r:Operand}{name:String}{as_:Array Operand}{ats:Array TypeId}(hop:o.op=.call {callee:=.invoke r name,args:=as_,argTypes:=ats}):∃args,execOp ρ o=callMethod (ρ r) name args:=by
 refine⟨(#[ρ r]++as_.map ρ).extract 1 (#[ρ r]++as_.map ρ).size,?_⟩;unfold execOp;rw[hop];show (do let d ← resolve ρ _ o.type;invoke d.target d.args)=_
 have e:(#[ρ r]++as_.map ρ)[0]?=some (ρ r):=by rw[Array.getElem?_append_left (show 0 < #[ρ r].size from Nat.one_pos)];rfl
 show invoke (.fn (.method name) #[]) (#[ρ r]++as_.map ρ)=_
 unfold invoke;simp only[e]
def Qw(P:Program)(t:TypeId):Bool:=match P.underlying t with|some (.int _)=>true|_=>false
theorem RO{t:TypeId}(h:Qw P t=true):∃k,P.underlying t=some (.int k):=by
 unfold Qw at h;split at h
 ·rename_i k hk;exact⟨k,hk⟩
 ·cases h
theorem MW(x:Value):D3 P X (Conv.bytesToString x):=by
 unfold Conv.bytesToString;repeat' first|(with_reducible first|exact D3.pure' _|exact D8 _|exact F6 _ _|refine Ji (λ_ _=>?_) _ _|refine D3.bind ?_ (λ_=>?_))|(dsimp only)|split
theorem Ou{src dst e:TypeId}{x:Value}(h1:P.underlying src=some (.slice e))(h2:P.underlying dst=some .string)(h3:P.underlying e=some (.int .u8)):D3 P X (convert src dst x):=by
 unfold convert;refine Kv h1 (Kv h2 ?_);cases x<;>first|exact D3.pure' _|exact Kv h3 (MW _)
def MX(P:Program)(a b:TypeId):Bool:=(Qw P a&&Qw P b) || (match P.underlying a,P.underlying b with
 | some (.slice e),some .string=>(match P.underlying e with|some (.int .u8)=>true|_=>false)
 | _,_=>false)
theorem VZ(ρ:Operand->Value)(o:Oper){a b:TypeId}{x:Operand}(hop:o.op=.convert a b x)(h:MX P a b=true):D3 P X (execOp ρ o)/\BD P BS (execOp ρ o):=by
 have e:execOp ρ o=(do pure (.value (← convert a b (ρ x)))):=by unfold execOp;rw[hop]
 rw[e];unfold MX at h;rw[Bool.or_eq_true,Bool.and_eq_true] at h;rcases h with⟨h1,h2⟩|h
 ·obtain⟨j,hj⟩:=RO h1;obtain⟨k,hk⟩:=RO h2;exact sv (RH hj hk)
 ·split at h
  ·rename_i e h1 h2;split at h
   ·rename_i h3;exact sv (Ou h1 h2 h3)
   ·cases h
  ·cases h
def Gm(P:Program)(s:Nat->Bool):Op->Bool
 | .call {callee:=.value (.func f),..}=>s f
 | .call {callee:=.builtin b,..}=>VX b
 | .call {callee:=.invoke _ name,..}=>Kw P s name
 | .convert a b _=>MX P a b
 | o=>Oq o
def O0(P:Program)(s:Nat->Bool):Code->Bool
 | .skip | .exit _ | .label _ | .ret=>true
 | .region _ ops _=>ops.all λo=>Gm P s o.op
 | .seq a b=>O0 P s a&&O0 P s b
 | .cond _ a b=>O0 P s a&&O0 P s b
 | .block _ b=>O0 P s b
 | .loop b=>O0 P s b
 | .scope b=>O0 P s b
 | _=>false
def X6(P:Program)(s:Nat->Bool):Item->Prop
 | .code c=>O0 P s c=true
 | .inBlock _=>True
 | .inLoop c=>O0 P s c=true
 | .inScope c=>O0 P s c=true
 | .inRegion ops l=>∀i∈l,∀o,ops[i]?=some o->Gm P s o.op=true
 | _=>False
structure O2 (P:Program) (s:Nat->Bool) (fr:Frame):Prop where
 todo:∀i∈fr.todo,X6 P s i
 defers:fr.defers=[]
 kind:fr.kind=.normal
 round:fr.roundOf=none
 fn:∃fn,P.funcs[fr.fn]?=some fn
def DD(P:Program)(s:Nat->Bool)(f:Nat):Prop:=∃fn body,P.funcs[f]?=some fn/\fn.body=some body/\O0 P s body=true/\(fn.name == "runtime.NumGoroutine")=false
def Ce(P:Program)(f:Nat):Prop:=∀(X:Nat->Prop)(args:Array Value),D3 P X (callFunc f args)/\BD P BS (callFunc f args)
structure M6 (P:Program) (s:Nat->Bool):Prop where
 out:∀f,s f=true->DD P s f∨Ce P f
 step:∀g,gN<=g->P.stepOf g=none
variable {s:Nat->Bool}
theorem Wa{o:Op}(h:Gm P s o=true):(∃f aas ats,o=.call {callee:=.value (.func f),args:=aas,argTypes:=ats}/\s f=true)∨(∃b aas ats,o=.call {callee:=.builtin b,args:=aas,argTypes:=ats}/\VX b=true)∨
  (∃r name aas ats,o=.call {callee:=.invoke r name,args:=aas,argTypes:=ats}/\Kw P s name=true)∨(∃a b x,o=.convert a b x/\MX P a b=true)∨Oq o=true:=by
 unfold Gm at h;split at h
 ·exact .inl ⟨_,_,_,rfl,h⟩
 ·exact .inr (.inl ⟨_,_,_,rfl,h⟩)
 ·exact .inr (.inr (.inl ⟨_,_,_,_,rfl,h⟩))
 ·exact .inr (.inr (.inr (.inl ⟨_,_,_,rfl,h⟩)))
 ·exact .inr (.inr (.inr (.inr h)))
theorem Ov(S:M6 P s){f:Nat}(hf:s f=true)(args:Array Value):D3 P X (callFunc f args)/\BD P (λn=>BS n∨∃f args,DD P s f/\n=.enter f args) (callFunc f args):=by
 rcases S.out f hf with⟨fn,body,h1,h2,h3,h4⟩|h
 ·obtain⟨a,b⟩:=Aat (P:=P) (X:=X) h1 (by rw[h2];rfl) h4 args;exact⟨a,λw es n w' es' hh=>by obtain⟨q,e⟩:=b w es n w' es' hh;exact .inr ⟨f,q,⟨fn,body,h1,h2,h3,h4⟩,e⟩⟩
 ·exact⟨(h X args).1,λw es n w' es' hh=>.inl ((h X args).2 w es n w' es' hh)⟩
theorem AcI(S:M6 P s){name:String}(hm:Kw P s name=true)(v:Value)(args:Array Value):D3 P X (callMethod v name args)/\BD P (λn=>BS n∨∃f args,DD P s f/\n=.enter f args) (callMethod v name args):=by
 unfold callMethod;split
 ·rename_i t v;constructor
  ·refine E2 (λn w u es h hd=>?_)
   have a1:D3 P X (method (P.types.size+Made.depth) t v name >>= λr=>if s r.1=true then callFunc r.1 (#[r.2]++args) else stuck ""):=D3.bind (RM _ _ _ _) λr=>by
    split
    ·rename_i hr;exact (Ov S hr _).1
    ·exact D8 _
   have a0:∀w es,(method (P.types.size+Made.depth) t v name >>= λr=>if s r.1=true then callFunc r.1 (#[r.2]++args) else stuck "").runT P w es=(method (P.types.size+Made.depth) t v name >>= λr=>callFunc r.1 (#[r.2]++args)).runT P w es:=λw es=>by
    show (Sem.bind _ _).runT P w es=(Sem.bind _ _).runT P w es
    rw[Sem.runT_bind',Sem.runT_bind'];cases hr:(method (P.types.size+Made.depth) t v name).runT P w es with
    | mk r es1 =>
     cases r with
     | ok a w1=>simp only[GV hm _ _ _ _ _ _ _ _ hr,if_true]
     | halt k w1=>rfl
   have:=a1 n w u es h;rw[a0,a0] at this;exact this hd
  ·intro w es n w' es' h;have h:(Sem.bind (method (P.types.size+Made.depth) t v name) λr=>callFunc r.1 (#[r.2]++args)).runT P w es=_:=h;rw[Sem.runT_bind'] at h;cases hr:(method (P.types.size+Made.depth) t v name).runT P w es with
   | mk r es1 =>
    rw[hr] at h;cases r with
    | ok a w1=>exact (Ov (X:=X) S (GV hm _ _ _ _ _ _ _ _ hr) _).2 _ _ _ _ _ h
    | halt k w1=>cases h
 ·exact⟨F2 _,λw es n w' es' h=>by cases h⟩
 ·exact⟨D8 _,λw es n w' es' h=>by cases h⟩
theorem Qx(S:M6 P s)(fr:Frame)(o:Oper)(h:Gm P s o.op=true):D3 P X (execOp fr.eval o)/\BD P (λn=>BS n∨∃f args,DD P s f/\n=.enter f args) (execOp fr.eval o):=by
 have pl:D3 P X (execOp fr.eval o)/\BD P BS (execOp fr.eval o)->D3 P X (execOp fr.eval o)/\BD P (λn=>BS n∨∃f args,DD P s f/\n=.enter f args) (execOp fr.eval o) :=
  λ⟨a,b⟩=>⟨a,λw es n w' es' h=>.inl (b w es n w' es' h)⟩
 rcases Wa h with⟨f,as_,ats,hop,hf⟩|⟨b,as_,ats,hop,hb⟩|⟨r,name,as_,ats,hop,hm⟩|⟨a,b,x,hop,h1⟩|hp
 ·obtain⟨args,e⟩:=AcH fr.eval o hop rfl;rw[e];exact Ov S hf args
 ·exact pl (VY _ o hop hb)
 ·obtain⟨args,e⟩:=Yf fr.eval o hop;rw[e];exact AcI S hm _ args
 ·exact pl (VZ _ o hop h1)
 ·exact pl (Aas _ o hp)
theorem AcJ(S:M6 P s){f:FuncId}(h:s f=true)(hb:((P.funcs[f]?).bind (·.body)).isSome=true)(w:World):DD P s f:=by
 rcases S.out f h with h|h
 ·exact h
 exfalso
 cases hf:P.funcs[f]? with
 | none=>rw[hf] at hb;cases hb
 | some fn =>
  rw[hf] at hb
  have hb:fn.body.isNone=false:=by
   cases hx:fn.body with
   | none=>rw[Option.bind_some,hx] at hb;cases hb
   | some b=>rfl
  have e2:(callFunc f #[]).runT P w #[]=(.ok (if fn.name == "runtime.NumGoroutine" then .numGoroutine else .enter f #[]) w,#[]):=by
   unfold callFunc;show Sem.runT P (match P.funcs[f]? with|none=>_|some fn=>_) w #[]=_
   rw[hf];simp only[hb];cases fn.name == "runtime.NumGoroutine"<;>rfl
  have h1:=(h (λ_=>False) #[]).2 _ _ _ _ _ e2;rcases h1 with⟨v,e⟩|e<;>(split at e<;>cases e)
theorem RQ{f:FuncId}(h:DD P s f)(args:Array Value):O2 P s (Frame.enter P f args .normal):=by
 obtain⟨fn,a0,h1,h2,h3,_⟩:=h;refine⟨λi hi=>?_,rfl,rfl,rfl,fn,h1⟩;simp only[Frame.enter,h1,Option.bind_some,h2,Option.getD_some,List.mem_singleton] at hi;subst hi;exact h3
theorem Ik{fr:Frame}(h:O2 P s fr)(v:Value):O2 P s (fr.finish v):=by
 unfold Frame.finish;split
 ·rename_i ops i rest k ht;refine⟨λx hx=>?_,h.defers,h.kind,h.round,h.fn⟩;have hk:=h.todo;rw[ht] at hk;rcases List.mem_cons.1 hx with rfl|hx
  ·exact λj hj=>hk (.inRegion ops (i::rest)) (by simp) j (by simp[hj])
  ·exact hk x (by simp[hx])
 all_goals first|exact h|(rename_i ht;exfalso;have hk:=h.todo;rw[ht] at hk;exact hk _ (List.mem_cons_self ..))
theorem Mi{fr:Frame}(h:O2 P s fr)(c:List PanicEntry):O2 P s (fr.raise c):=by
 unfold Frame.raise;split<;>exact⟨h.todo,h.defers,h.kind,h.round,h.fn⟩
theorem Le{fr:Frame}(h:O2 P s fr)(m:FrameMode):O2 P s {fr with mode:=m}:=⟨h.todo,h.defers,h.kind,h.round,h.fn⟩
theorem Uu{fr:Frame}(h:O2 P s fr){l:List Item}(hl:∀i∈l,X6 P s i):O2 P s {fr with todo:=l}:=⟨hl,h.defers,h.kind,h.round,h.fn⟩
def S6(X:Nat->Prop)(w u:World):Prop:=∀n,Y7 X n w u
theorem S6.on{n:Nat}{w u w' u':World}(h:S6 X w u)(ho:On X n w u w' u'):S6 X w' u':=λm=>by
 obtain⟨k,_,dw,du,hs⟩:=ho.drew
 exact⟨hs.size,hs.old,hs.same,hs.cov,hs.pend,hs.os,hs.output,λi q _=>by
  rw[ho.tw,ho.tu,dw,du,Nat.add_assoc,Nat.add_assoc];exact (h (k+i+1)).tape (k+i) q (by omega)⟩
theorem S6.self{n:Nat}{w u:World}(h:Y7 X n w u):S6 (λ_=>False) w w:=λ_=>⟨rfl,λ_ h=>h.elim,λ_ _=>rfl,λ_ h=>h.elim,h.pend,rfl,rfl,λ_ _ _=>rfl⟩
theorem D3.sane{q:Sem α}(hq:D3 P (λ_=>False) q){n:Nat}{w u:World}(h:Y7 X n w u){k:Halt}{w1:World}{es:Array Event}(e:q.runT P w #[]=(.halt k w1,es)):Ek k=false:=by
 have ha:=hq (LG (q.runT P w #[]).1) w w #[] (S6.self h _) (.inl (Nat.le_add_left _ _));rw[e] at ha;exact ha.1
def DW(P:Program)(X:Nat->Prop)(s:Nat->Bool)(n:Nat)(cu cw:List Frame)(w u:World)(su sw:GStep):Prop :=
 (S6 X w u->(∃o x es,su=.ended o x es)∨∃fr' new u' w' es,su=.go (G fr' (new++cu)) u' es/\sw=.go (G fr' (new++cw)) w' es/\O2 P s fr'/\(∀c∈new,O2 P s c)/\(∃m,On X m w u w' u')/\∀e∈es,AJ X e)/\
 (∀g1 w1 e1,sw=.go g1 w1 e1->w1.drawn<=w.drawn+n->(∃o x es,su=.ended o x es)∨∃fr' new u' w' es,su=.go (G fr' (new++cu)) u' es/\sw=.go (G fr' (new++cw)) w' es/\O2 P s fr'/\(∀c∈new,O2 P s c)/\On X n w u w' u'/\∀e∈es,AJ X e)
theorem FK(S:M6 P s){fr:Frame}{g:Nat}(hg:gN<=g)(cs:List Frame)(u:World):
  (∃o x es,early P fr cs none g u=.ended o x es)∨∃c e,u.heap[g]?=some (.pending c e)/\P.follows .staticDataAhead=false/\early P fr cs none g u=.go (G fr cs) {u with heap:=u.heap.setIfInBounds g (.cells c e)} #[]:=by
 unfold early;cases hf:P.follows .staticDataAhead with
 | true =>
  simp only[Bool.not_true,Bool.false_eq_true,if_false,S.step g hg];exact .inl ⟨_,_,_,rfl⟩
 | false =>
  simp only[Bool.not_false,if_true];cases ho:u.heap[g]? with
  | none=>exact .inl ⟨_,_,_,rfl⟩
  | some o =>
   cases o with
   | pending c e=>exact .inr ⟨c,e,rfl,trivial,rfl⟩
   | _=>exact .inl ⟨_,_,_,rfl⟩
theorem LP(S:M6 P s){fr:Frame}(h:O2 P s fr){ops:Array Oper}{l:List Nat}{k:List Item}(ht:fr.todo=.inRegion ops l::k){q:Sem Next}(he:BD P (λn=>BS n∨∃f args,DD P s f/\n=.enter f args) q)
  {cu cw:List Frame} {w u:World} {n:Nat} (ha:QR X n w u #[] (q.runT P w #[]) (q.runT P u #[])) :
  (∃o x es,stepG.apply P true fr cu none q u=.ended o x es)∨∃fr' new u' w' es,stepG.apply P true fr cu none q u=.go (G fr' (new++cu)) u' es/\stepG.apply P true fr cw none q w=.go (G fr' (new++cw)) w' es/\O2 P s fr'/\(∀c∈new,O2 P s c)/\On X n w u w' u'/\∀e∈es,AJ X e:=by
 have hk:(fr.kind==CallKind.early)=false:=by rw[h.kind];rfl
 generalize hu:q.runT P u #[]=ru at ha;unfold stepG.apply;simp only[hu,hk,ht,if_true,Bool.false_eq_true,if_false];match ru,hu,ha with
 | (.ok n u1,eu),hu,⟨a2,w1,hw,a1⟩ =>
  have a0:∀e∈seen P fr.fn eu ++ #[],AJ X e:=λe hx=>by
   rw[Array.append_empty] at hx;exact (a2 e (mem_seen hx)).elim (λhx=>by simp at hx) id
  rcases he _ _ _ _ _ hu with (⟨v,rfl⟩|rfl)|⟨f,args,hf,rfl⟩
  ·refine .inr ⟨fr.finish v,[],u1,w1,_,rfl,?_,Ik h v,by simp,a1,a0⟩;simp only[hw,GStep.after];rfl
  ·refine .inr ⟨fr.finish undef,[],u1,w1,_,rfl,?_,Ik h undef,by simp,a1,a0⟩;simp only[hw,GStep.after];rfl
  ·refine .inr ⟨Frame.enter P f args .normal,[fr],u1,w1,_,rfl,?_,RQ hf args,by simpa using h,a1,a0⟩;simp only[hw,GStep.after];rfl
 | (.halt k u1,eu),hu,⟨h0,hh⟩ =>
  cases k with
  | panic v =>
   obtain⟨a2,w1,hw,a1⟩:=hh rfl
   have a0:∀e∈seen P fr.fn eu ++ #[],AJ X e:=λe hx=>by
    rw[Array.append_empty] at hx;exact (a2 e (mem_seen hx)).elim (λhx=>by simp at hx) id
   refine .inr ⟨fr.raise [{v,recovered:=false}],[],u1,w1,_,rfl,?_,Mi h _,by simp,a1,a0⟩;simp only[hw,GStep.after];rfl
  | stuck x=>exact .inl ⟨_,_,_,rfl⟩
  | unsupported x =>
   cases x with
   | initOrder g =>
    obtain⟨a2,w1,hw,a1⟩:=hh rfl;have hg:gN<=g:=by simpa [Ek] using h0
    rcases FK (fr:=fr) S hg cu u1 with⟨o,x,es,e⟩|⟨c,t,hp,hfo,e⟩
    ·exact .inl ⟨o,x,seen P fr.fn #[]++es,by simp only[e,GStep.after]⟩
    ·obtain⟨k,a4,dw,du,hs⟩:=a1.drew;have hx:¬X g:=λhx=>by obtain⟨c',e',-,a5⟩:=hs.cov _ hx;rw[a5] at hp;cases hp
     have a6:w1.heap[g]?=some (.pending c t):=by rw[← hs.same g hx];exact hp
     have ew:early P fr cw none g w1=.go (G fr cw) {w1 with heap:=w1.heap.setIfInBounds g (.cells c t)} #[]:=by
      unfold early;simp only[hfo,Bool.not_false,if_true,a6];rfl
     have a3:=hs.setCells g c t (0,0) hx;refine .inr ⟨fr,[],{u1 with heap:=u1.heap.setIfInBounds g (.cells c t)},{w1 with heap:=w1.heap.setIfInBounds g (.cells c t)},seen P fr.fn #[] ++ #[],by simp only[e,GStep.after];rfl,by simp only[hw,ew,GStep.after];rfl,h,by simp,⟨a1.tw,a1.tu,k,a4,dw,du,a3.sim⟩,λe he=>?_⟩;rw[seen_none] at he;simp at he
   | _=>first|(cases h0;done)|exact .inl ⟨_,_,_,rfl⟩
  | _=>cases h0
theorem TC(S:M6 P s){fr:Frame}(h:O2 P s fr){ops:Array Oper}{l:List Nat}{k:List Item}(ht:fr.todo=.inRegion ops l::k){q:Sem Next}(hq:D3 P (λ_=>False) q)(he:BD P (λn=>BS n∨∃f args,DD P s f/\n=.enter f args) q)
  {cw:List Frame} {w u:World} {n:Nat} (hs:Y7 X n w u) {g1:Goroutine} {w1:World} {e1:Array Event} (hst:stepG.apply P true fr cw none q w=.go g1 w1 e1):LG (q.runT P w #[]).1=w1.drawn:=by
 have hk:(fr.kind==CallKind.early)=false:=by rw[h.kind];rfl
 have a0:=λk w1 es=>D3.sane hq hs (k:=k) (w1:=w1) (es:=es);unfold stepG.apply at hst;generalize hu:q.runT P w #[]=ru at hst;simp only[hk,ht,if_true,Bool.false_eq_true,if_false] at hst;match ru,hu,hst with
 | (.ok n u1,eu),hu,hst =>
  rcases he _ _ _ _ _ hu with (⟨v,rfl⟩|rfl)|⟨f,args,hf,rfl⟩<;>(simp only[GStep.after] at hst;cases hst;rfl)
 | (.halt k u1,eu),hu,hst =>
  have h0:=a0 k u1 eu hu;cases k with
  | panic v=>simp only[GStep.after] at hst;cases hst;rfl
  | stuck x=>simp only[GStep.after] at hst;cases hst
  | unsupported x =>
   cases x with
   | initOrder g =>
    have hg:gN<=g:=by simpa [Ek] using h0
    rcases FK (fr:=fr) S hg cw u1 with⟨o,x,es,e⟩|⟨c,t,hp,hfo,e⟩
    ·simp only[e,GStep.after] at hst;cases hst
    ·simp only[e,GStep.after] at hst;cases hst;rfl
   | _=>first|(cases h0;done)|(simp only[GStep.after] at hst;cases hst)
  | _=>cases h0
theorem Qm(S:M6 P s){fr:Frame}(h:O2 P s fr){ops:Array Oper}{l:List Nat}{k:List Item}(ht:fr.todo=.inRegion ops l::k){q:Sem Next}(hq:D3 P X q)(hq0:D3 P (λ_=>False) q)(he:BD P (λn=>BS n∨∃f args,DD P s f/\n=.enter f args) q)
  {cu cw:List Frame} {w u:World} {n:Nat} (hs:Y7 X n w u):DW P X s n cu cw w u (stepG.apply P true fr cu none q u) (stepG.apply P true fr cw none q w):=by
 constructor
 ·intro hf;rcases LP S h ht he (cu:=cu) (cw:=cw) (hq (LG (q.runT P u #[]).1) w u #[] (hf _) (.inr (Nat.le_add_left _ _))) with h1|⟨fr',new,u',w',es,a1,a2,a3,a4,a5,a6⟩
  ·exact .inl h1
  ·exact .inr ⟨fr',new,u',w',es,a1,a2,a3,a4,⟨_,a5⟩,a6⟩
 ·intro g1 w1 e1 hst hd;exact LP S h ht he (hq n w u #[] hs (.inl (by rw[TC S h ht hq0 he hs hst];exact hd)))
end
end Go.Proofs.YtcgkgmmclfeohaaGreatDoor
