/- Runs carried over, 7: the operations whole. -/
import Derived.Test.YtmfjakieahkacaaGreatDoorJ3
namespace Go.Proofs.YtmfjakieahkacaaGreatDoor
open Go.Conc
section
variable {P:Program} {X:Nat->Prop} {α β:Type}
theorem IJ{t:TypeId}{d:TypeDesc}{f:TypeDesc->Sem α}(h:P.underlying t=some d)(hf:D0 P X (f d)):D0 P X (underlying t >>= f):=by
 refine D0.program ?_;show D0 P X (Sem.bind (match P.underlying t with|some d=>Pure.pure d|none=>stuck "no such type") f)
 rw[h];exact hf
theorem ST(t:TypeId)(m k:Value):D0 P X (Instr.mapEntry t m k):=by
 unfold Instr.mapEntry;repeat' first|(with_reducible first|exact D0.pure' _|exact D0.pure _|exact D0.halt _|assumption|exact D4 _|exact F8 _|exact H0 _|exact F5 _|exact F9 _|exact I2 _|exact E7 _ _|exact D9 _ _ _|exact D8 _ _|exact D5 _ _ _|exact I4 _ _|exact H7 _ _|exact G0 _|exact G7 _ _ _|exact E4 _|exact E2 _ _ _ _|exact E9 _|exact I5 _|exact G1 _|exact I6 _|exact F2 _|exact G5 _|exact G2 _|exact G8 _|exact E1 _|exact G6 _ _|exact F1 _ _ _|exact F3 _|exact I0 _ _ _|exact F4 _|exact EY _ _ _ _|exact IH _ _ _|exact GC _ _|refine D6 ?_|refine D0.bind ?_ (λ_=>?_))|exact KM _ (by simp)|((with_reducible refine E8 _ ?_)<;>rfl)|((with_reducible refine H6 _ _ ?_)<;>rfl)|(dsimp only)|split
theorem OX(t:TypeId)(m k v:Value):D0 P X (Instr.entryStore t m k v):=by
 unfold Instr.entryStore;repeat' first|(with_reducible first|exact D0.pure' _|exact D0.pure _|exact D0.halt _|assumption|exact D4 _|exact F8 _|exact H0 _|exact F5 _|exact F9 _|exact I2 _|exact E7 _ _|exact D9 _ _ _|exact D8 _ _|exact D5 _ _ _|exact I4 _ _|exact H7 _ _|exact G0 _|exact G7 _ _ _|exact E4 _|exact E2 _ _ _ _|exact E9 _|exact I5 _|exact G1 _|exact I6 _|exact F2 _|exact G5 _|exact G2 _|exact G8 _|exact E1 _|exact G6 _ _|exact F1 _ _ _|exact F3 _|exact I0 _ _ _|exact F4 _|refine D6 ?_|refine D0.bind ?_ (λ_=>?_))|exact KM _ (by simp)|((with_reducible refine E8 _ ?_)<;>rfl)|((with_reducible refine H6 _ _ ?_)<;>rfl)|(dsimp only)|split
theorem It:∀(l:List FieldStep)(t:TypeId)(x:Option Value),D0 P X (followBlind l t x)
 | [],_,_=>D0.pure' _
 | s::l,t,x=>by
  have ih:=λt x=>It l t x;unfold followBlind;repeat' first|(with_reducible first|exact D0.pure' _|exact D0.pure _|exact D0.halt _|assumption|exact D4 _|exact F8 _|exact H0 _|exact F5 _|exact F9 _|exact I2 _|exact E7 _ _|exact D9 _ _ _|exact D8 _ _|exact D5 _ _ _|exact I4 _ _|exact H7 _ _|exact G0 _|exact G7 _ _ _|exact E4 _|exact E2 _ _ _ _|exact E9 _|exact I5 _|exact G1 _|exact I6 _|exact F2 _|exact G5 _|exact G2 _|exact G8 _|exact E1 _|exact G6 _ _|exact F1 _ _ _|exact F3 _|exact I0 _ _ _|exact F4 _|exact ih _ _|refine D6 ?_|refine D0.bind ?_ (λ_=>?_))|((with_reducible refine E8 _ ?_)<;>rfl)|((with_reducible refine H6 _ _ ?_)<;>rfl)|(dsimp only)|split
theorem KR:∀(n:Nat)(t:TypeId)(v:Value)(s:String),D0 P X (nilAhead n t v s)
 | 0,_,_,_=>D0.pure' _
 | n+1,t,v,s=>by
  have ih:=λt v=>KR n t v s;unfold nilAhead;repeat' first|(with_reducible first|exact D0.pure' _|exact D0.pure _|exact D0.halt _|assumption|exact D4 _|exact F8 _|exact H0 _|exact F5 _|exact F9 _|exact I2 _|exact E7 _ _|exact D9 _ _ _|exact D8 _ _|exact D5 _ _ _|exact I4 _ _|exact H7 _ _|exact G0 _|exact G7 _ _ _|exact E4 _|exact E2 _ _ _ _|exact E9 _|exact I5 _|exact G1 _|exact I6 _|exact F2 _|exact G5 _|exact G2 _|exact G8 _|exact E1 _|exact G6 _ _|exact F1 _ _ _|exact F3 _|exact I0 _ _ _|exact F4 _|exact ih _ _|exact It _ _ _|refine D6 ?_|refine D0.bind ?_ (λ_=>?_))|((with_reducible refine E8 _ ?_)<;>rfl)|((with_reducible refine H6 _ _ ?_)<;>rfl)|(dsimp only)|split
theorem OY(x:Value)(a b:TypeId)(ok:Bool):D0 P X (Instr.typeAssert x a b ok):=by
 unfold Instr.typeAssert;repeat' first|(with_reducible first|exact D0.pure' _|exact D0.pure _|exact D0.halt _|assumption|exact D4 _|exact F8 _|exact H0 _|exact F5 _|exact F9 _|exact I2 _|exact E7 _ _|exact D9 _ _ _|exact D8 _ _|exact D5 _ _ _|exact I4 _ _|exact H7 _ _|exact G0 _|exact G7 _ _ _|exact E4 _|exact E2 _ _ _ _|exact E9 _|exact I5 _|exact G1 _|exact I6 _|exact F2 _|exact G5 _|exact G2 _|exact G8 _|exact E1 _|exact G6 _ _|exact F1 _ _ _|exact F3 _|exact I0 _ _ _|exact F4 _|refine D6 ?_|refine D0.bind ?_ (λ_=>?_))|((with_reducible refine E8 _ ?_)<;>rfl)|((with_reducible refine H6 _ _ ?_)<;>rfl)|(dsimp only)|split
theorem SU:D0 P X Instr.panicnil:=by
 unfold Instr.panicnil;refine D0.bind (D0.sysEnv λ_=>D0.pure _) λr=>?_;split
 ·exact D6 (D0.pure' _)
 ·exact D4 _
theorem Zn(v:Value):D0 P X (Instr.panic v):=by
 unfold Instr.panic;split
 ·exact D0.halt _
 ·refine D0.bind SU λ_=>?_;split
  ·exact D0.halt _
  ·exact E4 _
 ·exact D0.halt _
theorem UK(t:TypeId)(x:Value):D0 P X (Instr.arrayAt t x):=by
 unfold Instr.arrayAt;repeat' first|(with_reducible first|exact D0.pure' _|exact D0.pure _|exact D0.halt _|assumption|exact D4 _|exact F8 _|exact H0 _|exact F5 _|exact F9 _|exact I2 _|exact E7 _ _|exact D9 _ _ _|exact D8 _ _|exact D5 _ _ _|exact I4 _ _|exact H7 _ _|exact G0 _|exact G7 _ _ _|exact E4 _|exact E2 _ _ _ _|exact E9 _|exact I5 _|exact G1 _|exact I6 _|exact F2 _|exact G5 _|exact G2 _|exact G8 _|exact E1 _|exact G6 _ _|exact F1 _ _ _|exact F3 _|exact I0 _ _ _|exact F4 _|refine D6 ?_|refine D0.bind ?_ (λ_=>?_))|((with_reducible refine E8 _ ?_)<;>rfl)|((with_reducible refine H6 _ _ ?_)<;>rfl)|(dsimp only)|split
theorem Zo(g:Nat):D0 P X (Instr.waits g):=Fo (λ_ _=>.inl rfl) (λ_=>D0.pure' _)
theorem OZ(s:FloatKind)(b:Nat)(k:IntKind):D0 P X (Conv.floatToInt s b k):=by
 unfold Conv.floatToInt;repeat' first|(with_reducible first|exact D0.pure' _|exact D0.pure _|exact D0.halt _|assumption|exact D4 _|exact F8 _|exact H0 _|exact F5 _|exact F9 _|exact I2 _|exact E7 _ _|exact D9 _ _ _|exact D8 _ _|exact D5 _ _ _|exact I4 _ _|exact H7 _ _|exact G0 _|exact G7 _ _ _|exact E4 _|exact E2 _ _ _ _|exact E9 _|exact I5 _|exact G1 _|exact I6 _|exact F2 _|exact G5 _|exact G2 _|exact G8 _|exact E1 _|exact G6 _ _|exact F1 _ _ _|exact F3 _|exact I0 _ _ _|exact F4 _|refine D6 ?_|refine D0.bind ?_ (λ_=>?_))|((with_reducible refine E8 _ ?_)<;>rfl)|((with_reducible refine H6 _ _ ?_)<;>rfl)|(dsimp only)|split
theorem Pa{src dst:TypeId}{x:Value}{j k:IntKind}(h1:P.underlying src=some (.int j))(h:P.underlying dst=some (.int k)):D0 P X (convert src dst x):=by
 unfold convert;refine IJ h1 (IJ h ?_);cases x<;>first|exact D0.pure' _|exact OZ _ _ _|exact D0.halt _|skip
 rename_i a;cases a<;>exact D0.halt _
def Bu(n:Next):Prop:=(∃v,n=.value v)∨n=.skip
def AW(P:Program)(Q:Next->Prop)(s:Sem Next):Prop:=∀w es n w' es',s.runT P w es=(.ok n w',es')->Q n
theorem UL(s:Sem Value):AW P Bu (do pure (.value (← s))):=λw es n w' es' h=>by
 have h:(s.bind _).runT P w es=_:=h;rw[Sem.runT_bind'] at h;match hs:s.runT P w es,h with
 | (.ok a w1,e1),h=>exact .inl ⟨a,by cases h;rfl⟩
 | (.halt a w1,e1),h=>cases h
theorem AaJ(s:Sem Unit):AW P Bu (do s;pure .skip):=λw es n w' es' h=>by
 have h:(s.bind _).runT P w es=_:=h;rw[Sem.runT_bind'] at h;match hs:s.runT P w es,h with
 | (.ok a w1,e1),h=>exact .inr (by cases h;rfl)
 | (.halt a w1,e1),h=>cases h
theorem Cp(v:Value):AW P Bu (Pure.pure (.value v)):=λw es n w' es' h=>by cases h;exact .inl ⟨v,rfl⟩
theorem DL{Q:Next->Prop}{s:Sem α}{f:α->Sem Next}(hf:∀a,AW P Q (f a)):AW P Q (s >>= f):=λw es n w' es' h=>by
 have h:(s.bind f).runT P w es=_:=h;rw[Sem.runT_bind'] at h;match hs:s.runT P w es,h with
 | (.ok a w1,e1),h=>exact hf a _ _ _ _ _ h
 | (.halt a w1,e1),h=>cases h
theorem UM{Q:Next->Prop}(k:Halt):AW P Q (Sem.halt k):=λw es n w' es' h=>by cases h
theorem GV{Q:Next->Prop}:AW P Q (runtimePanic .nilDeref):=λw es n w' es' h=>by cases h
theorem sv{s:Sem Value}(h:D0 P X s):D0 P X (do pure (.value (← s)):Sem Next)/\AW P Bu (do pure (.value (← s))):=⟨D0.bind h (λ_=>D0.pure' _),UL s⟩
theorem su{s:Sem Unit}(h:D0 P X s):D0 P X (do s;pure .skip:Sem Next)/\AW P Bu (do s;pure .skip):=⟨D0.bind h (λ_=>D0.pure' _),AaJ s⟩
def LX:Op->Bool
 | .move _ | .assign _ | .pick .. | .alloc _ | .box .. | .build .. | .buildSlice .. | .load .. | .store .. | .waits _ | .binOp .. | .unOp .. | .sliceToArrayPointer .. | .makeInterface .. | .makeFunc .. | .makeMap .. | .makeSlice .. | .slice .. | .fieldAddr .. | .field .. | .indexAddr .. | .index .. | .lookup .. | .mapUpdate .. | .insert .. | .mapEntry .. | .entryStore .. | .range .. | .next .. | .typeAssert .. | .extract .. | .nilCheck _ | .panic _=>true
 | _=>false
set_option maxHeartbeats 4000000 in
theorem WV(ρ:Operand->Value)(o:Oper)(h:LX o.op=true):D0 P X (execOp ρ o)/\AW P Bu (execOp ρ o):=by
 unfold execOp;cases hop:o.op<;>rw[hop] at h<;>(try (cases h;done))<;>dsimp only
 any_goals (with_reducible first
  | exact sv (Zb _ _ _)|exact sv (Acz _ _)|exact sv (Ze _ _)|exact sv (OR _ _ _)|exact sv (WL _ _)|exact su (Uy _ _ _)|exact sv (Zo _)
  | exact sv (D0.bind (UE _ _ _ _ _ _) (λ_=>Zk _ _ _ _))|exact sv (Zi _ _)|exact sv (UK _ _)|exact sv (KL _ _)|exact sv (SN _ _ _)|exact sv (UB _ _)|exact sv (QD _ _ _)
  | exact sv (UD _ _ _ _ _)|exact sv (UC _ _ _)|exact sv (Zc _ _ _)|exact sv (Uz _ _ _)|exact sv (Zd _ _ _)|exact sv (WN _ _ _ _)|exact su (QH _ _ _ _)|exact sv (ST _ _ _)|exact su (OX _ _ _ _)
  | exact sv (Zg _ _)|exact sv (AaF _ _ _)|exact sv (OY _ _ _ _)|exact sv (UA _ _)|exact sv (Zn _))
 ·exact⟨D0.pure' _,Cp _⟩
 ·exact⟨D0.pure' _,Cp _⟩
 ·exact⟨D0.bind (G1 _) (λ_=>D0.pure' _),DL (λ_=>Cp _)⟩
 ·split
  ·exact⟨E4 _,GV⟩
  ·exact⟨E4 _,GV⟩
  ·exact⟨E4 _,GV⟩
  ·split
   ·exact⟨E4 _,GV⟩
   ·refine⟨D6 (D0.bind (KR _ _ _ _) (λ_=>?_)),DL (λ_=>DL (λ_=>?_))⟩
    ·split
     ·exact H6 _ _ rfl
     ·exact D0.pure' _
    ·split
     ·exact DL (λ_=>Cp _)
     ·exact Cp _
   ·exact⟨D0.pure' _,Cp _⟩
  ·exact⟨D0.pure' _,Cp _⟩
end
end Go.Proofs.YtmfjakieahkacaaGreatDoor
