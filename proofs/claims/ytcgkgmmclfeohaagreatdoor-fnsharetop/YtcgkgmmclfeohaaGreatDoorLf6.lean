/- Runs carried over, 6: maps, operators, appending. -/
import Derived.Test.YtcgkgmmclfeohaaGreatDoorJ2
namespace Go.Proofs.YtcgkgmmclfeohaaGreatDoor
open Go.Conc
section
variable {P:Program} {X:Nat->Prop} {α β:Type}
theorem LK:∀(d:Nat)(t:TypeId)(x y:Value),D3 P X (Op.eqGuardIn d t x y)
 | 0,_,_,_=>D3.halt _
 | d+1,t,x,y=>by
  have ih:=λt x y=>LK d t x y;unfold Op.eqGuardIn;refine D3.bind (I7 t) (λu=>?_);split<;>repeat' first|(with_reducible first|exact D3.pure' _|exact D3.pure _|exact D3.halt _|assumption|exact D8 _|exact G7 _|exact I7 _|exact G5 _|exact G8 _|exact K1 _|exact F6 _ _|exact E8 _ _ _|exact E5 _ _|exact E1 _ _ _|exact K2 _ _|exact J7 _ _|exact G9 _|exact I0 _ _ _|exact F2 _|exact F1 _ _ _ _|exact F8 _|exact K3 _|exact H0 _|exact K4 _|exact G0 _|exact H7 _|exact H6 _|exact I1 _|exact E9 _|exact H9 _ _|exact F9 _ _ _|exact G1 _|exact K0 _ _ _|exact G2 _|exact ih _ _ _|refine Ji (λ_ _=>?_) _ _|refine Jj (λ_ _=>?_) _ _|refine E2 ?_|refine D3.bind ?_ (λ_=>?_))|((with_reducible refine F7 _ ?_)<;>rfl)|(dsimp only)|split
theorem XU(op:BinOp)(t:TypeId)(x y:Operand)(a b:Value):D3 P X (eqGuard op t x y a b):=by
 unfold eqGuard;repeat' first|(with_reducible first|exact D3.pure' _|exact D3.pure _|exact D3.halt _|assumption|exact D8 _|exact G7 _|exact I7 _|exact G5 _|exact G8 _|exact K1 _|exact F6 _ _|exact E8 _ _ _|exact E5 _ _|exact E1 _ _ _|exact K2 _ _|exact J7 _ _|exact G9 _|exact I0 _ _ _|exact F2 _|exact F1 _ _ _ _|exact F8 _|exact K3 _|exact H0 _|exact K4 _|exact G0 _|exact H7 _|exact H6 _|exact I1 _|exact E9 _|exact H9 _ _|exact F9 _ _ _|exact G1 _|exact K0 _ _ _|exact G2 _|exact LK _ _ _ _|refine E2 ?_|refine D3.bind ?_ (λ_=>?_))|((with_reducible refine F7 _ ?_)<;>rfl)|(dsimp only)|split
theorem Gv(e:Bool):∀(d:Nat)(t:TypeId)(v:Value),D3 P X (Instr.checkKey e d t v)
 | 0,_,_=>D3.halt _
 | d+1,t,v=>by
  have ih:=λt v=>Gv e d t v;unfold Instr.checkKey;refine D3.bind (I7 t) (λu=>?_);split<;>repeat' first|(with_reducible first|exact D3.pure' _|exact D3.pure _|exact D3.halt _|assumption|exact D8 _|exact G7 _|exact I7 _|exact G5 _|exact G8 _|exact K1 _|exact F6 _ _|exact E8 _ _ _|exact E5 _ _|exact E1 _ _ _|exact K2 _ _|exact J7 _ _|exact G9 _|exact I0 _ _ _|exact F2 _|exact F1 _ _ _ _|exact F8 _|exact K3 _|exact H0 _|exact K4 _|exact G0 _|exact H7 _|exact H6 _|exact I1 _|exact E9 _|exact H9 _ _|exact F9 _ _ _|exact G1 _|exact K0 _ _ _|exact G2 _|exact ih _ _|refine Ji (λ_ _=>?_) _ _|refine Jj (λ_ _=>?_) _ _|refine E2 ?_|refine D3.bind ?_ (λ_=>?_))|((with_reducible refine F7 _ ?_)<;>rfl)|(dsimp only)|split
theorem Kp(t:TypeId)(k:Value):∀(es:List MapEntry)(i:Nat),D3 P X (Instr.findAsking t k es i)
 | [],_=>D3.pure' _
 | e::es,i=>by
  unfold Instr.findAsking;refine D3.bind (K0 _ _ _) (λb=>?_);split
  ·exact D3.pure' _
  ·exact Kp t k es (i+1)
theorem Kq(t:TypeId)(k:Value)(es:List MapEntry):D3 P X (Instr.findKey t k es):=by
 unfold Instr.findKey;refine D3.bind (I7 t) (λu=>?_);split
 ·exact D3.pure' _
 ·exact Kp _ _ _ _
theorem Aai(t:TypeId)(x i:Value)(ok:Bool):D3 P X (Instr.lookup t x i ok):=by
 unfold Instr.lookup;repeat' first|(with_reducible first|exact D3.pure' _|exact D3.pure _|exact D3.halt _|assumption|exact D8 _|exact G7 _|exact I7 _|exact G5 _|exact G8 _|exact K1 _|exact F6 _ _|exact E8 _ _ _|exact E5 _ _|exact E1 _ _ _|exact K2 _ _|exact J7 _ _|exact G9 _|exact I0 _ _ _|exact F2 _|exact F1 _ _ _ _|exact F8 _|exact K3 _|exact H0 _|exact K4 _|exact G0 _|exact H7 _|exact H6 _|exact I1 _|exact E9 _|exact H9 _ _|exact F9 _ _ _|exact G1 _|exact K0 _ _ _|exact G2 _|exact Gv _ _ _ _|exact Kq _ _ _|refine E2 ?_|refine D3.bind ?_ (λ_=>?_))|((with_reducible refine F7 _ ?_)<;>rfl)|(dsimp only)|split
theorem IP(a b:Value):D3 P X (Instr.keyThatStays a b):=by
 unfold Instr.keyThatStays;repeat' first|(with_reducible first|exact D3.pure' _|exact D3.pure _|exact D3.halt _|assumption|exact D8 _|exact G7 _|exact I7 _|exact G5 _|exact G8 _|exact K1 _|exact F6 _ _|exact E8 _ _ _|exact E5 _ _|exact E1 _ _ _|exact K2 _ _|exact J7 _ _|exact G9 _|exact I0 _ _ _|exact F2 _|exact F1 _ _ _ _|exact F8 _|exact K3 _|exact H0 _|exact K4 _|exact G0 _|exact H7 _|exact H6 _|exact I1 _|exact E9 _|exact H9 _ _|exact F9 _ _ _|exact G1 _|exact K0 _ _ _|exact G2 _|refine E2 ?_|refine D3.bind ?_ (λ_=>?_))|((with_reducible refine F7 _ ?_)<;>rfl)|(dsimp only)|split
theorem Tx(t:TypeId)(m k v:Value):D3 P X (Instr.mapUpdate t m k v):=by
 unfold Instr.mapUpdate;repeat' first|(with_reducible first|exact D3.pure' _|exact D3.pure _|exact D3.halt _|assumption|exact D8 _|exact G7 _|exact I7 _|exact G5 _|exact G8 _|exact K1 _|exact F6 _ _|exact E8 _ _ _|exact E5 _ _|exact E1 _ _ _|exact K2 _ _|exact J7 _ _|exact G9 _|exact I0 _ _ _|exact F2 _|exact F1 _ _ _ _|exact F8 _|exact K3 _|exact H0 _|exact K4 _|exact G0 _|exact H7 _|exact H6 _|exact I1 _|exact E9 _|exact H9 _ _|exact F9 _ _ _|exact G1 _|exact K0 _ _ _|exact G2 _|exact Gv _ _ _ _|exact Kq _ _ _|exact IP _ _|refine E2 ?_|refine D3.bind ?_ (λ_=>?_))|exact MH _ (by simp)|((with_reducible refine F7 _ ?_)<;>rfl)|(dsimp only)|split
theorem MR(op:BinOp)(k:IntKind)(x y:Int):D3 P X (Op.intArith op k x y):=by
 unfold Op.intArith;split<;>first|exact D3.pure' _|exact D3.halt _
theorem Aaj(op:BinOp)(k:IntKind)(x y:Int):D3 P X (Op.intDiv op k x y):=by
 unfold Op.intDiv;split
 ·exact F2 _
 ·split<;>first|exact D3.pure' _|exact D3.halt _
theorem Pr(op:BinOp)(k:IntKind)(x y:Int):D3 P X (Op.intBits op k x y):=by
 unfold Op.intBits;dsimp only
 split<;>first|exact D3.pure' _|exact D3.halt _
theorem Ac6(op:BinOp)(k:IntKind)(x:Int)(yk:IntKind)(y:Int):D3 P X (Op.shift op k x yk y):=by
 unfold Op.shift;split
 ·exact F2 _
 ·dsimp only
  split<;>first|exact D3.pure' _|exact D3.halt _
theorem Aak(op:BinOp)(x y:Int):D3 P X (Op.intCmp op x y):=by
 unfold Op.intCmp;split<;>first|exact D3.pure' _|exact D3.halt _
theorem VL(op:BinOp)(x y:ByteArray):D3 P X (Op.stringOp op x y):=by
 unfold Op.stringOp;dsimp only
 split<;>(try split)<;>first|exact D3.pure' _|exact D3.halt _
theorem Kr(op:BinOp)(k:FloatKind)(x y:Nat):D3 P X (Op.floatArith op k x y):=by
 unfold Op.floatArith;repeat' first|(with_reducible first|exact D3.pure' _|exact D3.pure _|exact D3.halt _|assumption|exact D8 _|exact G7 _|exact I7 _|exact G5 _|exact G8 _|exact K1 _|exact F6 _ _|exact E8 _ _ _|exact E5 _ _|exact E1 _ _ _|exact K2 _ _|exact J7 _ _|exact G9 _|exact I0 _ _ _|exact F2 _|exact F1 _ _ _ _|exact F8 _|exact K3 _|exact H0 _|exact K4 _|exact G0 _|exact H7 _|exact H6 _|exact I1 _|exact E9 _|exact H9 _ _|exact F9 _ _ _|exact G1 _|exact K0 _ _ _|exact G2 _|refine E2 ?_|refine D3.bind ?_ (λ_=>?_))|((with_reducible refine F7 _ ?_)<;>rfl)|(dsimp only)|split
theorem MS(op:BinOp)(k:FloatKind)(x y:Nat):D3 P X (Op.floatCmp op k x y):=by
 unfold Op.floatCmp;dsimp only
 split<;>first|exact D3.pure' _|exact D3.halt _
theorem Ac7(op:UnOp)(x:Value):D3 P X (Op.unary op x):=by
 unfold Op.unary;split<;>first|exact MR _ _ _ _|exact Pr _ _ _ _|exact D3.pure' _|exact D3.halt _
theorem I9(u:Unsupported)(f:α->Sem β)(h:Ek (.unsupported u)=false):D3 P X (unsupported u >>= f):=D3.halt _ h
theorem XV(u:Unsupported)(h:free (.unsupported u)=true:=by rfl):QY P (unsupported u:Sem α):=λw es=>⟨_,w,es,rfl,h⟩
theorem Ald(p:Program)(d:Nat)(e:TypeId)(m off:Nat)(n:Int):cellAtBytes p d e (0 / m) off n=none:=by
 unfold cellAtBytes;simp only[Nat.zero_div,Nat.zero_mul];split
 ·rfl
 ·cases byteOfCell p d e (off % p.cellsOf e) with
  | none=>rfl
  | some here =>
   simp only[Option.bind_eq_bind,Option.bind_some];split
   ·rfl
   ·rename_i h;exfalso
    apply h
    simp only[Bool.or_eq_true,decide_eq_true_eq];have h0:Int.ofNat 0=0:=rfl;rw[h0];omega
theorem LL(t:TypeId)(x y:Value):D3 P X (Builtin.unsafeAdd_ #[] t #[x,y]):=by
 cases x with
 | pointer ptr =>
  unfold Builtin.unsafeAdd_;dsimp only
  have hm:∀n:Int,D3 P X (match ptr with
     | some a=>do
      let __x ← shape a.block
      match __x with
       | some (e,cells)=>do
        let p ← program
        match cellAtBytes p p.depth e (cells / p.cellsOf e) a.off n with
         | some off=>pure (Value.pointer (some {block:=a.block,off:=off,spot:=a.spot}))
         | none=>unsupported (Unsupported.unsafePointer "Add")
       | _=>unsupported (Unsupported.unsafePointer "Add")
     | _=>unsupported (Unsupported.unsafePointer "Add")):=λn=>by
   split
   ·refine GB (λt k=>.inr ?_) (λo=>?_)
    ·show QY P (program >>= λp=>_)
     intro w es;show ∃h u eu,(Sem.runT P (match cellAtBytes P P.depth t (0 / P.cellsOf t) _ n with|some off=>_|none=>_) w es)=_/\_
     rw[Ald];exact XV _ rfl w es
    ·repeat' first|(with_reducible first|exact D3.pure' _|exact D3.pure _|exact D3.halt _|assumption|exact D8 _|exact G7 _|exact I7 _|exact G5 _|exact G8 _|exact K1 _|exact F6 _ _|exact E8 _ _ _|exact E5 _ _|exact E1 _ _ _|exact K2 _ _|exact J7 _ _|exact G9 _|exact I0 _ _ _|exact F2 _|exact F1 _ _ _ _|exact F8 _|exact K3 _|exact H0 _|exact K4 _|exact G0 _|exact H7 _|exact H6 _|exact I1 _|exact E9 _|exact H9 _ _|exact F9 _ _ _|exact G1 _|exact K0 _ _ _|exact G2 _|refine E2 ?_|refine D3.bind ?_ (λ_=>?_))|((with_reducible refine F7 _ ?_)<;>rfl)|((with_reducible refine I9 _ _ ?_)<;>rfl)|(dsimp only)|split
   ·exact D3.halt _
  refine D3.bind (K3 _) (λn=>?_);split
  ·cases ptr with
   | none=>exact I9 _ _ rfl
   | some a =>
    refine D3.bind (QZ _) (λ_=>?_);split
    ·exact I9 _ _ rfl
    ·exact D3.pure' _
  ·split
   ·exact D3.bind (D3.halt _) (λ_=>hm n)
   ·exact hm n
 | _=>exact D3.halt _
theorem VM(a:Addr)(l:Bool):D3 P X (asNumber a l):=D3.bind (D3.new (by simp) (λ_=>D3.pure _)) (λ_=>D3.pure' _)
theorem Ql(t:TypeId)(x y:Value):D3 P X (movedNumber t x y):=by
 unfold movedNumber;repeat' first|(with_reducible first|exact D3.pure' _|exact D3.pure _|exact D3.halt _|assumption|exact D8 _|exact G7 _|exact I7 _|exact G5 _|exact G8 _|exact K1 _|exact F6 _ _|exact E8 _ _ _|exact E5 _ _|exact E1 _ _ _|exact K2 _ _|exact J7 _ _|exact G9 _|exact I0 _ _ _|exact F2 _|exact F1 _ _ _ _|exact F8 _|exact K3 _|exact H0 _|exact K4 _|exact G0 _|exact H7 _|exact H6 _|exact I1 _|exact E9 _|exact H9 _ _|exact F9 _ _ _|exact G1 _|exact K0 _ _ _|exact G2 _|exact LL _ _ _|exact Mb _|exact VM _ _|refine E2 ?_|refine D3.bind ?_ (λ_=>?_))|((with_reducible refine F7 _ ?_)<;>rfl)|((with_reducible refine I9 _ _ ?_)<;>rfl)|(dsimp only)|split
theorem Oj(t:TypeId)(x y:Value):D3 P X (movedPointer t x y):=by
 unfold movedPointer;repeat' first|(with_reducible first|exact D3.pure' _|exact D3.pure _|exact D3.halt _|assumption|exact D8 _|exact G7 _|exact I7 _|exact G5 _|exact G8 _|exact K1 _|exact F6 _ _|exact E8 _ _ _|exact E5 _ _|exact E1 _ _ _|exact K2 _ _|exact J7 _ _|exact G9 _|exact I0 _ _ _|exact F2 _|exact F1 _ _ _ _|exact F8 _|exact K3 _|exact H0 _|exact K4 _|exact G0 _|exact H7 _|exact H6 _|exact I1 _|exact E9 _|exact H9 _ _|exact F9 _ _ _|exact G1 _|exact K0 _ _ _|exact G2 _|exact LL _ _ _|exact MI _|refine E2 ?_|refine D3.bind ?_ (λ_=>?_))|((with_reducible refine F7 _ ?_)<;>rfl)|((with_reducible refine I9 _ _ ?_)<;>rfl)|(dsimp only)|split
theorem LM(a b:Addr):D3 P X (Op.twoPlaces a b):=by
 unfold Op.twoPlaces;repeat' first|(with_reducible first|exact D3.pure' _|exact D3.pure _|exact D3.halt _|assumption|exact D8 _|exact G7 _|exact I7 _|exact G5 _|exact G8 _|exact K1 _|exact F6 _ _|exact E8 _ _ _|exact E5 _ _|exact E1 _ _ _|exact K2 _ _|exact J7 _ _|exact G9 _|exact I0 _ _ _|exact F2 _|exact F1 _ _ _ _|exact F8 _|exact K3 _|exact H0 _|exact K4 _|exact G0 _|exact H7 _|exact H6 _|exact I1 _|exact E9 _|exact H9 _ _|exact F9 _ _ _|exact G1 _|exact K0 _ _ _|exact G2 _|exact GK _|refine E2 ?_|refine D3.bind ?_ (λ_=>?_))|((with_reducible refine F7 _ ?_)<;>rfl)|((with_reducible refine I9 _ _ ?_)<;>rfl)|(dsimp only)|split
theorem XW(k:IntKind)(a b:Addr):D3 P X (Op.addrSub k a b):=D3.bind (LM a b) (λ_=>D3.pure' _)
theorem XX(op:BinOp)(a b:Addr):D3 P X (Op.addrCmp op a b):=by
 unfold Op.addrCmp;repeat' first|(with_reducible first|exact D3.pure' _|exact D3.pure _|exact D3.halt _|assumption|exact D8 _|exact G7 _|exact I7 _|exact G5 _|exact G8 _|exact K1 _|exact F6 _ _|exact E8 _ _ _|exact E5 _ _|exact E1 _ _ _|exact K2 _ _|exact J7 _ _|exact G9 _|exact I0 _ _ _|exact F2 _|exact F1 _ _ _ _|exact F8 _|exact K3 _|exact H0 _|exact K4 _|exact G0 _|exact H7 _|exact H6 _|exact I1 _|exact E9 _|exact H9 _ _|exact F9 _ _ _|exact G1 _|exact K0 _ _ _|exact G2 _|exact LM _ _|refine E2 ?_|refine D3.bind ?_ (λ_=>?_))|((with_reducible refine F7 _ ?_)<;>rfl)|((with_reducible refine I9 _ _ ?_)<;>rfl)|(dsimp only)|split
theorem XY(k:IntKind)(a:Addr)(n:Int):D3 P X (Op.addrMod k a n):=by
 unfold Op.addrMod;refine GB (λt k=>.inl rfl) (λo=>?_);repeat' first|(with_reducible first|exact D3.pure' _|exact D3.pure _|exact D3.halt _|assumption|exact D8 _|exact G7 _|exact I7 _|exact G5 _|exact G8 _|exact K1 _|exact F6 _ _|exact E8 _ _ _|exact E5 _ _|exact E1 _ _ _|exact K2 _ _|exact J7 _ _|exact G9 _|exact I0 _ _ _|exact F2 _|exact F1 _ _ _ _|exact F8 _|exact K3 _|exact H0 _|exact K4 _|exact G0 _|exact H7 _|exact H6 _|exact I1 _|exact E9 _|exact H9 _ _|exact F9 _ _ _|exact G1 _|exact K0 _ _ _|exact G2 _|exact GK _|refine E2 ?_|refine D3.bind ?_ (λ_=>?_))|((with_reducible refine F7 _ ?_)<;>rfl)|((with_reducible refine I9 _ _ ?_)<;>rfl)|(dsimp only)|split
theorem Ol(s:FloatKind)(b:Nat)(d:FloatKind):D3 P X (Conv.floatToFloat s b d):=by
 unfold Conv.floatToFloat;repeat' first|(with_reducible first|exact D3.pure' _|exact D3.pure _|exact D3.halt _|assumption|exact D8 _|exact G7 _|exact I7 _|exact G5 _|exact G8 _|exact K1 _|exact F6 _ _|exact E8 _ _ _|exact E5 _ _|exact E1 _ _ _|exact K2 _ _|exact J7 _ _|exact G9 _|exact I0 _ _ _|exact F2 _|exact F1 _ _ _ _|exact F8 _|exact K3 _|exact H0 _|exact K4 _|exact G0 _|exact H7 _|exact H6 _|exact I1 _|exact E9 _|exact H9 _ _|exact F9 _ _ _|exact G1 _|exact K0 _ _ _|exact G2 _|refine E2 ?_|refine D3.bind ?_ (λ_=>?_))|((with_reducible refine F7 _ ?_)<;>rfl)|((with_reducible refine I9 _ _ ?_)<;>rfl)|(dsimp only)|split
theorem GR(op:BinOp)(k:FloatKind)(x y:Nat):D3 P X (Op.Complex.arith op k x y):=by
 unfold Op.Complex.arith;repeat' first|(with_reducible first|exact D3.pure' _|exact D3.pure _|exact D3.halt _|assumption|exact D8 _|exact G7 _|exact I7 _|exact G5 _|exact G8 _|exact K1 _|exact F6 _ _|exact E8 _ _ _|exact E5 _ _|exact E1 _ _ _|exact K2 _ _|exact J7 _ _|exact G9 _|exact I0 _ _ _|exact F2 _|exact F1 _ _ _ _|exact F8 _|exact K3 _|exact H0 _|exact K4 _|exact G0 _|exact H7 _|exact H6 _|exact I1 _|exact E9 _|exact H9 _ _|exact F9 _ _ _|exact G1 _|exact K0 _ _ _|exact G2 _|exact Kr _ _ _ _|refine E2 ?_|refine D3.bind ?_ (λ_=>?_))|((with_reducible refine F7 _ ?_)<;>rfl)|((with_reducible refine I9 _ _ ?_)<;>rfl)|(dsimp only)|split
theorem XZ(op:BinOp)(k:FloatKind)(x y:Nat):D3 P X (Op.Complex.cmp op k x y):=D3.bind (MS _ _ _ _) (λ_=>H0 _)
theorem Ac8(a:FloatKind)(x:Nat)(b:FloatKind):D3 P X (Op.Complex.conv a x b):=by
 unfold Op.Complex.conv;repeat' first|(with_reducible first|exact D3.pure' _|exact D3.pure _|exact D3.halt _|assumption|exact D8 _|exact G7 _|exact I7 _|exact G5 _|exact G8 _|exact K1 _|exact F6 _ _|exact E8 _ _ _|exact E5 _ _|exact E1 _ _ _|exact K2 _ _|exact J7 _ _|exact G9 _|exact I0 _ _ _|exact F2 _|exact F1 _ _ _ _|exact F8 _|exact K3 _|exact H0 _|exact K4 _|exact G0 _|exact H7 _|exact H6 _|exact I1 _|exact E9 _|exact H9 _ _|exact F9 _ _ _|exact G1 _|exact K0 _ _ _|exact G2 _|exact Ol _ _ _|refine E2 ?_|refine D3.bind ?_ (λ_=>?_))|((with_reducible refine F7 _ ?_)<;>rfl)|((with_reducible refine I9 _ _ ?_)<;>rfl)|(dsimp only)|split
theorem Ty(op:BinOp)(k:FloatKind)(a b c d:Nat):D3 P X (Op.complexOp op k a b c d):=by
 have h1:∀x y,D3 P X (Op.Complex.add x y):=λ_ _=>GR _ _ _ _;have h2:∀x y,D3 P X (Op.Complex.sub x y):=λ_ _=>GR _ _ _ _;have h3:∀x y,D3 P X (Op.Complex.mul x y):=λ_ _=>GR _ _ _ _;have h4:∀x y,D3 P X (Op.Complex.quo x y):=λ_ _=>GR _ _ _ _
 have h5:∀a b c d,D3 P X (Op.Complex.product a b c d):=λa b c d=>by
  unfold Op.Complex.product;repeat' first|(with_reducible first|exact D3.pure' _|exact D3.pure _|exact D3.halt _|assumption|exact D8 _|exact G7 _|exact I7 _|exact G5 _|exact G8 _|exact K1 _|exact F6 _ _|exact E8 _ _ _|exact E5 _ _|exact E1 _ _ _|exact K2 _ _|exact J7 _ _|exact G9 _|exact I0 _ _ _|exact F2 _|exact F1 _ _ _ _|exact F8 _|exact K3 _|exact H0 _|exact K4 _|exact G0 _|exact H7 _|exact H6 _|exact I1 _|exact E9 _|exact H9 _ _|exact F9 _ _ _|exact G1 _|exact K0 _ _ _|exact G2 _|exact h1 _ _|exact h2 _ _|exact h3 _ _|refine E2 ?_|refine D3.bind ?_ (λ_=>?_))|((with_reducible refine F7 _ ?_)<;>rfl)|((with_reducible refine I9 _ _ ?_)<;>rfl)|(dsimp only)|split
 have h6:∀s a b c d,D3 P X (Op.Complex.corrected s a b c d):=λs a b c d=>by
  unfold Op.Complex.corrected;repeat' first|(with_reducible first|exact D3.pure' _|exact D3.pure _|exact D3.halt _|assumption|exact D8 _|exact G7 _|exact I7 _|exact G5 _|exact G8 _|exact K1 _|exact F6 _ _|exact E8 _ _ _|exact E5 _ _|exact E1 _ _ _|exact K2 _ _|exact J7 _ _|exact G9 _|exact I0 _ _ _|exact F2 _|exact F1 _ _ _ _|exact F8 _|exact K3 _|exact H0 _|exact K4 _|exact G0 _|exact H7 _|exact H6 _|exact I1 _|exact E9 _|exact H9 _ _|exact F9 _ _ _|exact G1 _|exact K0 _ _ _|exact G2 _|exact h1 _ _|exact h2 _ _|exact h3 _ _|refine E2 ?_|refine D3.bind ?_ (λ_=>?_))|((with_reducible refine F7 _ ?_)<;>rfl)|((with_reducible refine I9 _ _ ?_)<;>rfl)|(dsimp only)|split
 have h7:∀a b c d,D3 P X (Op.Complex.quotient a b c d):=λa b c d=>by
  unfold Op.Complex.quotient;repeat' first|(with_reducible first|exact D3.pure' _|exact D3.pure _|exact D3.halt _|assumption|exact D8 _|exact G7 _|exact I7 _|exact G5 _|exact G8 _|exact K1 _|exact F6 _ _|exact E8 _ _ _|exact E5 _ _|exact E1 _ _ _|exact K2 _ _|exact J7 _ _|exact G9 _|exact I0 _ _ _|exact F2 _|exact F1 _ _ _ _|exact F8 _|exact K3 _|exact H0 _|exact K4 _|exact G0 _|exact H7 _|exact H6 _|exact I1 _|exact E9 _|exact H9 _ _|exact F9 _ _ _|exact G1 _|exact K0 _ _ _|exact G2 _|exact h1 _ _|exact h2 _ _|exact h3 _ _|exact h4 _ _|exact XZ _ _ _ _|exact h6 _ _ _ _ _|refine E2 ?_|refine D3.bind ?_ (λ_=>?_))|((with_reducible refine F7 _ ?_)<;>rfl)|((with_reducible refine I9 _ _ ?_)<;>rfl)|(dsimp only)|split
 unfold Op.complexOp;repeat' first|(with_reducible first|exact D3.pure' _|exact D3.pure _|exact D3.halt _|assumption|exact D8 _|exact G7 _|exact I7 _|exact G5 _|exact G8 _|exact K1 _|exact F6 _ _|exact E8 _ _ _|exact E5 _ _|exact E1 _ _ _|exact K2 _ _|exact J7 _ _|exact G9 _|exact I0 _ _ _|exact F2 _|exact F1 _ _ _ _|exact F8 _|exact K3 _|exact H0 _|exact K4 _|exact G0 _|exact H7 _|exact H6 _|exact I1 _|exact E9 _|exact H9 _ _|exact F9 _ _ _|exact G1 _|exact K0 _ _ _|exact G2 _|exact GR _ _ _ _|exact Ac8 _ _ _|exact XZ _ _ _ _|exact h5 _ _ _ _|exact h7 _ _ _ _|refine E2 ?_|refine D3.bind ?_ (λ_=>?_))|((with_reducible refine F7 _ ?_)<;>rfl)|((with_reducible refine I9 _ _ ?_)<;>rfl)|(dsimp only)|split
theorem Ac9(op:BinOp)(t:TypeId)(x y:Value):D3 P X (binOp op t x y):=by
 unfold binOp;split<;>repeat' first|(with_reducible first|exact D3.pure' _|exact D3.pure _|exact D3.halt _|assumption|exact D8 _|exact G7 _|exact I7 _|exact G5 _|exact G8 _|exact K1 _|exact F6 _ _|exact E8 _ _ _|exact E5 _ _|exact E1 _ _ _|exact K2 _ _|exact J7 _ _|exact G9 _|exact I0 _ _ _|exact F2 _|exact F1 _ _ _ _|exact F8 _|exact K3 _|exact H0 _|exact K4 _|exact G0 _|exact H7 _|exact H6 _|exact I1 _|exact E9 _|exact H9 _ _|exact F9 _ _ _|exact G1 _|exact K0 _ _ _|exact G2 _|exact Ac6 _ _ _ _ _|exact MR _ _ _ _|exact Aaj _ _ _ _|exact Pr _ _ _ _|exact Aak _ _ _|exact Kr _ _ _ _|exact MS _ _ _ _|exact Ty _ _ _ _ _ _|exact VL _ _ _|exact Oj _ _ _|exact Ql _ _ _|exact XW _ _ _|exact XX _ _ _|exact XY _ _ _|exact Mb _|refine E2 ?_|refine D3.bind ?_ (λ_=>?_))|((with_reducible refine F7 _ ?_)<;>rfl)|((with_reducible refine I9 _ _ ?_)<;>rfl)|(dsimp only)|split
theorem Ps(a:Addr)(n:Nat)(w:World)(es:Array Event):∃b,(Builtin.holdsCells a n).runT P w es=(.ok b w,es):=by
 unfold Builtin.holdsCells;show ∃b,((shape a.block).bind _).runT P w es=_
 rw[Sem.runT_bind'];have e2:∀r,(shape r).runT P w es=(.ok (w.shape? r) w,es):=λ_=>rfl;rw[e2];cases w.shape? a.block with
 | none=>exact⟨_,rfl⟩
 | some o=>exact⟨_,rfl⟩
theorem Rx(s l n:Nat)(base:Option Addr)(x:Value)(w:World)(es:Array Event):∃b,(Builtin.mayShare s l n base x).runT P w es=(.ok b w,es):=by
 have e2:∀a,(frozen a).runT P w es=(.ok (w.frozen? a) w,es):=λ_=>rfl
 have hx:∀there:Bool,∃b,((if (!there)=true then Pure.pure true else match x with
   | .slice (some b) _ _=>do pure (!(← Builtin.holdsCells b (n*s)) || base.any (·.block==b.block))
   | _=>pure false:Sem Bool)).runT P w es=(.ok b w,es):=λthere=>by
  split
  ·exact⟨_,rfl⟩
  ·split
   ·rename_i q _ _;obtain⟨b,hb⟩:=Ps (P:=P) q (n*s) w es;refine⟨(!b || base.any (·.block==q.block)),?_⟩;show ((Builtin.holdsCells _ _).bind _).runT P w es=_
    rw[Sem.runT_bind',hb];rfl
   ·exact⟨_,rfl⟩
 unfold Builtin.mayShare;dsimp only
 cases base with
 | none=>exact hx true
 | some a =>
  obtain⟨b,hb⟩:=Ps (P:=P) a (l*s) w es;show ∃b,((Builtin.holdsCells _ _).bind _).runT P w es=_
  rw[Sem.runT_bind',hb];show ∃b,((frozen _).bind _).runT P w es=_
  rw[Sem.runT_bind',e2];exact hx _
theorem Ry(s l n:Nat)(base:Option Addr)(x:Value)(u:Unsupported)(hu:free (.unsupported u)=true):D3 P X (Builtin.mayShare s l n base x >>= λb=>if (!b)=true then (mark .noRoom >>= λ_=>(unsupported u:Sem α)) else unsupported u):=by
 have hi:QY P (Builtin.mayShare s l n base x >>= λb=>if (!b)=true then (mark .noRoom >>= λ_=>(unsupported u:Sem α)) else unsupported u):=λw es=>by
  obtain⟨b,hb⟩:=Rx (P:=P) s l n base x w es;show ∃h v ev,((Builtin.mayShare s l n base x).bind _).runT P w es=_/\_
  rw[Sem.runT_bind',hb];cases b
  ·exact⟨_,w,_,rfl,hu⟩
  ·exact⟨_,w,_,rfl,hu⟩
 exact λn w u es _=>hi.alike _ _ _ _ _ _
theorem Ahj{c:Prop}[Decidable c]{a b:Sem α}(ha:D3 P X a)(hb:D3 P X b):D3 P X (if c then a else b):=by
 split<;>assumption
theorem Aal(a:Array TypeId)(t:TypeId)(v:Array Value):D3 P X (Builtin.append_ a t v):=by
 unfold Builtin.append_;repeat' first|((with_reducible refine Ry _ _ _ _ _ _ ?_)<;>rfl)|((with_reducible refine I9 _ _ ?_)<;>rfl)|(with_reducible first|exact D3.pure' _|exact D3.pure _|exact D3.halt _|assumption|exact D8 _|exact G7 _|exact I7 _|exact G5 _|exact G8 _|exact K1 _|exact F6 _ _|exact E8 _ _ _|exact E5 _ _|exact E1 _ _ _|exact K2 _ _|exact J7 _ _|exact G9 _|exact I0 _ _ _|exact F2 _|exact F1 _ _ _ _|exact F8 _|exact K3 _|exact H0 _|exact K4 _|exact G0 _|exact H7 _|exact H6 _|exact I1 _|exact E9 _|exact H9 _ _|exact F9 _ _ _|exact G1 _|exact K0 _ _ _|exact G2 _|exact Um _|exact Kg _ _ _|refine Ahj ?_ ?_|refine E2 ?_|refine D3.bind ?_ (λ_=>?_))|((with_reducible refine F7 _ ?_)<;>rfl)|((with_reducible refine I9 _ _ ?_)<;>rfl)|((with_reducible refine Ry _ _ _ _ _ _ ?_)<;>rfl)|(dsimp only)|split
end
end Go.Proofs.YtcgkgmmclfeohaaGreatDoor
