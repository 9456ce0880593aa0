/- A lone run among others who make blocks too, 7: two operands. -/
import Derived.Test.YtaffjphkobhagaaGreatDoorJ21
namespace Go.Proofs.YtaffjphkobhagaaGreatDoor
open Proofs.Tryz
variable{t:TypeId}{u w:World}
namespace Bd
open Go.Conc
section
variable {P:Program} {r:Rn} {v v' x x' y y':Value} {a a' b b':Addr} {c c':Array Value}
theorem RS.same{s:Sem Value}(h:(∃v,s=Pure.pure v/\EE 0 v=true)\/E7 P s):RS P r Qv s s:=by
 rcases h with⟨v,rfl,hv⟩|h
 .exact .pure (Eg 0 v hv)
 .exact RS.never h
theorem RS.shift(op:BinOp)(k:IntKind)(m:Int)(k':IntKind)(n:Int):RS P r Qv (Op.shift op k m k' n) (Op.shift op k m k' n):=by
 unfold Op.shift;split
 .exact RS.never (J7 _)
 .dsimp only;split<;>first|exact .pure (.int _ _)|exact .halt
theorem RS.stringOp(op:BinOp)(s t:BA):RS P r Qv (Op.stringOp op s t) (Op.stringOp op s t):=by
 unfold Op.stringOp;dsimp only
 split<;>first|exact .pure (.bool _)|exact .halt|(split<;>first|exact .halt|exact .pure (.string _))
def Sn(P:Program)(t:TypeId):Bool:=match P.underlying t with
 | some (.int _)|some .string|some .bool=>true
 | _=>false
theorem Af6(hr:WR P r u w)(h:r.A a a')(k:r.A b b'):(a'==b')=(a==b):=by
 have e:=Xa hr h.b k.b
 have a0:a'=b'↔a=b:=by
  obtain⟨x1,x2,x3⟩:=a;obtain⟨y1,y2,y3⟩:=a';obtain⟨z1,z2,z3⟩:=b;obtain⟨w1,w2,w3⟩:=b';have h1:=h.off;have h2:=h.s;have h3:=h.s';have k1:=k.off;have k2:=k.s;have k3:=k.s';simp only at h1 h2 h3 k1 k2 k3 e;subst h1 h2 h3 k1 k2 k3;simp only[Addr.mk.injEq,and_true]
  have:y1=w1↔x1=z1:=by
   grind
  rw[this]
 by_cases e:a=b
 .simp_all
 .grind
theorem RS.equal(hg:P.globals.size<=r.Low)(ht:Sn P t=true)(hx:VR r x x')(hy:VR r y y'):RS P r Qe (Op.equal t x y) (Op.equal t x' y'):=by
 unfold Op.equal Op.maxDepth Op.equalIn;refine RS.bind (RS.undK t) λr1 d d' k1 hd=>?_;obtain⟨rfl,hd⟩:=hd;have a0:P.globals.size<=r1.Low:=by rw[k1.Low];exact hg
 have hx:=hx.mono k1;have hy:=hy.mono k1;unfold Sn at ht;rw[hd] at ht;cases d' with
 | bool =>
  cases hx<;>first|exact .halt|skip
  cases hy<;>first|exact .pure rfl|exact .halt
 | string =>
  cases hx<;>first|exact .halt|skip
  cases hy<;>first|exact .pure rfl|exact .halt
 | int kk =>
  cases hx with
  | int k m =>
   cases hy with
   | int k' n =>
    dsimp only
    split
    .exact .pure rfl
    .exact .halt
   | ptr h =>
    by_cases e:m=0
    .subst e;exact .pure rfl
    .refine RS.never ?_;split<;>first|exact E7.halt _|(exfalso;simp_all;done)
   | _=>exact .halt
  | ptr h =>
   cases hy with
   | int k' n =>
    by_cases e:n=0
    .subst e;exact .pure rfl
    .refine RS.never ?_;split<;>first|exact E7.halt _|(exfalso;simp_all;done)
   | ptr h2 =>
    dsimp only
    refine RS.bind (RS.behind h) λr2 q q' k2 hq=>?_;refine RS.bind (RS.behind (h2.mono k2)) λr3 z z' k3 hz=>?_;have ha:=hq.1.mono k3;have hb:=hz.1;refine RS.program (RS.look λu w hr=>?_);have a1:P.globals.size<=r3.Low:=by rw[k3.Low,k2.Low];exact a0
    have e1:=Xa hr ha.b hb.b;have e2:decide (q'.1.block<P.globals.size)=decide (q.1.block<P.globals.size):=by have:=Af1 hr a1 ha.b;simp[this]
    rw[e1,e2,Af6 hr ha hb];split
    .refine RS.bind (RS.byteOf ha) λr4 n n' k4 hn=>?_;cases hn
     refine RS.bind (RS.byteOf (hb.mono k4)) λr5 n n' k5 hn=>?_;cases hn
     exact .pure rfl
    .refine RS.bind (RS.info t) λr4 i i' k4 hi=>?_;obtain⟨rfl,_⟩:=hi;split
     .split
      .exact .pure rfl
      .exact .halt
     .exact .halt
   | _=>exact .halt
  | _=>cases hy<;>exact .halt
 | _=>cases ht
theorem RS.eqGuard(op:BinOp)(ht:Sn P t=true)(o o':Operand)(hx:VR r x x')(hy:VR r y y'):RS P r Qt (eqGuard op t o o' x y) (eqGuard op t o o' x' y'):=by
 unfold Go.eqGuard;have tr:∀{r:Rn},RS P r Qt (Pure.pure ():Sem Unit) (Pure.pure ():Sem Unit):=λ{r}=>RS.pure (A:=Qt) trivial;cases op<;>first|exact tr|skip
 all_goals
  cases hx with
  | nilIface =>
   cases hy with
   | nilIface =>
    have a0:∀(m:Unsupported),RS P r Qt (Op.eqGuardIn Op.maxDepth t .nilIface .nilIface >>= λb=>if b=true then unsupported m else Pure.pure ()) (Op.eqGuardIn Op.maxDepth t .nilIface .nilIface >>= λb=>if b=true then unsupported m else Pure.pure ()):=λm=>by
     refine RS.bind (A:=λ_ a a'=>a=false/\a'=false) ?_ (λr1 b b' _ h=>?_)
     .unfold Op.maxDepth Op.eqGuardIn;refine RS.bind (RS.undK t) λr1 d d' k1 hd=>?_;obtain⟨rfl,hd⟩:=hd;unfold Sn at ht;rw[hd] at ht;cases d'<;>first|exact .pure ⟨rfl,rfl⟩|cases ht
     .simp_all
    cases o<;>cases o'<;>first|exact tr|exact a0 _
   | _=>exact tr
  | agg hs hh =>
   cases hy with
   | agg hs' hh' =>
    dsimp only
    simp only[Bool.not_true,Bool.false_eq_true,if_false];refine RS.program (RS.program ?_)
    have e:P.eqGuardType P.depth t=false:=by
     unfold Program.depth;rw[show 2*(P.types.size+Made.depth)+2=(2*(P.types.size+Made.depth)+1)+1 by omega];unfold Program.eqGuardType;unfold Sn at ht;cases hu:P.underlying t with
     | none=>simp[hu] at ht
     | some d=>rw[hu] at ht;cases d<;>first|rfl|cases ht
    rw[e];exact tr
   | _=>exact tr
  | _=>cases hy<;>exact tr
end
section
variable {P:Program} {r:Rn} {v v' x x' y y':Value} {a a' b b':Addr} {c c':Array Value}
theorem RS.intArith(op:BinOp)(k:IntKind)(m n:Int):RS P r Qv (Op.intArith op k m n) (Op.intArith op k m n):=by cases op<;>first|exact .pure (.int _ _)|exact .halt
theorem RS.intBits(op:BinOp)(k:IntKind)(m n:Int):RS P r Qv (Op.intBits op k m n) (Op.intBits op k m n):=by cases op<;>first|exact .pure (.int _ _)|exact .halt
theorem RS.intCmp(op:BinOp)(m n:Int):RS P r Qv (Op.intCmp op m n) (Op.intCmp op m n):=by cases op<;>first|exact .pure (.bool _)|exact .halt
theorem RS.intDiv(op:BinOp)(k:IntKind)(m n:Int):RS P r Qv (Op.intDiv op k m n) (Op.intDiv op k m n):=by
 unfold Op.intDiv;split
 .exact RS.never (J7 _)
 .split<;>first|exact .pure (.int _ _)|exact .halt
set_option maxHeartbeats 2000000 in
theorem RS.binOp(hg:P.globals.size<=r.Low)(op:BinOp)(ht:Sn P t=true)(hx:VR r x x')(hy:VR r y y'):RS P r Qv (binOp op t x y) (binOp op t x' y'):=by
 have a0:RS P r Qv (do Pure.pure (Value.bool (← Op.equal t x y))) (do Pure.pure (Value.bool (← Op.equal t x' y'))):=RS.bind (RS.equal hg ht hx hy) λ_ _ _ _ h=>by cases h;exact .pure (.bool _)
 have a1:RS P r Qv (do Pure.pure (Value.bool (!(← Op.equal t x y)))) (do Pure.pure (Value.bool (!(← Op.equal t x' y')))):=RS.bind (RS.equal hg ht hx hy) λ_ _ _ _ h=>by cases h;exact .pure (.bool _)
 have mv:∀{x x' y y':Value},VR r x x'->VR r y y'->RS P r Qv (do if (← underlying t) matches .unsafePointer then Go.movedPointer t x y else Go.movedNumber t x y) (do if (← underlying t) matches .unsafePointer then Go.movedPointer t x' y' else Go.movedNumber t x' y'):=λh1 h2 =>
  RS.bind (RS.und t) λr1 d d' k1 hd=>by
   cases hd
   cases d<;>first|exact RS.movedPointer t (h1.mono k1) (h2.mono k1)|exact RS.movedNumber t (h1.mono k1) (h2.mono k1)
 have a2:∀{a a' b b':Addr} {f:Addr->Addr->Sem Value},r.A a a'->r.A b b'->(∀{r':Rn} {a a' b b':Addr},P.globals.size<=r'.Low->r'.A a a'->r'.A b b'->RS P r' Qv (f a b) (f a' b'))->RS P r Qv (do f (← behindNumber a).1 (← behindNumber b).1) (do f (← behindNumber a').1 (← behindNumber b').1):=λh1 h2 hf =>
  RS.bind (RS.behind h1) λr1 q q' k1 hq=>RS.bind (RS.behind (h2.mono k1)) λr2 z z' k2 hz=>hf (by rw[k2.Low,k1.Low];exact hg) (hq.1.mono k2) hz.1
 have a3:∀{a a':Addr} {k:IntKind} {n:Int},r.A a a'->RS P r Qv (do Op.addrMod k (← behindNumber a).1 n) (do Op.addrMod k (← behindNumber a').1 n):=λh1 =>
  RS.bind (RS.behind h1) λr1 q q' k1 hq=>RS.addrMod _ hq.1 _
 have ii:∀(s:Sem Value)(k k':IntKind),RS P r Qv s s->RS P r Qv (if k≠k' then stuck "BinOp: operands of different kinds" else s) (if k≠k' then stuck "BinOp: operands of different kinds" else s):=λs k k' h=>by
  by_cases e:k≠k'
  .rw[if_pos e];exact .halt
  .simp_all
 have ac:∀(op:BinOp),∀{r':Rn} {a a' b b':Addr},P.globals.size<=r'.Low->r'.A a a'->r'.A b b'->RS P r' Qv (Op.addrCmp op a b) (Op.addrCmp op a' b'):=λop _ _ _ _ _ h1 h2 h3=>RS.addrCmp h1 op h2 h3;have a4:∀{r':Rn} {a a' b b':Addr},P.globals.size<=r'.Low->r'.A a a'->r'.A b b'->RS P r' Qv (Op.addrSub .u64 a b) (Op.addrSub .u64 a' b'):=λh1 h2 h3=>RS.addrSub h1 _ h2 h3;cases hx with
 | int k m =>
  cases hy with
  | int k' n=>cases op<;>first|exact RS.shift (P:=P) (r:=r) .shl k m k' n|exact RS.shift (P:=P) (r:=r) .shr k m k' n|exact ii _ _ _ (RS.intArith _ _ _ _)|exact ii _ _ _ (RS.intDiv _ _ _ _)|exact ii _ _ _ (RS.intBits _ _ _ _)|exact ii _ _ _ (RS.intCmp _ _ _)
  | ptr h=>cases op<;>first|exact RS.halt|exact a0|exact a1|exact RS.movedNumber t (.ptr h) (.int _ _)|exact a3 h
  | ptr0=>cases op<;>first|exact RS.halt|exact a0|exact a1|exact RS.movedNumber t .ptr0 (.int _ _)
  | _=>cases op<;>first|exact RS.halt|exact a0|exact a1
 | string s =>
  cases hy with
  | string s' =>
   have e:∀op,Go.binOp op t (Tz s) (Tz s')=Op.stringOp op s s':=λop=>by cases op<;>rfl
   rw[e];exact RS.stringOp op s s'
  | _=>cases op<;>first|exact RS.halt|exact a0|exact a1
 | ptr h =>
  cases hy with
  | int k' n=>cases op<;>first|exact RS.halt|exact a0|exact a1|exact mv (.ptr h) (.int _ _)|exact RS.movedNumber t (.ptr h) (.int _ _)|exact a3 h
  | ptr h2=>cases op<;>first|exact RS.halt|exact a0|exact a1|exact a2 h h2 a4|exact a2 h h2 (ac _)
  | _=>cases op<;>first|exact RS.halt|exact a0|exact a1
 | ptr0 =>
  cases hy with
  | int k' n=>cases op<;>first|exact RS.halt|exact a0|exact a1|exact mv .ptr0 (.int _ _)|exact RS.movedNumber t .ptr0 (.int _ _)
  | _=>cases op<;>first|exact RS.halt|exact a0|exact a1
 | _=>cases hy<;>cases op<;>first|exact RS.halt|exact a0|exact a1
theorem RS.unary(op:UnOp)(hx:VR r x x'):RS P r Qv (Op.unary op x) (Op.unary op x'):=by
 cases hx with
 | int k n=>cases op<;>first|exact RS.halt|exact RS.intArith (P:=P) (r:=r) .sub k 0 n|exact RS.intBits (P:=P) (r:=r) .xor k _ n
 | _=>cases op<;>first|exact RS.halt|exact .pure (.bool _)
end
end Bd
section
open Go.RowKit
set_option maxHeartbeats 2000000 in
theorem ZL(b:Bk)(v gv:Value)(at':Nat)(gone:List BA)(w:World)(h:Z5 w v b)(hg:Ls w gv gone)(hat:at'<b.bs.length):
  cU prog 162 #[v,Iz at',gv] w (.bool (pB (JR b.bs at' gone))):=by
 obtain⟨a1,c1,a2,c2,rfl,h1,h2⟩:=h.parts;have hC:CB (w.alloc (Kz [Vz a1 (b).tg.length c1,Vz a2 (b).bs.length c2] 34)) w.heap.size [Vz a1 b.tg.length c1,Vz a2 b.bs.length c2]:=E9 w _ _;have a7:=(A4 w.heap.size w).alloc (A3 _) (Kz [Vz a1 (b).tg.length c1,Vz a2 (b).bs.length c2] 34);have g2:=h2.at.1;unfold maxLen at g2;delta cU;go_in;go_upto_region 1 with fail;generalize w.alloc (Kz [Vz a1 (b).tg.length c1,Vz a2 (b).bs.length c2] 34)=W1 at *;have l2:=h2.up a7;have lg:=hg.up a7;clear h h1 h2 hg;obtain⟨e0,e1⟩:=hC.c2';obtain⟨-,a8⟩:=l2.at;obtain⟨bb,o,rfl,hS,hb⟩:=a8 oM;obtain⟨a5,d5,a6,d6,-,-,c8,-,l6,-⟩:=(hS.at hat).cells;go_wp2_with fail;(try dsimp only[Iz,Sy,Sx,Nz,Vz,Tz,Ez,Pz]);go_loopw [7] (λi w'=>∃k m:Nat,k<=b.bs.length/\i=.int .i64 k/\BU b.bs at' gone k/\w'=W1.drewN m) (λi _=>b.bs.length-(intOf i).toNat)
 case atStart=>exact⟨0,0,oM,rfl,BU.zero _ _ _,rfl⟩
 case round =>
  obtain⟨k,m,hk,rfl,a9,hw⟩:=hrel;have Hw:Hid (wr=W1.drewN m):=hw;have Hal:Hid (BU b.bs at' gone k):=a9;have b2:Up W1 wr:=by rw[hw];exact E5 (A4 _ _) _
  clear hw a9;have f1:AS wr w.heap.size 1 (Sx bb o b.bs.length c2):=by rw[Hw.out];exact e1
  by_cases hp:k<b.bs.length
  .by_cases hka:k=at'
   .subst hka;have Hs:Hid (BU b.bs k gone (k+1)):=Hal.out.step hp hat (.inl rfl);go_wp2_with fail;go_quiet (fail);go_wp2_with fail;go_roundw
    case rel =>
     obtain⟨m',a0⟩:=U8 (n:=nq) Hw.out;exact⟨k+1,m',oM,mO,Hs.out,a0⟩
    case measure=>simp[intOf];omega
   have b5:((k:Int) != (at':Int))=true:=by rw[bne_iff_ne];omega
   obtain⟨a3,d3,a4,d4,c3,c4,-,l3,-,-⟩:=(hS.at hp).cells;have b6:AS wr bb (o+k*3) (Tz (b.bs[k]).nm):=by rw[Hw.out];exact c3
   have b3:AS wr bb (o+k*3+1) (Vz a3 (b.bs[k]).has.length d3):=by rw[Hw.out];exact c4
   have b4:AS wr bb (o+at'*3+2) (Vz a6 (b.bs[at']).nj.length d6):=by rw[Hw.out];exact c8
   have HY:Hid (E1 gone (b.bs[k]).nm=true\/J9 (b.bs[k]).has (b.bs[at']).nj=false->BU b.bs at' gone (k+1)):=λh=>Hal.out.step hp hat (.inr h);have HN:Hid (E1 gone (b.bs[k]).nm=false->J9 (b.bs[k]).has (b.bs[at']).nj=true->¬JR b.bs at' gone):=λh1 h2=>Af5 hp hat hka h1 h2;have R1:Hid (∀n,Calls prog 127 #[gv,Tz (b.bs[k]).nm] (wr.drewN n) λe w''=>e=.returned (.bool (E1 gone (b.bs[k]).nm))/\∃m,w''=wr.drewN m):=λn=>Calls.quiet_of_same (Ab gone gv _ _ (by have e:=Hw.out;subst e;exact lg));have R2:Hid (∀n,Calls prog 161 #[Vz a3 (b.bs[k]).has.length d3,Vz a6 (b.bs[at']).nj.length d6] (wr.drewN n) λe w''=>e=.returned (.bool (J9 (b.bs[k]).has (b.bs[at']).nj))/\∃m,w''=wr.drewN m):=λn=>Calls.quiet_of_same (Hg _ _ _ _ _ (by have e:=Hw.out;subst e;exact l3) (by have e:=Hw.out;subst e;exact l6));clear c3 c4 l3;generalize b.bs[k]=x0 at *;generalize b.bs[at']=y0 at *;obtain⟨hv,b0⟩:∃hv,Vz a3 x0.has.length d3=hv:=⟨_,rfl⟩;obtain⟨nv,b1⟩:∃nv,Vz a6 y0.nj.length d6=nv:=⟨_,rfl⟩;rw[b0] at b3 R2;rw[b1] at b4 R2;clear b0 b1;cases hm:E1 gone x0.nm
   case true =>
    have Hs:Hid (BU b.bs at' gone (k+1)):=HY.out (.inl hm);have Q1:Hid (∀n,Calls prog 127 #[gv,Tz x0.nm] (wr.drewN n) λe w''=>e=.returned (.bool true)/\∃m,w''=wr.drewN m):=by have:=R1.out;rw[hm] at this;exact this
    have q1:=Q1.out;clear Q1 R1 R2 HY HN;go_wp2_with fail;go_quiet ((go_at_call 127;exact q1 _))
    go_wp2_with fail;go_roundw
    case rel =>
     obtain⟨m',a0⟩:=U8 (n:=nq) Hw.out;exact⟨k+1,m',oM,mO,Hs.out,a0⟩
    case measure=>simp[intOf];omega
   have Q1:Hid (∀n,Calls prog 127 #[gv,Tz x0.nm] (wr.drewN n) λe w''=>e=.returned (.bool false)/\∃m,w''=wr.drewN m):=by have:=R1.out;rw[hm] at this;exact this
   cases hs:J9 x0.has y0.nj
   .have Hs:Hid (BU b.bs at' gone (k+1)):=HY.out (.inr hs);have Q2:Hid (∀n,Calls prog 161 #[hv,nv] (wr.drewN n) λe w''=>e=.returned (.bool false)/\∃m,w''=wr.drewN m):=by have:=R2.out;rw[hs] at this;exact this
    have q1:=Q1.out;have q2:=Q2.out;clear Q1 Q2 R1 R2 HY HN;go_wp2_with fail;go_quiet ((first|(go_at_call 127;exact q1 _)|(go_at_call 161;exact q2 _)))
    go_wp2_with fail;go_roundw
    case rel =>
     obtain⟨m',a0⟩:=U8 (n:=nq) Hw.out;exact⟨k+1,m',oM,mO,Hs.out,a0⟩
    case measure=>simp[intOf];omega
   .have Hs:Hid (¬JR b.bs at' gone):=HN.out hm hs;have Q2:Hid (∀n,Calls prog 161 #[hv,nv] (wr.drewN n) λe w''=>e=.returned (.bool true)/\∃m,w''=wr.drewN m):=by have:=R2.out;rw[hs] at this;exact this
    have q1:=Q1.out;have q2:=Q2.out;clear Q1 Q2 R1 R2 HY HN;go_wp2_with fail;go_quiet ((first|(go_at_call 127;exact q1 _)|(go_at_call 161;exact q2 _)))
    go_wp2_with fail;go_ret;exact⟨D4 (F3 Hs.out).symm,D3 a7 (E5 b2 _)⟩
  .have Hs:Hid (JR b.bs at' gone):=AdS Hal.out hp;go_wp2_with fail;go_ret;exact⟨D4 (M5 Hs.out).symm,D3 a7 b2⟩
end
end Go.Proofs.YtaffjphkobhagaaGreatDoor
