/- The program's chapter 13: copies. -/
import Derived.Test.YtmonodehegcfhaaGreatDoorJ8
import Derived.Test.YtmonodehegcfhaaGreatDoorKf
import Derived.Test.YtmonodehegcfhaaGreatDoorJ2
import Derived.Test.YtmonodehegcfhaaGreatDoorJ6
import Derived.OpenShut
import Derived.Deep.MidRow
set_option maxRecDepth 20000
set_option maxHeartbeats 2000000
namespace Go.Proofs.YtmonodehegcfhaaGreatDoor
open Go.Proofs.Tryz
open Go.RowKit
variable{ac:Act}{ops:Array Oper}{x:Ba}{b:Bk}{nm s:BA}{bs:List Ba}{g g' gone nj ss ss':List BA}{rest:List Oper}{a base h i k n p:Nat}{o:Oper}{P:Program}{v:Value}{W w:World}
theorem JT{t u ty e e':TypeId}(ht:P.underlying t=some (.slice e))(hu:P.underlying u=some (.slice e'))(v x:Value):
  (Builtin.append_ #[t,u] ty #[v,x]).run P w=(Builtin.append_ #[t,t] ty #[v,x]).run P w:=by
 unfold Builtin.append_;simp only[List.getElem?_toArray,List.getElem?_cons_zero,List.getElem?_cons_succ,Sem.run_bind,run_underlying ht,Result.andThen_ok];cases v with
 | slice a n c=>simp only[Sem.run_bind,run_underlying ht,run_underlying hu,Result.andThen_ok,Sem.run_pure]
 | _=>rfl
theorem Bc(w:World){Q:Exit->Act->World->Prop}(hg:o.guard=none)(s x:Operand)(t u:TypeId)(hop:o.op=.call {callee:=.builtin .append,args:=#[s,x],argTypes:=#[t,u]})
  (v xv v':Value) (w':World) (hs:ac.eval s=v) (hx:ac.eval x=xv) (hr:(Builtin.append_ #[t,u] o.type #[v,xv]).run P w=.ok v' w') (h:wpList P ops Q rest (ac.put o.dst v') w'):wpList P ops Q (o::rest) ac w:=by
 refine wpList_plain hg λK hK=>?_;unfold Oper.wp;simp[execOp,hop,resolve,invoke,builtin,hs,hx,hr,Result.andThen];exact hK _ _ h
theorem Eh(ss:List BA)(v:Value)(w:World)(h:Ls w v ss)(hn:ss.length<=1048576):
  Calls prog 189 #[v] w λe w'=>(∃u,e=.returned u/\F7 w' w.heap.size u ss)/\Up w w':=by
 obtain⟨a,c,rfl,-,-,a1⟩:=h;obtain⟨ii,hi,a3,a4,a5⟩:=info_parts V7;have ho:F7 w w.heap.size (.slice none 0 0) []:=B9 _ _ _ _;rcases C3 ss.length with h0|h0
 ·obtain rfl:=C4.1 h0;simp only[List.length_nil];have hr:=(JT (w:=w) (ty:=23) underlying23 underlying118 (.slice none 0 0) (.slice a 0 c)).trans (BI w.heap.size 23 23 9 ii 1 underlying23 hi _ 0 [] ho a c);clear a1 hn h0;go_in;go_wp2_with (at_builtin;refine Bc _ rfl _ _ _ _ rfl _ _ _ _ rfl rfl hr ?_)
  go_ret;exact⟨⟨_,rfl,ho⟩,A5 _ _⟩
 ·obtain⟨g,o,rfl,hS,hg⟩:=a1 h0;obtain⟨v1,w1,hr,a0,a2,-⟩:=run_append_own (P:=prog) w w.heap.size 23 23 9 ii _ 1 16 underlying23 hi a3 a4 a5 rfl (by decide) (.slice none 0 0) 0 [] ho ⟨g,o,none⟩ ss.length c (ss.map Value.string) (by simp) (S0 hS) (CJ ss) (by unfold maxLen;omega) (by omega) (A4 _);have a6:=(JT (w:=w) (ty:=23) underlying23 underlying118 (.slice none 0 0) (.slice (some ⟨g,o,none⟩) ss.length c)).trans hr;have a7:=M1 (A5 _ _) ho a2 (A4 _);have a8:F7 w1 w.heap.size v1 ss:=by unfold F7;simpa using a0
  clear a0 a2 hr a1;go_in;go_wp2_with (at_builtin;refine Bc _ rfl _ _ _ _ rfl _ _ _ _ rfl rfl a6 ?_)
  go_ret;exact⟨⟨_,rfl,a8⟩,a7⟩
end Go.Proofs.YtmonodehegcfhaaGreatDoor
namespace Go.Proofs.YtmonodehegcfhaaGreatDoor
open Go.Proofs.Tryz
variable{ac:Act}{ops:Array Oper}{x:Ba}{b:Bk}{nm s:BA}{bs:List Ba}{g g' gone nj ss ss':List BA}{rest:List Oper}{a base h i k n p:Nat}{o:Oper}{P:Program}{v:Value}{W w:World}
abbrev Tr:=Ba×Bool
def Fu(tg:List BA)(p:Tr):List Value:=[.string p.1.nm,.int .u64 (G5 tg (E3 p.1.has):Nat),.int .u64 (G5 tg (E3 p.1.nj):Nat),.bool p.2]
def Al(tg:List BA):List Tr->List Value
 | []=>[]
 | p::r=>Fu tg p++Al tg r
theorem LN(tg:List BA)(p:Tr):∀ts:List Tr,Al tg (ts++[p])=Al tg ts++Fu tg p
 | []=>by simp[Al]
 | q::r=>by rw[List.cons_append,Al,Al,LN tg p r,List.append_assoc]
theorem Fm(tg:List BA):∀(ts:List Tr)(i j:Nat)(p:Tr),ts[i]?=some p->j<4->(Al tg ts)[i*4+j]?=(Fu tg p)[j]?
 | [],i,j,p,h,_=>by simp at h
 | q::r,0,j,p,h,hj=>by
  simp at h;subst h
  rw[Al,List.getElem?_append_left (by simp[Fu];omega)];simp
 | q::r,i+1,j,p,h,hj=>by
  rw[Al,C8 (by simp[Fu];omega)];have e:(i+1)*4+j-(Fu tg q).length=i*4+j:=by simp[Fu];omega
  rw[e];exact Fm tg r i j p (by simpa using h) hj
theorem Nf(tg:List BA):∀(ts:List Tr)(i:Nat)(p:Tr),ts[i]?=some p->(Al tg ts).set (i*4+3) (.bool true)=Al tg (ts.set i (p.1,true))
 | [],i,p,h=>by simp at h
 | q::r,0,p,h=>by
  simp at h;subst h
  simp[Al,Fu]
 | q::r,i+1,p,h=>by
  rw[Al,List.set_append_right _ _ (by simp[Fu];omega)];have e:(i+1)*4+3-(Fu tg q).length=i*4+3:=by simp[Fu];omega
  rw[e,Nf tg r i p (by simpa using h)];simp[Al]
def S7(ts:List Tr)(t:BA):Bool:=ts.all λp=>p.2 || !E3 p.1.has t
theorem DX(ts:List Tr)(t:BA):S7 ts t=true↔∀(i:Nat)(p:Tr),ts[i]?=some p->p.2=false->E3 p.1.has t=false:=by
 simp only[S7,List.all_eq_true,Bool.or_eq_true,Bool.not_eq_true'];constructor
 ·intro h i p hp h2;rcases h p (A7 hp) with h3|h3
  ·rw[h2] at h3;cases h3
  ·exact h3
 ·intro h p hp;obtain⟨i,hi,rfl⟩:=B7 hp;cases h2:ts[i].2
  ·exact .inr (h i _ (A0 hi) h2)
  ·exact .inl rfl
theorem OX{ts:List Tr}(h:ts.map (·.1)=bs)(t:BA):S7 ts t=Of bs (λi=>(ts[i]?.map (·.2)).getD false) bs.length t:=by
 rw[Bool.eq_iff_iff,DX,JM];subst h;constructor
 ·intro h i x hi hx hg;rw[B1,B6] at hx;obtain⟨p,hp,rfl⟩:=hx;exact h i p hp (by rw[hp] at hg;simpa using hg)
 ·intro h i p hp h2;exact h i p.1 (by simpa using (A3.1 hp).1) (by rw[B1,hp];rfl) (by rw[hp];simpa using h2)
theorem Sk(ts:List Tr)(p:Tr)(t:BA):S7 (ts++[p]) t=(S7 ts t&&(p.2 || !E3 p.1.has t)):=by simp[S7]
theorem Dw{ts:List Tr}(h:ts.map (·.1)=bs){p:Tr}(hp:ts[i]?=some p):bs[i]?=some p.1:=by subst h;rw[B1,hp];rfl
theorem TY(ha:Cp bs){ts:List Tr}(hk:k<bs.length)(h:ts.map (·.1)=bs.take k)(tg:List BA):
  G5 tg (S7 ts)=G5 tg (E3 (bs[k]).has)+G5 tg (S7 (ts++[(bs[k],false)])):=by
 rw[TT (P:=S7 ts) (Q:=E3 (bs[k]).has)]
 ·congr 1
  refine Dr λt _=>?_;rw[Sk];simp
 ·intro t _ hm;rw[DX];intro i p hp _;have h1:=Dw h hp;rw[List.getElem?_take] at h1;split at h1
  ·rename_i hi;rw[A0 (by omega)] at h1;obtain h1:=A6 h1;have:=ha.at hk hi;rw[Z9] at this;rw[U6,← h1];exact this t ((S5 _ _).1 hm)
  ·cases h1
theorem Sm(ha:Cp bs){ts:List Tr}{p:Tr}(h:ts.map (·.1)=bs)(hp:ts[i]?=some p)(hg:p.2=false)(tg:List BA):
  G5 tg (S7 ts)+G5 tg (E3 p.1.has)=G5 tg (S7 (ts.set i (p.1,true))):=by
 have hi:=(A3.1 hp).1;have hb:=Dw h hp;have a1:i<bs.length:=by rw[← h];simpa using hi
 rw[Gv]
 ·refine Dr λt _=>?_;rw[Bool.eq_iff_iff,Bool.or_eq_true,DX,DX];constructor
  ·rintro (h1|h1) j q hq hg2
   ·rw[List.getElem?_set] at hq;split at hq
    ·obtain rfl:=A6 hq;cases hg2
    ·exact h1 j q hq hg2
   ·rw[List.getElem?_set] at hq;split at hq
    ·obtain rfl:=A6 hq;cases hg2
    ·rename_i hne;have a0:=Dw h hq;have a2:=(A3.1 a0).1;rw[U6];intro h5;have h6:=(S5 _ _).1 h1;rw[A0 a2] at a0;rw[A0 a1] at hb;have a3:=A6 a0;have a4:=A6 hb;rcases Nat.lt_or_gt_of_ne hne with h7|h7
     ·have:=ha.at a2 h7;rw[Z9,a3,a4] at this;exact this t h5 h6
     ·have:=ha.at a1 h7;rw[Z9,a3,a4] at this;exact this t h6 h5
  ·intro h1;cases hm:E3 p.1.has t
   ·refine .inl λj q hq hg2=>?_;by_cases e:i=j
    ·subst e;rw[hp] at hq;obtain rfl:=A6 hq;exact hm
    ·exact h1 j q (by rw[List.getElem?_set,if_neg e];exact hq) hg2
   ·exact .inr rfl
 ·intro t _ h1;exact (DX _ _).1 h1 i p hp hg
theorem Ry(hok:J1 b){ts:List Tr}(h:ts.map (·.1)=b.bs)(hG:∀(i:Nat)(p:Tr),ts[i]?=some p->p.2=E3 gone p.1.nm){p:Tr}(hp:ts[a]?=some p)(hg:p.2=false):
  (G5 b.tg (E3 p.1.nj) &&& (18446744073709551615-(G5 b.tg (S7 ts)+G5 b.tg (E3 p.1.has)))=0)↔Fk b.bs a gone:=by
 have hb:=Dw h hp;have a1:a<b.bs.length:=(A3.1 hb).1;have a2:b.bs[a]=p.1:=by rw[A0 a1] at hb;exact A6 hb
 rw[Gv (λt _ h1=>(DX _ _).1 h1 a p hp hg),TU hok.1.1,
  ← VS hok a1 (gone:=gone) (G:=λi=>(ts[i]?.map (·.2)).getD false) (λi hi=>?_) (by simp[hp,hg]),a2]
 ·constructor
  ·intro h1 t ht hn;rw[← OX h];exact h1 t ht hn
  ·intro h1 t ht hn;have:=h1 t ht hn;rwa [← OX h] at this
 ·have a0:i<ts.length:=by rw[← h] at hi;simpa using hi
  have e:=Dw h (A0 a0);rw[A0 hi] at e;rw[A0 a0];simp only[Option.map_some,Option.getD_some];rw[hG i _ (A0 a0),A6 e]
def AZ(bs:List Ba)(gone:List BA)(k:Nat):Prop:=∃x,bs[k]?=some x/\E3 gone x.nm=false/\Fk bs k gone
def Az(bs:List Ba)(gone:List BA)(n:Int):Prop:=(n=-1/\∀k,k<bs.length->¬AZ bs gone k)∨∃k:Nat,n=(k:Int)/\k<bs.length/\AZ bs gone k/\∀j,j<k->¬AZ bs gone j
theorem Az.uniq{m n:Int}(h:Az bs gone m)(h':Az bs gone n):m=n:=by
 rcases h with⟨rfl,h1⟩|⟨k,rfl,hk,hg,hl⟩<;>rcases h' with⟨rfl,h2⟩|⟨j,rfl,hj,gg,gl⟩
 ·rfl
 ·exact absurd gg (h1 j hj)
 ·exact absurd hg (h2 k hk)
 ·rcases Nat.lt_trichotomy k j with h3|h3|h3
  ·exact absurd hg (gl k h3)
  ·rw[h3]
  ·exact absurd gg (hl j h3)
inductive Am (bs:List Ba):Nat->List BA->Prop
 | none:Am bs 0 []
 | more {n:Nat} {gone:List BA} {k:Nat} {x:Ba}:Am bs n gone->Az bs gone (k:Int)->bs[k]?=some x->Am bs (n+1) (gone++[x.nm])
theorem Am.length(h:Am bs n gone):gone.length=n:=by
 induction h with
 | none=>rfl
 | more _ _ _ ih=>simp[ih]
theorem Am.uniq(h:Am bs n g)(h':Am bs n g'):g=g':=by
 induction h generalizing g' with
 | none=>cases h';rfl
 | more h1 h2 h3 ih =>
  cases h' with
  | more k1 k2 k3 =>
   obtain rfl:=ih k1;have e:=h2.uniq k2;obtain rfl:_=_:=Int.ofNat.inj e;rw[h3] at k3;obtain rfl:=A6 k3;rfl
theorem Am.part(h:Am bs n gone):∀m,m<=n->Am bs m (gone.take m):=by
 induction h with
 | none=>intro m hm;obtain rfl:m=0:=(by omega);exact .none
 | @more n gone k x h1 h2 h3 ih =>
  intro m hm;have hl:=h1.length;by_cases e:m=n+1
  ·subst e;rw[D2 (by simp[hl])];exact .more h1 h2 h3
  ·rw[List.take_append_of_le_length (by omega)];exact ih m (by omega)
def R9(b:Bk)(ss:List BA)(ok:Bool):Prop:=(ok=true/\J1 b/\Am b.bs b.bs.length ss)∨(ok=false/\ss=[]/\(¬J1 b∨∃n gone,n<b.bs.length/\Am b.bs n gone/\Az b.bs gone (-1)))
theorem R9.uniq{ok ok':Bool}(h:R9 b ss ok)(h':R9 b ss' ok'):ss=ss'/\ok=ok':=by
 have no:∀{t},J1 b->Am b.bs b.bs.length t->¬(¬J1 b∨∃n a0,n<b.bs.length/\Am b.bs n a0/\Az b.bs a0 (-1)):=by
  rintro t hb hg (h1|⟨n,a0,hn,h2,h3⟩)
  ·exact h1 hb
  ·have h4:=hg.part (n+1) (by omega);have hl:=hg.length;generalize hq:t.take (n+1)=q at h4;cases h4 with
   | more k1 k2 k3 =>
    obtain rfl:=h2.uniq k1;have:=h3.uniq k2;omega
 rcases h with⟨rfl,h1,h2⟩|⟨rfl,rfl,h2⟩<;>rcases h' with⟨rfl,g1,g2⟩|⟨rfl,rfl,g2⟩
 ·exact⟨h2.uniq g2,rfl⟩
 ·exact absurd g2 (no h1 h2)
 ·exact absurd h2 (no g1 g2)
 ·exact⟨rfl,rfl⟩
theorem GV(h:∀j,j<k->¬AZ bs gone j)(h1:¬AZ bs gone k):∀j,j<k+1->¬AZ bs gone j:=λj hj=>by
 by_cases e:j=k
 ·subst e;exact h1
 ·exact h j (by omega)
theorem Wc(hk:k<bs.length):AZ bs gone k↔E3 gone (bs[k]).nm=false/\Fk bs k gone:=by
 constructor
 ·rintro⟨x,hx,h⟩;rw[A0 hk] at hx;obtain rfl:=A6 hx;exact h
 ·exact λh=>⟨_,A0 hk,h⟩
def Y0(b:Bk):Prop:=(∀s∈b.tg,s.size<=maxLen)/\∀x∈b.bs,(∀s∈x.has,s.size<=maxLen)/\(∀s∈x.nj,s.size<=maxLen)
def S2:Bk:=⟨[],[]⟩
theorem ED:Y0 S2:=⟨λs hs=>by simp[S2] at hs,λx hx=>by simp[S2] at hx⟩
def L1(b:Bk)(nm:BA):Nat:=(T5 (G7 b.bs) nm).toNat
theorem Dx(h:E3 (G7 b.bs) nm=true):T5 (G7 b.bs) nm=(L1 b nm:Int)/\L1 b nm<b.bs.length:=by
 have h0:=KV (G7 b.bs) nm;rw[h,decide_eq_true_eq] at h0;refine⟨by unfold L1;omega,?_⟩;rw[L1,T5,if_pos h]
 have:(G7 b.bs).findIdx (λx=>x.toList==nm.toList)<(G7 b.bs).length:=List.findIdx_lt_length.2 (by
  rw[E3,List.any_eq_true] at h;exact h)
 rw[L8] at this;simpa using this
noncomputable def Dy(b:Bk)(nm:BA):Int:=if K4 b=false then 1 else if E3 (G7 b.bs) nm=false then 3 else 0
noncomputable def AP(b:Bk)(nm:BA):Bk:=if K4 b=false then S2 else if E3 (G7 b.bs) nm=false then b else ⟨b.tg,b.bs.take (L1 b nm)++b.bs.drop (L1 b nm+1)⟩
theorem OY(h:K4 b=false):Dy b nm=1/\AP b nm=S2:=by simp[Dy,AP,h]
theorem LO(h:K4 b=true)(hm:E3 (G7 b.bs) nm=false):Dy b nm=3/\AP b nm=b:=by simp[Dy,AP,h,hm]
theorem Ng(h:K4 b=true)(hm:E3 (G7 b.bs) nm=true):Dy b nm=0/\AP b nm=⟨b.tg,b.bs.take (L1 b nm)++b.bs.drop (L1 b nm+1)⟩:=by simp[Dy,AP,h,hm]
def U3(b:Bk)(nm:BA):Nat:=(b.bs.takeWhile λx=>T6 x.nm nm).length
noncomputable def N6(b:Bk)(nm:BA)(nj:List BA):Int :=
 if K4 b=false then 1 else if (G0 nm&&pB (I4 nj b.tg))=false then 2 else if E3 (G7 b.bs) nm=true then 3 else if 5<=b.bs.length then 4 else 0
noncomputable def K3(b:Bk)(nm:BA)(nj:List BA):Bk :=
 if K4 b=false then S2 else if N6 b nm nj=0 then ⟨b.tg,b.bs.take (U3 b nm)++⟨nm,[],nj⟩::b.bs.drop (U3 b nm)⟩ else b
def Sn(b:Bk)(nm:BA)(k:Nat):Prop:=∀(j:Nat)(x:Ba),j<k->b.bs[j]?=some x->T6 x.nm nm=true
theorem OZ{α:Type}(p:α->Bool):∀(l:List α)(k:Nat),k<=l.length->(∀j x,j<k->l[j]?=some x->p x=true)->(∀x,l[k]?=some x->p x=false)->(l.takeWhile p).length=k
 | [],k,hk,_,_=>by simp at hk;subst hk;rfl
 | x::r,0,_,_,h2=>by
  rw[List.takeWhile_cons,h2 x (by simp)];rfl
 | x::r,k+1,hk,h1,h2=>by
  rw[List.takeWhile_cons,h1 0 x (by omega) (by simp)];simp only[if_true,List.length_cons];rw[OZ p r k (by simpa using hk) (λj y hj hy=>h1 (j+1) y (by omega) (by simpa using hy)) (λy hy=>h2 y (by simpa using hy))]
theorem TZ(hk:k<=b.bs.length)(hl:Sn b nm k)(hn:∀x,b.bs[k]?=some x->T6 x.nm nm=false):U3 b nm=k:=OZ _ _ _ hk hl hn
theorem Lg(h:K4 b=false):N6 b nm nj=1/\K3 b nm nj=S2:=by simp[N6,K3,h]
theorem Gx(h:K4 b=true)(h2:(G0 nm&&pB (I4 nj b.tg))=false):N6 b nm nj=2/\K3 b nm nj=b:=by simp[N6,K3,h,h2]
theorem GW(h:K4 b=true)(h2:(G0 nm&&pB (I4 nj b.tg))=true)(h3:E3 (G7 b.bs) nm=true):N6 b nm nj=3/\K3 b nm nj=b:=by simp[N6,K3,h,h2,h3]
theorem IF(h:K4 b=true)(h2:(G0 nm&&pB (I4 nj b.tg))=true)(h3:E3 (G7 b.bs) nm=false)(h4:5<=b.bs.length):N6 b nm nj=4/\K3 b nm nj=b:=by simp[N6,K3,h,h2,h3,h4]
theorem JU(h:K4 b=true)(h2:(G0 nm&&pB (I4 nj b.tg))=true)(h3:E3 (G7 b.bs) nm=false)(h4:¬5<=b.bs.length):
  N6 b nm nj=0/\K3 b nm nj=⟨b.tg,b.bs.take (U3 b nm)++⟨nm,[],nj⟩::b.bs.drop (U3 b nm)⟩:=by
 have hc:N6 b nm nj=0:=by simp[N6,h,h2,h3,h4]
 exact⟨hc,by rw[K3,h,if_neg (by simp),if_pos hc]⟩
theorem An(h:J1 b):b.tg.length<=8/\b.bs.length<=5/\∀x∈b.bs,x.has.length<=8/\x.nj.length<=8:=by
 refine⟨h.1.1,h.2.1,λx hx=>?_⟩;obtain⟨i,hi,rfl⟩:=B7 hx;have ho:=h.2.2.2.2.1.at (k:=i) hi hi;have h1:=V8 ho.1;have h2:=V8 ho.2;have h0:=h.1.1;omega
theorem Ab(h:K4 b=true):J1 b:=K5.1 h
def Bd(b:Bk)(p:Nat)(f:Ba->Ba):Bk:=match b.bs[p]? with
 | some x=>⟨b.tg,b.bs.set p (f x)⟩
 | none=>b
theorem Ih{f:Ba->Ba}(h:b.bs[p]?=some x):Bd b p f=⟨b.tg,b.bs.set p (f x)⟩:=by simp[Bd,h]
def O5(b:Bk)(nm:BA):List BA:=((b.bs[L1 b nm]?).map (·.nj)).getD []
theorem Dj(h:b.bs[L1 b nm]?=some x):O5 b nm=x.nj:=by simp[O5,h]
def BV(nj:List BA)(x:Ba):Ba:=⟨x.nm,x.has.filter (E3 nj),nj⟩
def T7(has tg:List BA):List BA:=tg.foldl M7 has
def U1(tg:List BA)(x:Ba):Ba:=⟨x.nm,T7 x.has tg,x.nj⟩
theorem QC(has tg:List BA)(k:Nat)(hk:k<tg.length):T7 has (tg.take (k+1))=M7 (T7 has (tg.take k)) tg[k]:=by
 unfold T7;rw[A8 hk,List.foldl_append];rfl
theorem IG(has:List BA):∀tg:List BA,(T7 has tg).length<=has.length+tg.length:=by
 intro tg;induction tg generalizing has with
 | nil=>simp[T7]
 | cons x r ih =>
  have h1:=ih (M7 has x);have h2:=Iw has x;simp only[T7,List.foldl_cons,List.length_cons] at *;omega
theorem Wd(ss:List BA)(x:BA):∀s∈M7 ss x,s∈ss∨s=x:=by
 induction ss with
 | nil=>intro s hs;simp[M7] at hs;exact .inr hs
 | cons y r ih =>
  intro s hs;simp only[M7] at hs;split at hs
  ·rcases List.mem_cons.1 hs with h|h
   ·exact .inl (by simp[h])
   ·rcases ih s h with h|h
    ·exact .inl (by simp[h])
    ·exact .inr h
  ·split at hs
   ·exact .inl hs
   ·rcases List.mem_cons.1 hs with h|h
    ·exact .inr h
    ·exact .inl h
theorem IH(has:List BA):∀tg:List BA,∀s∈T7 has tg,s∈has∨s∈tg:=by
 intro tg;induction tg generalizing has with
 | nil=>intro s hs;exact .inl hs
 | cons x r ih =>
  intro s hs;rcases ih (M7 has x) s hs with h|h
  ·rcases Wd has x s h with h|h
   ·exact .inl h
   ·exact .inr (by simp[h])
  ·exact .inr (by simp[h])
noncomputable def BC(b:Bk)(nm:BA)(nj:List BA):Int :=
 if K4 b=false then 1 else if E3 (G7 b.bs) nm=false then 3 else if pB (I4 nj (O5 b nm))=false then 2 else 0
noncomputable def Z6(b:Bk)(nm:BA)(nj:List BA):Bk :=
 if K4 b=false then S2 else if BC b nm nj=0 then Bd b (L1 b nm) (BV nj) else b
theorem Rz(h:K4 b=false):BC b nm nj=1/\Z6 b nm nj=S2:=by simp[BC,Z6,h]
theorem Nh(h:K4 b=true)(hm:E3 (G7 b.bs) nm=false):BC b nm nj=3/\Z6 b nm nj=b:=by simp[BC,Z6,h,hm]
theorem Pa(h:K4 b=true)(hm:E3 (G7 b.bs) nm=true)(hp:pB (I4 nj (O5 b nm))=false):BC b nm nj=2/\Z6 b nm nj=b:=by simp[BC,Z6,h,hm,hp]
theorem Pb(h:K4 b=true)(hm:E3 (G7 b.bs) nm=true)(hp:pB (I4 nj (O5 b nm))=true):BC b nm nj=0/\Z6 b nm nj=Bd b (L1 b nm) (BV nj):=by
 have hc:BC b nm nj=0:=by simp[BC,h,hm,hp]
 exact⟨hc,by rw[Z6,h,if_neg (by simp),if_pos hc]⟩
theorem QD{f:BA->Bool}(hk:k<ss.length):(ss.take (k+1)).filter f=(ss.take k).filter f++(if f ss[k]=true then [ss[k]] else []):=by
 rw[A8 hk,List.filter_append];congr 1
 by_cases h:f ss[k]=true
 ·simp[h]
 ·simp[h]
end Go.Proofs.YtmonodehegcfhaaGreatDoor
namespace Go.Proofs.YtmonodehegcfhaaGreatDoor
open Go.Proofs.Tryz
open Go.RowKit
variable{ac:Act}{ops:Array Oper}{x:Ba}{b:Bk}{nm s:BA}{bs:List Ba}{g g' gone nj ss ss':List BA}{rest:List Oper}{a base h i k n p:Nat}{o:Oper}{P:Program}{v:Value}{W w:World}
def Ga(ss:List BA)(s:BA):Nat:=(ss.takeWhile λx=>T6 x s).length
def FB(ss:List BA)(s:BA)(i:Nat):Prop:=∀(k:Nat)(x:BA),k<i->ss[k]?=some x->T6 x s=true
def DJ(ss:List BA)(s:BA)(j:Nat):Prop:=∀(k:Nat)(x:BA),j<=k->ss[k]?=some x->T6 x s=false
theorem MB(hi:i<=ss.length)(hl:FB ss s i)(hh:DJ ss s i):Ga ss s=i :=
 OZ _ _ _ hi hl (λx hx=>hh i x (A4 _) hx)
theorem We(ha:Ad ss)(_:FB ss s i)(hh:h<ss.length)(hs:T6 ss[h] s=true):FB ss s (h+1):=λk x hk hx=>by
 by_cases e:k=h
 ·subst e;rw[A0 hh] at hx;obtain rfl:=A6 hx;exact hs
 ·exact DS (Ca ha (h-k-1) k x _ hx (by rw[show k+1+(h-k-1)=h by omega];exact A0 hh)) hs
theorem Ua(ha:Ad ss)(hh:h<ss.length)(hs:T6 ss[h] s=false):DJ ss s h:=λk x hk hx=>by
 by_cases e:k=h
 ·subst e;rw[A0 hh] at hx;obtain rfl:=A6 hx;exact hs
 ·cases hq:T6 x s
  ·rfl
  ·have:=DS (Ca ha (k-h-1) h _ x (A0 hh) (by rw[show h+1+(k-h-1)=k by omega];exact hx)) hq;rw[hs] at this;cases this
theorem XE(hl:FB ss s i)(hh:DJ ss s i)(ha:Ad ss)(hi:i<ss.length):E3 ss s=((ss[i]).toList==s.toList):=by
 cases hq:((ss[i]).toList==s.toList)
 ·rw[U6];intro hm;obtain⟨k,hk,rfl⟩:=B7 hm;rcases Nat.lt_trichotomy k i with h1|h1|h1
  ·have:=hl k _ h1 (A0 hk);rw[BH] at this;cases this
  ·subst h1;simp at hq
  ·have h2:=Ca ha (k-i-1) i _ _ (A0 hi) (by rw[show i+1+(k-i-1)=k by omega];exact A0 hk);have h3:=hh i _ (A4 _) (A0 hi);rw[h2] at h3;cases h3
 ·exact Is hi hq
theorem Wf(hl:FB ss s i)(hi:¬i<ss.length):E3 ss s=false:=by
 rw[U6];intro hm;obtain⟨k,hk,rfl⟩:=B7 hm;have:=hl k _ (by omega) (A0 hk);rw[BH] at this;cases this
theorem Ub(s:BA)(w:World):Calls prog 204 #[Tz s] w λe w'=>e=.returned (.bool false)/\w'=w:=by
 go_in;go_wp2;go_ret;exact⟨rfl,rfl⟩
theorem So(s:BA)(w:World):Calls prog 203 #[Tz s] w λe w'=>e=.returned (.bool false)/\w'=w:=by
 go_in;go_wp2;go_ret;exact⟨rfl,rfl⟩
theorem QE(a b:BA)(w:World):Calls prog 175 #[Tz a,Tz b] w λe w'=>e=.returned (.bool (T6 a b))/\w'=w:=by
 have Hl:Hid (T6 a b=Op.bytesLess a.toList b.toList):=rfl;go_in;go_wp2_with (go_at_call 203;refine Sx (So _ _) ?_)
 go_ret;exact⟨D8 Hl.out.symm,rfl⟩
theorem Lh{j:Nat}{a b:Bool}(h1:i=j)(h2:a=b):Ending.returned (.tuple #[Iz (i:Int),.bool a])=.returned (.tuple #[Iz (j:Int),.bool b]):=by rw[h1,h2]
theorem QF(ss:List BA)(v:Value)(s:BA)(w:World)(h:Ls w v ss)(ha:Ad ss)(hn:ss.length<=1000):
  Calls prog 180 #[v,.string s] w λe w'=>e=.returned (.tuple #[.int .i64 (Ga ss s:Int),.bool (E3 ss s)])/\w'=w:=by
 obtain⟨a,c,rfl,-,-,a0⟩:=h;have Ha:Hid (Ad ss):=ha;clear ha;go_in;go_wp2_with fail;go_loopw [7,8,9] (λvi vj _ w'=>∃i j:Nat,i<=j/\j<=ss.length/\vi=.int .i64 i/\vj=.int .i64 j/\FB ss s i/\DJ ss s j/\w'=w) (λvi vj _ _=>(intOf vj).toNat-(intOf vi).toNat)
 case atStart=>exact⟨0,ss.length,by omega,by omega,rfl,rfl,λk x hk=>by omega,λk x hk hx=>by have:=(A3.1 hx).1;omega,rfl⟩
 case round =>
  obtain⟨i,j,a7,a4,rfl,rfl,a1,a2,hw⟩:=hrel;obtain rfl:=hw.symm;clear hw;have HL:Hid (FB ss s i):=a1;have HH:Hid (DJ ss s j):=a2;clear a1 a2;by_cases hp:i<j
  ·have a5:(i:Int)<(j:Int):=by omega
   obtain⟨b,o,rfl,hS,hb⟩:=a0 (by omega);have hm:(i+j) / 2<ss.length:=by omega
   have c0:=hS.cell hm;have HY:Hid (T6 ss[(i+j) / 2] s=true->FB ss s ((i+j) / 2+1)):=λhq=>We Ha.out HL.out hm hq;have HN:Hid (T6 ss[(i+j) / 2] s=false->DJ ss s ((i+j) / 2)):=λhq=>Ua Ha.out hm hq;generalize ss[(i+j) / 2]=s0 at *;obtain⟨m,a3,a8,a9⟩:∃m:Nat,(i+j) / 2=m/\i<=m/\m<j:=⟨_,rfl,by omega,by omega⟩;rw[a3] at c0 HY HN;have hI:((i:Int)+(j:Int)) / 2=(m:Int):=by omega
   have b0:m<ss.length:=by omega
   go_upto_region 5 with fail;try rw[hI]
   clear hI a3 hm;go_wp2_with fail;refine (QE s0 s _).mono ?_;rintro e w' ⟨rfl,hw⟩;obtain rfl:=hw.symm;clear hw;cases hq:T6 s0 s
   ·have Hq:Hid (DJ ss s m):=HN.out hq;go_wp2_with fail;go_roundw
    case rel=>exact⟨i,m,by omega,by omega,rfl,rfl,HL.out,Hq.out,by first|rfl|trivial⟩
    case measure=>simp[intOf];omega
   ·have Hq:Hid (FB ss s (m+1)):=HY.out hq;go_wp2_with fail;go_roundw
    case rel=>exact⟨m+1,j,by omega,by omega,by go_num,rfl,Hq.out,HH.out,by first|rfl|trivial⟩
    case measure=>simp[intOf];omega
  ·obtain rfl:i=j:=by omega
   have a5:¬(i:Int)<(i:Int):=by omega
   have HI:Hid (Ga ss s=i):=MB a4 HL.out HH.out;by_cases he:i<ss.length
   ·have a6:(i:Int)<(ss.length:Int):=by omega
    obtain⟨b,o,rfl,hS,hb⟩:=a0 (by omega);have c0:=hS.cell he;have HM:Hid (E3 ss s=((ss[i]).toList==s.toList)):=XE HL.out HH.out Ha.out he;generalize ss[i]=s0 at *;cases hq:(s0.toList==s.toList)
    ·have Hm:Hid (E3 ss s=false):=by show _=_;rw[HM.out,hq]
     go_wp2_with (go_at_call 204;refine (Ub _ _).mono ?_;rintro e w' ⟨rfl,hw⟩;obtain rfl:=hw.symm;clear hw)
     go_returns
     exact⟨Lh HI.out.symm Hm.out.symm,rfl⟩
    ·have Hm:Hid (E3 ss s=true):=by show _=_;rw[HM.out,hq]
     go_wp2_with fail;go_returns
     exact⟨Lh HI.out.symm Hm.out.symm,rfl⟩
   ·have a6:¬(i:Int)<(ss.length:Int):=by omega
    have Hm:Hid (E3 ss s=false):=Wf HL.out he;go_wp2_with fail;go_returns
    exact⟨Lh HI.out.symm Hm.out.symm,rfl⟩
theorem Gb(b:Bk)(v:Value)(nm:BA)(w:World)(h:Q6 w v b)(hok:J1 b):
  Calls prog 146 #[v,Tz nm] w λe w'=>e=.returned (.tuple #[Iz (Ga (G7 b.bs) nm:Int),.bool (E3 (G7 b.bs) nm)])/\Up w w':=by
 obtain⟨a1,c1,a2,c2,rfl,-,h2⟩:=h.parts;obtain⟨W1,a0,kA,a3,a4⟩:=cbE1 w [Vz a1 (b).tg.length c1,Vz a2 (b).bs.length c2] 26;have a7:b.bs.length<=5:=hok.2.1;have Ha:Hid (Ad (G7 b.bs)):=hok.2.2.2.1;go_in;go_upto_region 1 with fail;try rw[a0]
 clear a0 a4;obtain⟨e0,e1⟩:=kA.c2';go_wp2_with fail;refine (Df b.bs _ _ (h2.up a3) (by omega)).mono ?_;rintro e w2 ⟨⟨u,rfl,-,hl⟩,a6⟩;obtain⟨ax,cx,rfl,-⟩:=id hl;have a5:=D5 a3 a6;clear e0 e1;go_wp2_with fail;refine (QF (G7 b.bs) _ nm _ hl Ha.out (by rw[L8];omega)).mono ?_;rintro e w3 ⟨rfl,hw⟩;obtain rfl:=hw.symm;go_wp2_with fail;go_returns
 exact⟨rfl,a5⟩
end Go.Proofs.YtmonodehegcfhaaGreatDoor
namespace Go.Proofs.YtmonodehegcfhaaGreatDoor
open Go.Proofs.Tryz
open Go.ChangeShapes Go.WideShapes Go.ChangeAt Go.RowKit
variable{ac:Act}{ops:Array Oper}{x:Ba}{b:Bk}{nm s:BA}{bs:List Ba}{g g' gone nj ss ss':List BA}{rest:List Oper}{a base h i k n p:Nat}{o:Oper}{P:Program}{v:Value}{W w:World}
theorem Uc:prog.cellsOf 5=1:=by kernel_rfl
theorem NW{H:Type}{enc:TypeId×Value->H}{sp:Nat->Bool}{held:Bool}{d:DataW H}{p:List MemPlace}(hv:∃a l c,v=.slice a l c)
  (h:DataW.Trod enc prog W base sp held 22 v d p):∃(a:Option Addr)(l c:Nat),v=.slice a l c/\Av W W.heap.size (.slice a l c) l/\l<=c/\c<=maxLen:=by
 obtain⟨a0,l0,k0,rfl⟩:=hv;obtain⟨a2,hf⟩:=h;rcases open_ints underlying22 underlying5 Uc hf with⟨hcs,_⟩|⟨a,len,cap,zs,hcs,_,hl,hm,hz,_,hcell,hwf⟩
 ·have:Value.slice a0 l0 k0=.slice none 0 0:=by simpa [Value.cells] using hcs
  rw[this];exact⟨none,0,0,rfl,⟨none,0,rfl,.inl rfl⟩,A4 _,Nat.zero_le _⟩
 ·have:Value.slice a0 l0 k0=.slice (some a) len cap:=by simpa [Value.cells] using hcs
  rw[this];refine⟨some a,len,cap,rfl,⟨some a,cap,rfl,?_⟩,hl,hm⟩;rcases C3 len with h0|h0
  ·exact .inl h0
  ·have a3:len<=zs.length:=by rw[hz];split<;>omega
   obtain⟨b,o,a1⟩:=a;have c0:=hcell 0 (by omega);have hs:a1=none:=by simpa [Addr.add] using World.cell?_spot c0
   subst hs;refine .inr ⟨b,o,λi=>zs.getD i 0,rfl,World.block_lt_of_cell? W _ c0,λi hi=>⟨?_,?_⟩⟩
   ·have:=hcell i (by omega);rwa [Addr.add_mid] at this
   ·have:=range_u8 hwf i;simpa [List.getD_eq_getElem?_getD] using this
end Go.Proofs.YtmonodehegcfhaaGreatDoor
namespace Go.Proofs.YtmonodehegcfhaaGreatDoor
open Go.Proofs.Tryz
open Go.RowKit
variable{ac:Act}{ops:Array Oper}{x:Ba}{b:Bk}{nm s:BA}{bs:List Ba}{g g' gone nj ss ss':List BA}{rest:List Oper}{a base h i k n p:Nat}{o:Oper}{P:Program}{v:Value}{W w:World}
theorem Gy(base:Nat)(t ty e:TypeId)(i:TypeInfo)(z:Value)(size bytes:Nat)(ht:P.underlying t=some (.slice e))(hi:P.info? e=some i)(hz:i.zero=some z)
  (hsize:i.size=size) (hby:i.bytes=bytes) (hzs:z.cells.size=size) (hsz:0<size) (v:Value) (n:Nat) (xs:List Value) (hown:w.ownsRow base e size v n xs)
  (ad:Option Addr) (m c:Nat) (news:List Value) (hl:news.length=m*size) (hnews:0<m->∃d,ad=some d/\∀j u,news[j]?=some u->w.cell? (d.add j)=some u) (h1:∀u∈news,u.oneCell'=true)
  (h63:n+m<=maxLen) (hbytes:(n+m)*bytes<=140737488355328) (hbase:base<=w.heap.size) :
  ∃v' w',(Builtin.append_ #[t,t] ty #[v,.slice ad m c]).run P w=.ok v' w'/\w'.ownsRow base e size v' (n+m) (xs++news)/\w.grownBy w' v.ownBlock/\(NN v->NN v'):=by
 rcases C3 m with rfl|hm
 ·obtain rfl:news=[]:=C4.1 (by simpa using hl);exact⟨v,w,BI base t ty e i size ht hi v n xs hown ad c,by simpa using hown,E2 _ _,λh=>h⟩
 ·obtain⟨d,rfl,hn⟩:=hnews hm;obtain⟨v',w',hr,h2,h3,_⟩:=run_append_own (P:=P) w base t ty e i z size bytes ht hi hz hsize hby hzs hsz v n xs hown d m c news hl hn h1 h63 hbytes hbase;exact⟨v',w',hr,h2,h3,λ_=>by obtain⟨g,a0,e⟩:=I6 h2 (by omega);exact⟨g,_,_,e⟩⟩
theorem AR{P:Program}(w:World){ops:Array Oper}{rest:List Oper}{a:Act}{Q:Exit->Act->World->Prop}(hgd:o.guard=none)(s x:Operand)(t:TypeId)
  (hop:o.op=Op.call {callee:=Callee.builtin Builtin.append,args:=#[s,x],argTypes:=#[t,t]})
  (base:Nat) (e:TypeId) (i:TypeInfo) (z:Value) (size bytes:Nat) (ht:P.underlying t=some (.slice e)) (hi:P.info? e=some i) (hz:i.zero=some z)
  (hsize:i.size=size) (hby:i.bytes=bytes) (hzs:z.cells.size=size) (hsz:0<size) (v:Value) (n:Nat) (xs:List Value) (hs:a.eval s=v) (hown:w.ownsRow base e size v n xs)
  (ad:Option Addr) (m c:Nat) (news:List Value) (hx:a.eval x=.slice ad m c) (hl:news.length=m*size) (hnews:0<m->∃d,ad=some d/\∀j u,news[j]?=some u->w.cell? (d.add j)=some u) (h1:∀u∈news,u.oneCell'=true)
  (h63:n+m<=maxLen) (hbytes:(n+m)*bytes<=140737488355328) (hbase:base<=w.heap.size)
  (h:∀v' w',w'.ownsRow base e size v' (n+m) (xs++news)->w.grownBy w' v.ownBlock->(NN v->NN v')->wpList P ops Q rest (a.put o.dst v') w'):wpList P ops Q (o::rest) a w:=by
 refine wpList_plain hgd λK hK=>?_;obtain⟨v',w',hr,h2,h3,h4⟩:=Gy (P:=P) (w:=w) base t o.type e i z size bytes ht hi hz hsize hby hzs hsz v n xs hown ad m c news hl hnews h1 h63 hbytes hbase;unfold Oper.wp execOp;simp only[hop,resolve,invoke,builtin,Sem.run_bind,Sem.run_pure,Result.andThen_ok,List.map_toArray,List.map_cons,List.map_nil,hs,hx,hr];exact hK _ _ (h v' w' h2 h3 h4)
theorem P4{P:Program}{ops:Array Oper}{a:Act}{w:World}{K:Act->World->Prop}{Q:Exit->Act->World->Prop}{E:Prop}
  (hg:o.guard=none) (s x:Operand) (t:TypeId) (hop:o.op=Op.call {callee:=Callee.builtin Builtin.append,args:=#[s,x],argTypes:=#[t,t]})
  (base:Nat) (e:TypeId) (i:TypeInfo) (z:Value) (size bytes:Nat) (ht:P.underlying t=some (.slice e)) (hi:P.info? e=some i) (hz:i.zero=some z)
  (hsize:i.size=size) (hby:i.bytes=bytes) (hzs:z.cells.size=size) (hsz:0<size) (v:Value) (n:Nat) (xs:List Value) (hs:a.eval s=v) (hown:w.ownsRow base e size v n xs)
  (ad:Option Addr) (m c:Nat) (news:List Value) (hx:a.eval x=.slice ad m c) (hl:news.length=m*size) (hnews:0<m->∃d,ad=some d/\∀j u,news[j]?=some u->w.cell? (d.add j)=some u) (h1:∀u∈news,u.oneCell'=true)
  (h63:n+m<=maxLen) (hbytes:(n+m)*bytes<=140737488355328) (hbase:base<=w.heap.size)
  (hK:∀v' w',w'.ownsRow base e size v' (n+m) (xs++news)->w.grownBy w' v.ownBlock->(NN v->NN v')->K (a.put o.dst v') w') :
  if Region.wanted o (yielded ops a.tmps)=true then Oper.wp P o a w K Q else E:=by
 have hw:Region.wanted o (yielded ops a.tmps)=true:=by simp[Region.wanted,hg]
 rw[if_pos hw];obtain⟨v',w',hr,h2,h3,h4⟩:=Gy (P:=P) (w:=w) base t o.type e i z size bytes ht hi hz hsize hby hzs hsz v n xs hown ad m c news hl hnews h1 h63 hbytes hbase;unfold Oper.wp;simp[execOp,hop,resolve,invoke,builtin,hs,hx,hr,Result.andThen];exact hK v' w' h2 h3 h4
end Go.Proofs.YtmonodehegcfhaaGreatDoor
