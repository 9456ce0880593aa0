/- The program's walks over books (chapter 11): ok or not, who has what. -/
import Derived.Test.YtmonodehegcfhaaGreatDoorJ6
import Derived.Test.YtmonodehegcfhaaGreatDoorJ2
import Derived.Laws.OwnMore
namespace Go.Proofs.YtmonodehegcfhaaGreatDoor
open Go.Proofs.Tryz
open Go.RowKit Go.Maps
variable{ac:Act}{ops:Array Oper}{tmps:Array Value}{x:Ba}{b:Bk}{s:BA}{bs:List Ba}{gone l order tg:List BA}{rest:List Oper}{xs xs':List Value}{a base e j k n rk:Nat}{o:Oper}{r:Option Nat}{P:Program}{T:TypeId}{v v' x0 x1 y0 y1:Value}{w w':World}
theorem Rp(h8:tg.length<=8)(h:AW tg bs bs.length):∀x∈bs,Ad x.has/\x.has.length<=8:=λx hx=>by
 obtain⟨i,hi,rfl⟩:=B7 hx;obtain⟨h1,h2⟩:=h.at hi hi;have e1:=V8 h1;have e2:=V8 h2;exact⟨h2.2,by omega⟩
set_option maxHeartbeats 2000000 in
theorem IA(b:Bk)(v:Value)(w:World)(h:Q6 w v b):
  Calls prog 167 #[v] w λe w'=>e=.returned (.bool (K4 b))/\Up w w':=by
 obtain⟨a1,c1,a2,c2,rfl,h1,h2⟩:=h.parts;have hC:CB (w.alloc (Kz [Vz a1 (b).tg.length c1,Vz a2 (b).bs.length c2] 26)) w.heap.size [Vz a1 b.tg.length c1,Vz a2 b.bs.length c2]:=F3 w _ _;have a0:=(A5 w.heap.size w).alloc (A4 _) (Kz [Vz a1 (b).tg.length c1,Vz a2 (b).bs.length c2] 26);have g1:=h1.inv.1;have g2:=h2.at.1;unfold maxLen at g1 g2;go_in;go_upto_region 1 with fail;generalize w.alloc (Kz [Vz a1 (b).tg.length c1,Vz a2 (b).bs.length c2] 26)=W1 at *;have l1:=h1.up a0;have l2:=h2.up a0;obtain⟨e0,e1⟩:=hC.c2';have c0:=hC.2.2;clear h h1 h2;by_cases h8:8<b.tg.length
 ·have Hq:Hid (K4 b=false):=I5 λh=>by have:=h.1.1;omega
  go_wp2_with fail;go_ret;exact⟨D8 Hq.out.symm,a0⟩
 by_cases h5:5<b.bs.length
 ·have Hq:Hid (K4 b=false):=I5 λh=>by have:=h.2.1;omega
  go_wp2_with fail;go_ret;exact⟨D8 Hq.out.symm,a0⟩
 cases ho:pB (Dc b.tg/\Ad b.tg)
 ·have Hq:Hid (K4 b=false):=I5 λh=>S1.1 ho ⟨h.1.2.1,h.1.2.2⟩;go_wp2_with fail;refine (GR b.tg _ _ l1).mono ?_;rintro e w2 ⟨rfl,hB⟩;rw[ho];go_wp2_with fail;go_ret;exact⟨D8 Hq.out.symm,D5 a0 hB⟩
 have Ho:Hid (CM b.tg):=⟨by omega,(K5.1 ho).1,(K5.1 ho).2⟩;go_wp2_with fail;refine (GR b.tg _ _ l1).mono ?_;rintro e w2 ⟨rfl,a8⟩;rw[ho];clear ho;obtain⟨hc,hf⟩:=G9 a8;go_wp2_with fail;refine (Df b.bs _ _ (l2.up a8) (by omega)).mono ?_;rintro e w3 ⟨⟨u,rfl,-,hu⟩,b6⟩;clear hc hf;obtain⟨au,cu,rfl,-⟩:=id hu;go_wp2_with fail;refine (GR (G7 b.bs) _ _ hu).mono ?_;rintro e w4 ⟨rfl,b7⟩;have hB:=D5 (D5 a8 b6) b7;clear a8 b6 b7 hu;cases hn:pB (Dc (G7 b.bs)/\Ad (G7 b.bs))
 ·have Hq:Hid (K4 b=false):=I5 λh=>S1.1 hn ⟨h.2.2.1,h.2.2.2.1⟩;go_wp2_with fail;go_ret;exact⟨D8 Hq.out.symm,D5 a0 hB⟩
 have Hn:Hid (Dc (G7 b.bs)/\Ad (G7 b.bs)):=K5.1 hn;clear hn;obtain⟨hc,hf⟩:=G9 hB;obtain⟨-,b0⟩:=l2.at;have b8:=hB.size;go_wp2_with fail;clear hc hf;go_loopw [4,31] (λ_ i w'=>∃k:Nat,k<=b.bs.length/\i=.int .i64 k/\AW b.tg b.bs k/\Up W1 w') (λ_ i _=>b.bs.length-(intOf i).toNat)
 case atStart=>exact⟨0,by omega,rfl,AW.zero _ _,hB⟩
 case round =>
  clear hB b8;obtain⟨k,hk,rfl,b1,hB⟩:=hrel;have Hal:Hid (AW b.tg b.bs k):=b1;clear b1;by_cases hp:k<b.bs.length
  ·obtain⟨bb,o,rfl,hS,hb⟩:=b0 (by omega);obtain⟨a3,d3,a4,d4,c3,c4,c5,l3,l4,-⟩:=((hS.at hp).up hB hb).cells;have HS:Hid (FR b.tg b.bs[k]->AW b.tg b.bs (k+1)):=λh=>Hal.out.step hp h;have HN:Hid (¬FR b.tg b.bs[k]->K4 b=false):=λh=>I5 λhb=>h (hb.2.2.2.2.1.at hp hp);generalize b.bs[k]=x0 at *;have b2:CB (wr.alloc (Kz [Tz (x0).nm,Vz a3 (x0).has.length d3,Vz a4 (x0).nj.length d4] 115)) wr.heap.size [Tz x0.nm,Vz a3 x0.has.length d3,Vz a4 x0.nj.length d4]:=F3 wr _ _;have a6:=(A5 wr.heap.size wr).alloc (A4 _) (Kz [Tz (x0).nm,Vz a3 (x0).has.length d3,Vz a4 (x0).nj.length d4] 115);go_upto_region 8 with fail;generalize wr.alloc (Kz [Tz (x0).nm,Vz a3 (x0).has.length d3,Vz a4 (x0).nj.length d4] 115)=W2 at *;have a7:=D5 hB a6;have b3:=l3.up a6;have b4:=l4.up a6;have b5:=l1.up a7;obtain⟨⟨q0,q1,q2⟩,-⟩:=b2.c3;obtain⟨hc,hf⟩:=G9 a7;clear c3 c4 c5 l3 l4 a6 hB hS;go_wp2_with fail;refine (Qp x0 b.tg _ _ _ _ b3 b4 b5).mono ?_;rintro e w6 ⟨rfl,a9⟩;have a5:=D5 a7 a9;clear hc hf q0 q1 q2 b3 b4 b5 a7 a9 b2;cases hq:pB (FR b.tg x0)
   ·have Hq:Hid (K4 b=false):=HN.out (S1.1 hq);go_wp2_with fail;go_ret;exact⟨D8 Hq.out.symm,D5 a0 a5⟩
   ·have Hq:Hid (AW b.tg b.bs (k+1)):=HS.out (K5.1 hq);go_wp2_with fail;go_roundw
    case rel=>exact⟨k+1,by omega,by go_num,Hq.out,a5⟩
    case measure=>simp[intOf];omega
  ·have Hq:Hid (AW b.tg b.bs b.bs.length):=Ri Hal.out hp;have b9:∀x∈b.bs,Ad x.has/\x.has.length<=8:=Rp (by omega) Hq.out;obtain⟨hc,hf⟩:=G9 hB;go_wp2_with fail;refine (KI b.bs _ _ (l2.up hB) (by omega) b9).mono ?_;rintro e w6 ⟨hh,a9⟩;have a5:=D5 hB a9;clear hc hf;rcases hh with⟨hA,M,n,D,rfl,-,-,-⟩|⟨hA,rfl⟩
   ·have Hy:Hid (K4 b=true):=L9 ⟨Ho.out,by omega,Hn.out.1,Hn.out.2,Hq.out,hA⟩;go_wp2_with fail;go_ret;exact⟨D8 Hy.out.symm,D5 a0 a5⟩
   ·have Hy:Hid (K4 b=false):=I5 λh=>hA h.2.2.2.2.2;go_wp2_with fail;go_ret;exact⟨D8 Hy.out.symm,D5 a0 a5⟩
end Go.Proofs.YtmonodehegcfhaaGreatDoor
namespace Go.Proofs.YtmonodehegcfhaaGreatDoor
open Go.Proofs.Tryz
open Go.RowKit
variable{ac:Act}{ops:Array Oper}{tmps:Array Value}{x:Ba}{b:Bk}{s:BA}{bs:List Ba}{gone l order tg:List BA}{rest:List Oper}{xs xs':List Value}{a base e j k n rk:Nat}{o:Oper}{r:Option Nat}{P:Program}{T:TypeId}{v v' x0 x1 y0 y1:Value}{w w':World}
theorem BI(base:Nat)(t ty e:TypeId)(i:TypeInfo)(size:Nat)(ht:P.underlying t=some (.slice e))(hi:P.info? e=some i)
  (v:Value) (n:Nat) (xs:List Value) (hown:w.ownsRow base e size v n xs) (a:Option Addr) (c:Nat):(Builtin.append_ #[t,t] ty #[v,.slice a 0 c]).run P w=.ok v w:=by
 rcases hown.2 with⟨rfl,rfl⟩|⟨g,cap,cur,rfl,_,_,hnc,_⟩
 ·cases a<;>simp[Builtin.append_,run_underlying ht,sizeOf,typeInfo,hi,Builtin.lenOf,Builtin.firstCells,loadCells,loadCellsFrom,Result.andThen]
 ·cases a<;>simp[Builtin.append_,run_underlying ht,sizeOf,typeInfo,hi,Builtin.lenOf,Builtin.firstCells,hnc,storeCells,loadCells,loadCellsFrom,Result.andThen]
theorem JL(w:World){Q:Exit->Act->World->Prop}(hg:o.guard=none)(s x:Operand)(t:TypeId)(hop:o.op=.call {callee:=.builtin .append,args:=#[s,x],argTypes:=#[t,t]})
  (base:Nat) (e:TypeId) (i:TypeInfo) (size:Nat) (ht:P.underlying t=some (.slice e)) (hi:P.info? e=some i) (v:Value) (n:Nat) (xs:List Value) (hs:ac.eval s=v) (hown:w.ownsRow base e size v n xs) (a:Option Addr) (c:Nat) (hx:ac.eval x=.slice a 0 c)
  (h:wpList P ops Q rest (ac.put o.dst v) w):wpList P ops Q (o::rest) ac w:=by
 refine wpList_plain hg λK hK=>?_;have hr:=BI (P:=P) base t o.type e i size ht hi v n xs hown a c;unfold Oper.wp;simp[execOp,hop,resolve,invoke,builtin,hs,hx,hr,Result.andThen];exact hK _ _ h
def NN(u:Value):Prop:=∃g n c,u=.slice (some ⟨g,0,none⟩) n c
theorem Fj(w:World):F7 (w.alloc (Kz [] 9)) w.heap.size (Sz w.heap.size 0 0) []:=C0 w #[] 0 (A4 _) (by unfold maxLen;omega) rfl
theorem Xx{fn:Func}{q:Tmp}(h:fn.results=#[.cell q T]){d:TypeDesc}(hu:P.underlying T=some d)(hd:d.isRow=true)(hi:(P.info? T).map (·.size)=some 3){R:Ending->World->Prop}{y2 x2:Value}
  (k:CB w rk [y0,y1,y2]) (ht:tmps.getD q undef=Pz rk 0) (hR:R (.returned (.agg #[x0,x1,x2])) (((w.setCell ⟨rk,0,none⟩ x0).setCell ⟨rk,1,none⟩ x1).setCell ⟨rk,2,none⟩ x2)) :
  bodyPost P fn R .ret {tmps:=tmps,defers:=[]} (((w.setCell ⟨rk,0,none⟩ x0).setCell ⟨rk,1,none⟩ x1).setCell ⟨rk,2,none⟩ x2) :=
 bodyPost_ret (JC (cs:=[x0,x1,x2]) h hu hd hi ht (k.copy3 x0 x1 x2)) rfl hR
theorem FM{fn:Func}{q:Tmp}(h:fn.results=#[.cell q T]){d:TypeDesc}(hu:P.underlying T=some d)(hd:d.isRow=true)(hi:(P.info? T).map (·.size)=some 2){R:Ending->World->Prop}
  (k:CB w rk [y0,y1]) (ht:tmps.getD q undef=Pz rk 0) (hR:R (.returned (.agg #[x0,x1])) ((w.setCell ⟨rk,0,none⟩ x0).setCell ⟨rk,1,none⟩ x1)) :
  bodyPost P fn R .ret {tmps:=tmps,defers:=[]} ((w.setCell ⟨rk,0,none⟩ x0).setCell ⟨rk,1,none⟩ x1) :=
 bodyPost_ret (JC (cs:=[x0,x1]) h hu hd hi ht (k.copy2 x0 x1)) rfl hR
theorem Cs:(prog.info? 115).map (λi=>(i.zero,i.size,i.bytes))=some (some (.agg #[Ez,Nz,Nz]),3,64):=by kernel_rfl
abbrev Bv:=Ba×Value×Value
def O3(p:Bv):List Value:=[.string p.1.nm,p.2.1,p.2.2]
def E8:List Bv->List Value
 | []=>[]
 | p::r=>O3 p++E8 r
theorem R6:∀ps:List Bv,(E8 ps).length=ps.length*3
 | []=>rfl
 | p::r=>by rw[E8,B0,R6 r,List.length_cons];simp[O3];omega
theorem Dh(p:Bv):∀ps:List Bv,E8 (ps++[p])=E8 ps++O3 p
 | []=>by simp[E8]
 | q::r=>by rw[List.cons_append,E8,E8,Dh p r,List.append_assoc]
def Bq(w:World)(base:Nat)(v:Value)(ps:List Bv):Prop:=w.ownsRow base 115 3 v ps.length (E8 ps)/\∀p∈ps,F7 w base p.2.1 p.1.has/\F7 w base p.2.2 p.1.nj/\p.1.nm.size<=maxLen
theorem Bq.up{ps:List Bv}(h:Bq w base v ps)(hb:Up w w'):Bq w' base v ps :=
 ⟨E4 h.1 hb,λp hp=>⟨(h.2 p hp).1.up hb,(h.2 p hp).2.1.up hb,(h.2 p hp).2.2⟩⟩
theorem E9{base' e' s s' n':Nat}(h:w.ownsRow base e s v n xs)(h':w.ownsRow base' e' s' v' n' xs')(hne:e≠e'):∀g,v.ownBlock=some g->some g≠v'.ownBlock:=λg hg hg'=>by
 rcases h.2 with⟨rfl,_⟩|⟨g1,cap,cur,rfl,_,hh,_⟩
 ·simp[Value.ownBlock] at hg
 ·rcases h'.2 with⟨rfl,_⟩|⟨g2,cap',cur',rfl,_,hh',_⟩
  ·simp[Value.ownBlock] at hg'
  ·simp[Value.ownBlock] at hg hg';subst hg hg';rw[hh] at hh';simp at hh';exact hne hh'.2
theorem E5{s:Nat}(h:w.ownsRow base e s v n xs)(hg:w.grownBy w' r)(hne:∀g,v.ownBlock=some g->some g≠r):w'.ownsRow base e s v n xs:=by
 refine⟨h.1,?_⟩;rcases h.2 with h0|⟨g,cap,cur,hv,hb,hh,q⟩
 ·exact .inl h0
 ·refine .inr ⟨g,cap,cur,hv,hb,?_,q⟩;rw[hg.block g (D3.1 hh).1 (hne g (by rw[hv];rfl))];exact hh
theorem Xy{wr Wl:World}{xv hu nu:Value}{ps:List Bv}{o':Obj}(hW:Bq wr base xv ps)(hb:Up wr Wl)(hoh:F7 Wl base hu x.has)(hon:F7 Wl base nu x.nj)(hz:x.nm.size<=maxLen)
  (hgr:(Wl.alloc o').grownBy w' xv.ownBlock) (hown:w'.ownsRow base 115 3 v' (ps.length+1) (E8 ps++[Tz x.nm,hu,nu])):Bq w' base v' (ps++[(x,hu,nu)]):=by
 have ha:Up Wl (Wl.alloc o'):=(A5 _ _).alloc (A4 _) _;have a0:=E4 (E4 hW.1 hb) ha;refine⟨by rw[B0,Dh];exact hown,λp hp=>?_⟩;rcases D0.1 hp with h|h
 ·obtain⟨q1,q2,q3⟩:=hW.2 p h;have r1:=(q1.up hb).up ha;have r2:=(q2.up hb).up ha;exact⟨E5 r1 hgr (E9 r1 a0 (by decide)),E5 r2 hgr (E9 r2 a0 (by decide)),q3⟩
 ·obtain rfl:p=(x,hu,nu):=by simpa using h
  have r1:=hoh.up ha;have r2:=hon.up ha;exact⟨E5 r1 hgr (E9 r1 a0 (by decide)),E5 r2 hgr (E9 r2 a0 (by decide)),hz⟩
theorem Gu(w:World)(x y z:Value)(ty:TypeId)(h:[x,y,z][j]?=some v):(w.alloc (Kz [x,y,z] ty)).cell? ((⟨w.heap.size,0,none⟩:Addr).add j)=some v:=by
 have:=(F3 w [x,y,z] ty).1 j v h;rw[Addr.add_mid];exact this
end Go.Proofs.YtmonodehegcfhaaGreatDoor
namespace Go.Proofs.YtmonodehegcfhaaGreatDoor
open Go.Proofs.Tryz
variable{ac:Act}{ops:Array Oper}{tmps:Array Value}{x:Ba}{b:Bk}{s:BA}{bs:List Ba}{gone l order tg:List BA}{rest:List Oper}{xs xs':List Value}{a base e j k n rk:Nat}{o:Oper}{r:Option Nat}{P:Program}{T:TypeId}{v v' x0 x1 y0 y1:Value}{w w':World}
def G5:List BA->(BA->Bool)->Nat
 | [],_=>0
 | t::r,P=>(if P t=true then 1 else 0)+2*G5 r P
theorem LG(P:BA->Bool)(t:BA):∀l:List BA,G5 (l++[t]) P=G5 l P+(if P t=true then 2 ^ l.length else 0)
 | []=>by simp[G5]
 | x::r=>by
  rw[List.cons_append,G5,G5,LG P t r,List.length_cons,Nat.pow_succ];split<;>split<;>omega
theorem OC(P:BA->Bool):∀l:List BA,G5 l P<2 ^ l.length
 | []=>by simp[G5]
 | x::r=>by
  have:=OC P r;rw[G5,List.length_cons,Nat.pow_succ];split<;>omega
theorem Ag(h:l.length<=8)(P:BA->Bool):G5 l P<256 :=
 A2 (OC P l) (Nat.pow_le_pow_right (by omega) h)
theorem Dr{P Q:BA->Bool}:∀{l:List BA},(∀t∈l,P t=Q t)->G5 l P=G5 l Q
 | [],_=>rfl
 | x::r,h=>by rw[G5,G5,h x (by simp),Dr λt ht=>h t (by simp[ht])]
theorem Gv{P Q:BA->Bool}:∀{l:List BA},(∀t∈l,P t=true->Q t=false)->G5 l P+G5 l Q=G5 l λt=>P t || Q t
 | [],_=>rfl
 | x::r,h=>by
  have h1:=Gv (P:=P) (Q:=Q) (l:=r) λt ht=>h t (by simp[ht]);have h2:=h x (by simp);rw[G5,G5,G5,← h1];cases hp:P x<;>cases hq:Q x<;>simp_all<;>omega
theorem TT{P Q:BA->Bool}(h:∀t∈l,Q t=true->P t=true):G5 l P=G5 l Q+G5 l λt=>P t && !Q t:=by
 rw[Gv (λt _ hq=>by simp[hq])];refine Dr λt ht=>?_;cases hq:Q t
 ·simp
 ·simp[h t ht hq]
theorem Ec(P:BA->Bool):∀(l:List BA)(i:Nat),(G5 l P).testBit i=(l[i]?.map P).getD false
 | [],i=>by simp[G5]
 | x::r,0=>by
  rw[G5,Nat.testBit_zero];have e:((if P x=true then 1 else 0)+2*G5 r P) % 2=(if P x=true then 1 else 0):=by split<;>omega
  rw[e];cases h:P x<;>simp[h]
 | x::r,i+1=>by
  rw[G5,Nat.testBit_succ,List.getElem?_cons_succ,← Ec P r i];congr 1
  split<;>omega
theorem TU{P Q:BA->Bool}(hl:l.length<=8):(G5 l P &&& (18446744073709551615-G5 l Q)=0)↔∀t∈l,P t=true->Q t=true:=by
 have hQ:=Ag hl Q;have e:18446744073709551615-G5 l Q=2 ^ 64-(G5 l Q+1):=by omega
 constructor
 ·intro h t ht hp;obtain⟨i,hi,rfl⟩:=B7 ht;have h1:=congrArg (Nat.testBit · i) h;simp only[Nat.testBit_and,Nat.zero_testBit] at h1;rw[e,Nat.testBit_two_pow_sub_succ (by omega),Ec,Ec,A0 hi] at h1;simp[hp] at h1;exact h1 (by omega)
 ·intro h;refine Nat.eq_of_testBit_eq λi=>?_;rw[Nat.testBit_and,Nat.zero_testBit,e,Nat.testBit_two_pow_sub_succ (by omega),Ec,Ec];rcases Nat.lt_or_ge i l.length with hi|hi
  ·rw[A0 hi];have:=h l[i] (List.getElem_mem hi);cases hp:P l[i]<;>simp_all
  ·rw[C6 hi];simp
def CI(bs:List Ba)(at':Nat)(gone:List BA)(k:Nat):Prop:=∀(i:Nat)(x y:Ba),i<k->i≠at'->bs[i]?=some x->bs[at']?=some y->E3 gone x.nm=false->O2 x.has y.nj=false
def Fk(bs:List Ba)(at':Nat)(gone:List BA):Prop:=CI bs at' gone bs.length
theorem CI.zero(bs:List Ba)(a:Nat)(gone:List BA):CI bs a gone 0:=λi _ _ h=>by omega
theorem Xz(h:CI bs a gone k)(hk:¬k<bs.length):Fk bs a gone:=λi x y hi hne hx hy hm=>h i x y (by omega) hne hx hy hm
theorem CI.step(h:CI bs a gone k)(hk:k<bs.length)(ha:a<bs.length)(h1:k=a∨E3 gone (bs[k]).nm=true∨O2 (bs[k]).has (bs[a]).nj=false):CI bs a gone (k+1):=λi x y hi hne hx hy hm=>by
 by_cases e:i=k
 ·subst e;rw[A0 hk] at hx;rw[A0 ha] at hy;obtain rfl:=A6 hx;obtain rfl:=A6 hy;rcases h1 with h1|h1|h1
  ·exact absurd h1 hne
  ·rw[hm] at h1;cases h1
  ·exact h1
 ·exact h i x y (by omega) hne hx hy hm
theorem Yr(hk:k<bs.length)(ha:a<bs.length)(hne:k≠a)(hm:E3 gone (bs[k]).nm=false)(hs:O2 (bs[k]).has (bs[a]).nj=true):¬Fk bs a gone:=λh=>by
 have:=h k _ _ hk hne (A0 hk) (A0 ha) hm;rw[hs] at this;cases this
def Of(bs:List Ba)(G:Nat->Bool)(k:Nat)(t:BA):Bool:=(List.range k).all λi=>G i || !((bs[i]?.map λx=>E3 x.has t).getD false)
theorem JM(bs:List Ba)(G:Nat->Bool)(k:Nat)(t:BA):Of bs G k t=true↔∀(i:Nat)(x:Ba),i<k->bs[i]?=some x->G i=false->E3 x.has t=false:=by
 simp only[Of,List.all_eq_true,List.mem_range];constructor
 ·intro h i x hi hx hg;have:=h i hi;rw[hx,hg] at this;simpa using this
 ·intro h i hi;cases hg:G i
  ·cases hx:bs[i]? with
   | none=>simp
   | some x=>simp[h i x hi hx hg]
  ·rfl
theorem VS(hok:J1 b)(ha:a<b.bs.length){G:Nat->Bool}(hG:∀(i:Nat)(hi:i<b.bs.length),G i=E3 gone (b.bs[i]).nm)(hga:G a=false):
  (∀t∈b.tg,E3 (b.bs[a]).nj t=true->(Of b.bs G b.bs.length t || E3 (b.bs[a]).has t)=true)↔Fk b.bs a gone:=by
 have hb:=hok.2.2.2.2.1.at ha ha;constructor
 ·intro h i x y hi hne hx hy hm;rw[A0 hi] at hx;rw[A0 ha] at hy;obtain rfl:=A6 hx;obtain rfl:=A6 hy;rw[Z9];intro s h1 h2;have h3:=h s (FQ hb.1.1 h2) ((S5 _ _).2 h2);rcases Bool.or_eq_true_iff.1 h3 with h4|h4
  ·have:=(JM _ _ _ _).1 h4 i _ hi (A0 hi) (by rw[hG i hi];exact hm);rw[U6] at this;exact this h1
  ·have h5:=(S5 _ _).1 h4;rcases Nat.lt_or_gt_of_ne hne with h6|h6
   ·have:=hok.2.2.2.2.2.at ha h6;rw[Z9] at this;exact this s h5 h1
   ·have:=hok.2.2.2.2.2.at hi h6;rw[Z9] at this;exact this s h1 h5
 ·intro h t ht hn;cases hh:E3 (b.bs[a]).has t
  ·rw[Bool.or_false,JM];intro i x hi hx hg;rw[A0 hi] at hx;obtain rfl:=A6 hx;by_cases e:i=a
   ·subst e;exact hh
   ·have:=h i _ _ hi e (A0 hi) (A0 ha) (by rw[← hG i hi];exact hg);rw[Z9] at this;rw[U6];exact λh1=>this t h1 ((S5 _ _).1 hn)
  ·simp
def Fl(bs:List Ba)(order:List BA)(k:Nat):Prop:=∀(i:Nat)(s:BA),i<k->order[i]?=some s->0<=T5 (G7 bs) s/\E3 (order.take i) s=false/\Fk bs (T5 (G7 bs) s).toNat (order.take i)
def Ld(b:Bk)(order:List BA):Prop:=J1 b/\order.length=b.bs.length/\Fl b.bs order order.length
theorem Fl.zero(bs:List Ba)(order:List BA):Fl bs order 0:=λi _ h=>by omega
theorem Fl.step(h:Fl bs order k)(hk:k<order.length)(h1:0<=T5 (G7 bs) order[k]/\E3 (order.take k) order[k]=false/\Fk bs (T5 (G7 bs) order[k]).toNat (order.take k)):Fl bs order (k+1):=λi s hi hs=>by
 by_cases e:i=k
 ·subst e;rw[A0 hk] at hs;obtain rfl:=A6 hs;exact h1
 ·exact h i s (by omega) hs
theorem Ia(h:0<=T5 l s):∃k:Nat,T5 l s=(k:Int)/\∃hk:k<l.length,l[k]=s:=by
 rw[T5] at h ⊢
 split at h
 ·rename_i hm;rw[if_pos hm];refine⟨_,rfl,?_⟩
  have hl:l.findIdx (λx=>x.toList==s.toList)<l.length:=by
   rw[List.findIdx_lt_length];rw[E3,List.any_eq_true] at hm;exact hm
  refine⟨hl,?_⟩;have:=List.findIdx_getElem (w:=hl);exact CL (by simpa using this)
 ·omega
end Go.Proofs.YtmonodehegcfhaaGreatDoor
