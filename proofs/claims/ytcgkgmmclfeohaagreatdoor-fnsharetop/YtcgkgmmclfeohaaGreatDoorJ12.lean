/- What opening an argument leans on: lists, cells, texts and numbers that can be read. -/
import Derived.Test.YtcgkgmmclfeohaaGreatDoorRows
import Derived.Test.YtcgkgmmclfeohaaGreatDoorJ3
import Derived.ProofKit
import Derived.OpenShut
import Derived.OpenVars
import Derived.LaidLaws
import Derived.Lib.LaidTab
import Derived.ChangeBears2
import Derived.Deep.DeepHandedRow
import Derived.Test.YtcgkgmmclfeohaaGreatDoorJ7
import Derived.Test.YtcgkgmmclfeohaaGreatDoorKf
set_option maxHeartbeats 2000000
namespace Go.Proofs.YtcgkgmmclfeohaaGreatDoor
open Go.Proofs.Tryz
open Go.ChangeShapes Go.WideShapes Go.ChangeAt Go.RowKit
variable{tmps:Array Value}{b:Bk}{x:BA}{ps qs:List Bv}{ss tg:List BA}{xs ys:List Value}{base c cap e g k n rk size:Nat}{r:Option Nat}{P:Program}{T:TypeId}{u v v' y:Value}{W W' w w':World}
theorem own:ownKnob prog.godebug=none:=by kernel_rfl
theorem Uv:laidOutB prog=true:=by kernel_rfl
end Go.Proofs.YtcgkgmmclfeohaaGreatDoor
namespace Go.Proofs.YtcgkgmmclfeohaaGreatDoor
open Go.Proofs.Tryz
open Go.RowKit Go.Maps
variable{tmps:Array Value}{b:Bk}{x:BA}{ps qs:List Bv}{ss tg:List BA}{xs ys:List Value}{base c cap e g k n rk size:Nat}{r:Option Nat}{P:Program}{T:TypeId}{u v v' y:Value}{W W' w w':World}
theorem Uw{bs:List Ba}(h8:tg.length<=8)(h:Bu tg bs bs.length):∀x∈bs,AM x.has/\x.has.length<=8:=λx hx=>by
 obtain⟨i,hi,rfl⟩:=B7 hx;obtain⟨h1,h2⟩:=h.at hi hi;have e1:=Ac h1;have e2:=Ac h2;exact⟨h2.2,by omega⟩
theorem Cf(b:Bk)(v:Value)(w:World)(h:K6 w v b):
  Calls prog 14 #[v] w λe w'=>e=.returned (.bool (J6 b))/\Up w w':=by
 obtain⟨a1,c1,a2,c2,rfl,h1,h2⟩:=h.parts;have hC:CB (w.alloc (Kz [Vz a1 (b).tg.length c1,Vz a2 (b).bs.length c2] 26)) w.heap.size [Vz a1 b.tg.length c1,Vz a2 b.bs.length c2]:=O7 w _ _;have a0:=(A4 w.heap.size w).alloc (A3 _) (Kz [Vz a1 (b).tg.length c1,Vz a2 (b).bs.length c2] 26);have g1:=h1.inv.1;have g2:=h2.at.1;unfold maxLen at g1 g2;go_in;go_upto_region 1 with fail;generalize w.alloc (Kz [Vz a1 (b).tg.length c1,Vz a2 (b).bs.length c2] 26)=W1 at *;have l1:=h1.up a0;have l2:=h2.up a0;obtain⟨e0,e1⟩:=hC.c2';have c6:=hC.2.2;clear h h1 h2;by_cases h8:8<b.tg.length
 ·have Hq:Hid (J6 b=false):=AL λh=>by have:=h.1.1;omega
  go_wp2_with fail;go_ret;exact⟨J5 Hq.out.symm,a0⟩
 by_cases h5:5<b.bs.length
 ·have Hq:Hid (J6 b=false):=AL λh=>by have:=h.2.1;omega
  go_wp2_with fail;go_ret;exact⟨J5 Hq.out.symm,a0⟩
 cases ho:pB (Dq b.tg/\AM b.tg)
 ·have Hq:Hid (J6 b=false):=AL λh=>Cc.1 ho ⟨h.1.2.1,h.1.2.2⟩;go_wp2_with fail;refine (IF b.tg _ _ l1).mono ?_;rintro e w2 ⟨rfl,hB⟩;rw[ho];go_wp2_with fail;go_ret;exact⟨J5 Hq.out.symm,D4 a0 hB⟩
 have Ho:Hid (CP b.tg):=⟨by omega,(U9.1 ho).1,(U9.1 ho).2⟩;go_wp2_with fail;refine (IF b.tg _ _ l1).mono ?_;rintro e w2 ⟨rfl,a8⟩;rw[ho];clear ho;obtain⟨hc,hf⟩:=Dp a8;go_wp2_with fail;refine (IQ b.bs _ _ (l2.up a8) (by omega)).mono ?_;rintro e w3 ⟨⟨u,rfl,-,hu⟩,b6⟩;clear hc hf;obtain⟨au,cu,rfl,-⟩:=id hu;go_wp2_with fail;refine (IF (I3 b.bs) _ _ hu).mono ?_;rintro e w4 ⟨rfl,b7⟩;have hB:=D4 (D4 a8 b6) b7;clear a8 b6 b7 hu;cases hn:pB (Dq (I3 b.bs)/\AM (I3 b.bs))
 ·have Hq:Hid (J6 b=false):=AL λh=>Cc.1 hn ⟨h.2.2.1,h.2.2.2.1⟩;go_wp2_with fail;go_ret;exact⟨J5 Hq.out.symm,D4 a0 hB⟩
 have Hn:Hid (Dq (I3 b.bs)/\AM (I3 b.bs)):=U9.1 hn;clear hn;obtain⟨hc,hf⟩:=Dp hB;obtain⟨-,b0⟩:=l2.at;have b8:=hB.size;go_wp2_with fail;clear hc hf;(try dsimp only[Iz,Sz,Sy,Nz,Vz,Tz,Ez,Pz]);go_loopw [4,31] (λ_ i w'=>∃k:Nat,k<=b.bs.length/\i=.int .i64 k/\Bu b.tg b.bs k/\Up W1 w') (λ_ i _=>b.bs.length-(intOf i).toNat)
 case atStart=>exact⟨0,by omega,rfl,Bu.zero _ _,hB⟩
 case round =>
  clear hB b8;obtain⟨k,hk,rfl,b1,hB⟩:=hrel;have Hal:Hid (Bu b.tg b.bs k):=b1;clear b1;by_cases hp:k<b.bs.length
  ·obtain⟨bb,o,rfl,hS,hb⟩:=b0 (by omega);obtain⟨a3,d3,a4,d4,c3,c4,c5,l3,l4,-⟩:=((hS.at hp).up hB hb).cells;have HS:Hid (GP b.tg b.bs[k]->Bu b.tg b.bs (k+1)):=λh=>Hal.out.step hp h;have HN:Hid (¬GP b.tg b.bs[k]->J6 b=false):=λh=>AL λhb=>h (hb.2.2.2.2.1.at hp hp);generalize b.bs[k]=x0 at *;have b2:CB (wr.alloc (Kz [Tz (x0).nm,Vz a3 (x0).has.length d3,Vz a4 (x0).nd.length d4] 57)) wr.heap.size [Tz x0.nm,Vz a3 x0.has.length d3,Vz a4 x0.nd.length d4]:=O7 wr _ _;have a6:=(A4 wr.heap.size wr).alloc (A3 _) (Kz [Tz (x0).nm,Vz a3 (x0).has.length d3,Vz a4 (x0).nd.length d4] 57);go_upto_region 8 with fail;generalize wr.alloc (Kz [Tz (x0).nm,Vz a3 (x0).has.length d3,Vz a4 (x0).nd.length d4] 57)=W2 at *;have a7:=D4 hB a6;have b3:=l3.up a6;have b4:=l4.up a6;have b5:=l1.up a7;obtain⟨⟨q0,q1,q2⟩,-⟩:=b2.c3;obtain⟨hc,hf⟩:=Dp a7;clear c3 c4 c5 l3 l4 a6 hB hS;go_wp2_with fail;refine (TA x0 b.tg _ _ _ _ b3 b4 b5).mono ?_;rintro e w6 ⟨rfl,a9⟩;have a5:=D4 a7 a9;clear hc hf q0 q1 q2 b3 b4 b5 a7 a9 b2;cases hq:pB (GP b.tg x0)
   ·have Hq:Hid (J6 b=false):=HN.out (Cc.1 hq);go_wp2_with fail;go_ret;exact⟨J5 Hq.out.symm,D4 a0 a5⟩
   ·have Hq:Hid (Bu b.tg b.bs (k+1)):=HS.out (U9.1 hq);go_wp2_with fail;go_roundw
    case rel=>exact⟨k+1,by omega,by go_num,Hq.out,a5⟩
    case measure=>simp[intOf];omega
  ·have Hq:Hid (Bu b.tg b.bs b.bs.length):=Uq Hal.out hp;have b9:∀x∈b.bs,AM x.has/\x.has.length<=8:=Uw (by omega) Hq.out;obtain⟨hc,hf⟩:=Dp hB;go_wp2_with fail;refine (LO b.bs _ _ (l2.up hB) (by omega) b9).mono ?_;rintro e w6 ⟨hh,a9⟩;have a5:=D4 hB a9;clear hc hf;rcases hh with⟨hA,M,n,D,rfl,-,-,-⟩|⟨hA,rfl⟩
   ·have Hy:Hid (J6 b=true):=Au ⟨Ho.out,by omega,Hn.out.1,Hn.out.2,Hq.out,hA⟩;go_wp2_with fail;go_ret;exact⟨J5 Hy.out.symm,D4 a0 a5⟩
   ·have Hy:Hid (J6 b=false):=AL λh=>hA h.2.2.2.2.2;go_wp2_with fail;go_ret;exact⟨J5 Hy.out.symm,D4 a0 a5⟩
end Go.Proofs.YtcgkgmmclfeohaaGreatDoor
namespace Go.Proofs.YtcgkgmmclfeohaaGreatDoor
open Go.Proofs.Tryz
open Go.RowKit
variable{tmps:Array Value}{b:Bk}{x:BA}{ps qs:List Bv}{ss tg:List BA}{xs ys:List Value}{base c cap e g k n rk size:Nat}{r:Option Nat}{P:Program}{T:TypeId}{u v v' y:Value}{W W' w w':World}
theorem AP(a b:List Bv):E4 (a++b)=E4 a++E4 b:=by
 induction a with
 | nil=>rfl
 | cons p r ih=>simp[E4,ih]
theorem Bh:∀(ps:List Bv)(i:Nat)(p:Bv),ps[i]?=some p->∀(j:Nat)(u:Value),(P6 p)[j]?=some u->(E4 ps)[i*3+j]?=some u
 | q::r,0,p,hp,j,u,hu=>by
  simp at hp;subst hp
  have hj:j<(P6 q).length:=(A2.1 hu).1;rw[E4,Nat.zero_mul,Nat.zero_add,List.getElem?_append_left hj];exact hu
 | q::r,i+1,p,hp,j,u,hu=>by
  have:=Bh r i p (by simpa using hp) j u hu;have hl:(P6 q).length=3:=rfl;rw[E4,C8 (by rw[hl];omega),hl,show (i+1)*3+j-3=i*3+j by omega];exact this
theorem MY(ps:List Bv)(k:Nat)(hk:k<=ps.length):(E4 ps).take (k*3)=E4 (ps.take k):=by
 have h:E4 ps=E4 (ps.take k)++E4 (ps.drop k):=by rw[← AP,List.take_append_drop]
 rw[h,List.take_left' (by rw[R7,B8];omega)]
def N4(w:World)(base:Nat)(v:Value)(b:Bk):Prop:=∃tu bu ps,v=.agg #[tu,bu]/\G3 w base tu b.tg/\BM w base bu ps/\ps.map (·.1)=b.bs
theorem K6.szb(h:K6 w v b):Ah b:=by
 obtain⟨tv,bv,rfl,⟨_,_,_,_,h1,_⟩,⟨a,c,_,_,h2⟩⟩:=h;refine⟨h1,λx hx=>?_⟩;obtain⟨i,hi,rfl⟩:=B7 hx;obtain⟨g,o,_,hS,_⟩:=h2 (by omega);obtain⟨hv,nv,_,⟨_,_,_,_,h3,_⟩,⟨_,_,_,_,h4,_⟩,_⟩:=hS.at hi;exact⟨h3,h4⟩
theorem GW(h:w.ownsRow base e size (Sz g n cap) n xs):n<=cap/\cap<=maxLen:=by
 rcases h.2 with⟨h0,_⟩|⟨g',cap',cur,h',_,_,hc,hm,_⟩
 ·simp at h0
 ·simp only[Value.slice.injEq] at h';omega
theorem AcK(h:w.ownsRow base e size v n xs):n<=maxLen:=by
 rcases h.2 with⟨_,rfl⟩|⟨g,cap,_,_,_,_,h1,h2,_⟩
 ·omega
 ·omega
theorem BM.bs{bs:List Ba}(h:BM w base v ps)(hm:ps.map (·.1)=bs)(hz:∀x∈bs,(∀s∈x.has,s.size<=maxLen)/\(∀s∈x.nd,s.size<=maxLen)):Bs w v bs:=by
 subst hm;have hl:(ps.map (·.1)).length=ps.length:=B5 _;obtain⟨a,c,rfl⟩:=L9 h.1;refine⟨a,c,by rw[hl],by rw[hl];exact AcK h.1,λhp=>?_⟩;rw[hl] at hp;obtain⟨g,a3,hv⟩:=U5 h.1 hp;obtain⟨rfl,-,rfl⟩:=Value.slice.inj hv;refine⟨g,0,rfl,λi x hx=>?_,(h.1.lt g rfl).2⟩;rw[B3,B6] at hx;obtain⟨p,a0,rfl⟩:=hx;have a1:p∈ps:=A6 a0;obtain⟨q1,q2,q3⟩:=h.2 p a1;have a2:=hz p.1 (List.mem_map_of_mem a1);have hi:i<ps.length:=(A2.1 a0).1;refine⟨p.2.1,p.2.2,λj u hu=>?_,q1.lst.ls a2.1,q2.lst.ls a2.2,q3⟩;have hr:=Bh ps i p a0 j u hu;have hj:j<3:=(A2.1 hu).1;rw[Nat.zero_add,h.1.cellAt (i*3+j) (by omega)];exact hr
theorem N4.bk(h:N4 w base v b)(hz:Ah b):K6 w v b:=by
 obtain⟨tu,bu,ps,rfl,h1,h2,h3⟩:=h;exact⟨tu,bu,rfl,h1.lst.ls hz.1,h2.bs h3 hz.2⟩
theorem N4.low{base':Nat}(h:N4 w base v b)(hb:base'<=base):N4 w base' v b:=by
 obtain⟨tu,bu,ps,rfl,h1,h2,h3⟩:=h;exact⟨tu,bu,ps,rfl,N1 h1 hb,h2.low hb,h3⟩
theorem N4.up(h:N4 w base v b)(hb:Up w w'):N4 w' base v b:=by
 obtain⟨tu,bu,ps,rfl,h1,h2,h3⟩:=h;exact⟨tu,bu,ps,rfl,h1.up hb,h2.up hb,h3⟩
theorem N4.set{r j:Nat}(h:N4 w base v b)(hr:r<base):N4 (w.setCell ⟨r,j,none⟩ u) base v b:=by
 obtain⟨tu,bu,ps,rfl,h1,h2,h3⟩:=h;exact⟨tu,bu,ps,rfl,J0 h1 (E6 (F4 _ _) _) hr,h2.set hr,h3⟩
theorem N4.gr{r:Nat}(h:N4 w base v b)(hg:w.grownBy w' (some r))(hr:r<base):N4 w' base v b:=by
 obtain⟨tu,bu,ps,rfl,h1,h2,h3⟩:=h;exact⟨tu,bu,ps,rfl,J0 h1 hg hr,⟨J0 h2.1 hg hr,λp hp=>⟨J0 (h2.2 p hp).1 hg hr,J0 (h2.2 p hp).2.1 hg hr,(h2.2 p hp).2.2⟩⟩,h3⟩
theorem N4.parts(h:N4 w base v b):∃a1 c1 a2 c2 ps,v=.agg #[Vz a1 b.tg.length c1,Vz a2 b.bs.length c2]/\G3 w base (Vz a1 b.tg.length c1) b.tg/\BM w base (Vz a2 b.bs.length c2) ps/\ps.map (·.1)=b.bs:=by
 obtain⟨tu,bu,ps,rfl,h1,h2,h3⟩:=h;obtain⟨a1,c1,rfl⟩:=h1.lst.shape;obtain⟨a2,c2,rfl⟩:=L9 h2.1;have hl:ps.length=b.bs.length:=by rw[← h3,B5]
 rw[hl] at h2;exact⟨a1,c1,a2,c2,ps,by rw[hl],h1,h2,h3⟩
theorem Jr(w:World)(base:Nat):N4 w base (.agg #[Nz,Nz]) Z7 :=
 ⟨_,_,[],rfl,B9 _ _ _ _,⟨B9 _ _ _ _,λp hp=>by simp at hp⟩,rfl⟩
theorem K6.bsOf{x:Value}(h:K6 w (.agg #[x,y]) b):Bs w y b.bs:=by
 obtain⟨tv,bv,e,-,h2⟩:=h;simp at e;obtain⟨rfl,rfl⟩:=e;exact h2
theorem Cx{x y:Int}(h:x=y):Ending.returned (.tuple #[v,Iz x])=.returned (.tuple #[v,Iz y]):=by rw[h]
theorem U2{fn:Func}{q q2:Tmp}(h:fn.results=#[.cell q T,.tmp q2]){d:TypeDesc}(hu:P.underlying T=some d)(hd:d.isRow=true)(hi:(P.info? T).map (·.size)=some 2){R:Ending->World->Prop}{y0 y1 x0 x1:Value}
  (k:CB w rk [y0,y1]) (ht:tmps.getD q undef=Pz rk 0) (hv:tmps.getD q2 undef=v) (hR:R (.returned (.tuple #[.agg #[x0,x1],v])) ((w.setCell ⟨rk,0,none⟩ x0).setCell ⟨rk,1,none⟩ x1)) :
  bodyPost P fn R .ret {tmps:=tmps,defers:=[]} ((w.setCell ⟨rk,0,none⟩ x0).setCell ⟨rk,1,none⟩ x1) :=
 bodyPost_ret (Fo (cs:=[x0,x1]) h hu hd hi ht hv (k.copy2 x0 x1)) rfl hR
theorem Aa{b2:Nat}(h:G3 W base u ss)(hrow:W.ownsRow b2 57 3 v n xs)(hg:W.grownBy W' v.ownBlock):G3 W' base u ss :=
 P4 h hg (X5 h hrow (by decide))
theorem Cg(h:w.ownsRow base 57 3 (Sz g n cap) n (E4 ps))(k:Nat)(qs:List Bv)(hq:∀i p,qs[i]?=some p->ps[k+i]?=some p):
  ∀(j:Nat)(u:Value),(E4 qs)[j]?=some u->w.cell? ((⟨g,k*3,none⟩:Addr).add j)=some u:=λj u hu=>by
 have hj:j<qs.length*3:=by rw[← R7];exact (A2.1 hu).1
 have hi:j / 3<qs.length:=by omega
 have hp:=A0 hi
 have h3:(P6 (qs[j / 3]))[j % 3]?=some u:=by
  have hl:j % 3<(P6 (qs[j / 3])).length:=by show _<3;omega
  have:=Bh qs (j / 3) _ hp (j % 3) _ (A0 hl);rw[show j / 3*3+j % 3=j by omega,hu] at this;rw[A0 hl];exact this.symm
 have h4:=Bh ps (k+j / 3) _ (hq _ _ hp) (j % 3) u h3;have h5:=(A2.1 h4).1;rw[h.1] at h5;rw[Addr.add_mid,show k*3+j=(k+j / 3)*3+j % 3 by omega,h.cellAt _ h5];exact h4
theorem RR(h:some g≠r):∀g',(Vz (some ⟨g,0,none⟩) n c).ownBlock=some g'->some g'≠r:=λg' hg'=>by
 simp only[Value.ownBlock,Option.some.injEq] at hg';subst hg';exact h
theorem Ox(ps:List Bv)(k:Nat):∀(i:Nat)(q:Bv),(ps.take k)[i]?=some q->ps[0+i]?=some q:=λi q hq=>by
 rw[List.getElem?_take] at hq;split at hq
 ·rw[Nat.zero_add];exact hq
 ·cases hq
theorem IR(ps:List Bv)(k:Nat):∀(i:Nat)(q:Bv),(ps.drop k)[i]?=some q->ps[k+i]?=some q:=λi q hq=>by rwa [List.getElem?_drop] at hq
theorem Ky(h:w.ownsRow base 57 3 v n xs)(hx:xs=E4 qs)(hn:n=qs.length)(hl:∀p∈qs,G3 w base p.2.1 p.1.has/\G3 w base p.2.2 p.1.nd/\p.1.nm.size<=maxLen):BM w base v qs:=by
 subst hx hn;exact⟨h,hl⟩
theorem Ale(ps:List Bv)(h:∀p∈ps,(∃a n c,p.2.1=Vz a n c)/\∃a n c,p.2.2=Vz a n c):∀u∈E4 ps,u.oneCell'=true:=by
 induction ps with
 | nil=>intro u hu;simp[E4] at hu
 | cons p r ih =>
  intro u hu;rw[E4,C9] at hu;rcases hu with hu|hu
  ·obtain⟨⟨a,n,c,h1⟩,a2,n2,c2,h2⟩:=h p (by simp);simp only[P6,h1,h2,List.mem_cons,List.not_mem_nil,or_false] at hu;rcases hu with rfl|rfl|rfl<;>rfl
  ·exact ih (λq hq=>h q (by simp[hq])) u hu
theorem BM.one(h:BM w base v ps)(qs:List Bv)(hq:∀p∈qs,p∈ps):∀u∈E4 qs,u.oneCell'=true :=
 Ale qs λp hp=>by
  obtain⟨q1,q2,-⟩:=h.2 p (hq p hp);obtain⟨a,c,e1⟩:=q1.lst.shape;obtain⟨a2,c2,e2⟩:=q2.lst.shape;exact⟨⟨_,_,_,e1⟩,⟨_,_,_,e2⟩⟩
def FL(a b:BA):Bool:=Op.bytesLess a.toList b.toList
def Lf(a b:BA):Bool:=a.toList==b.toList
def U7:List BA->BA->List BA
 | [],x=>[x]
 | y::r,x=>if FL y x=true then y::U7 r x else if Lf y x=true then y::r else x::y::r
def Oy(ss:List BA)(x:BA)(k:Nat):Prop:=∀(j:Nat)(s:BA),j<k->ss[j]?=some s->FL s x=true
theorem Yg(h:Oy ss x k)(hk:k<ss.length)(hl:FL (ss[k]) x=true):Oy ss x (k+1):=λj s hj hs=>by
 rcases Nat.lt_or_ge j k with h'|h'
 ·exact h j s h' hs
 ·obtain rfl:j=k:=by omega
  obtain⟨_,rfl⟩:=A2.1 hs;exact hl
theorem Mj:∀(ss:List BA)(x:BA)(k:Nat),Oy ss x k->k<=ss.length->(∀s,ss[k]?=some s->FL s x=false/\Lf s x=false)->U7 ss x=ss.take k++x::ss.drop k
 | [],x,0,_,_,_=>rfl
 | [],x,k+1,_,h,_=>by simp at h
 | y::r,x,0,_,_,h=>by
  obtain⟨h1,h2⟩:=h y rfl;rw[U7,h1,h2];rfl
 | y::r,x,k+1,hl,hk,h=>by
  have h0:=hl 0 y (by omega) rfl;rw[U7,if_pos h0,Mj r x k (λj s hj hs=>hl (j+1) s (by omega) (by simpa using hs)) (by simpa using hk) (λs hs=>h s (by simpa using hs))];rfl
theorem RS:∀(ss:List BA)(x:BA)(k:Nat),Oy ss x k->(∃s,ss[k]?=some s/\FL s x=false/\Lf s x=true)->U7 ss x=ss
 | [],x,k,_,⟨s,hs,_⟩=>by simp at hs
 | y::r,x,0,_,⟨s,hs,h1,h2⟩=>by
  obtain rfl:y=s:=by simpa using hs
  rw[U7,h1,h2];rfl
 | y::r,x,k+1,hl,⟨s,hs,h1,h2⟩=>by
  have h0:=hl 0 y (by omega) rfl;rw[U7,if_pos h0,RS r x k (λj s hj hs=>hl (j+1) s (by omega) (by simpa using hs)) ⟨s,by simpa using hs,h1,h2⟩]
theorem Aau(ss:List BA)(x:BA):(U7 ss x).length<=ss.length+1:=by
 induction ss with
 | nil=>simp[U7]
 | cons y r ih =>
  rw[U7];split
  ·simp;omega
  ·split<;>simp
def Ow(w W:World)(g:Nat)(ss:List BA)(v:Value)(n:Nat)(xs:List Value):Prop:=W.ownsRow w.heap.size 9 1 v n xs/\N3 W g 0 ss/\Up w W
theorem Ow.grow{n':Nat}(h:Ow w W g ss v n xs)(hg:g<w.heap.size)(hgr:W.grownBy W' v.ownBlock)(ho:W'.ownsRow w.heap.size 9 1 v' n' ys):Ow w W' g ss v' n' ys :=
 ⟨ho,h.2.1.own h.1 hgr hg,O6 h.2.2 h.1 hgr (A3 _)⟩
theorem Ow.alloc(h:Ow w W g ss v n xs)(o:Obj):Ow w (W.alloc o) g ss v n xs :=
 ⟨h.1.alloc o,h.2.1.alloc o,h.2.2.alloc h.2.2.size o⟩
theorem Ow.drew(h:Ow w W g ss v n xs):Ow w W.drew g ss v n xs:=⟨h.1,h.2.1,h.2.2.drew⟩
theorem IU(hS:N3 W g 0 ss)(hB:Up w W):Ow w (W.alloc (Kz [] 9)) g ss (Sz W.heap.size 0 0) 0 [] :=
 ⟨C0 W #[] 0 hB.size (Nat.zero_le _) rfl,hS.alloc _,hB.alloc hB.size _⟩
theorem Pu{o2:Nat}(h:N3 W g 0 ss)(ho:(if c=k then some (⟨g,0,none⟩:Addr) else some ⟨g,k,none⟩)=some ⟨g,o2,none⟩)(hc:ss.length<=c):N3 W g o2 (ss.drop k):=by
 by_cases h7:c=k
 ·intro i s hs;have:=(A2.1 hs).1;simp at this;omega
 ·rw[if_neg h7] at ho;obtain rfl:k=o2:=by simpa using ho
  have:=h.drop k;simpa using this
theorem RT(n lo hi:Int)(w:World):
  Calls prog 52 #[Iz n,Iz lo,Iz hi] w λe w'=>e=.returned (.bool (Re n lo hi))/\w'=w:=by
 by_cases h1:lo<=n<;>by_cases h2:n<=hi
 all_goals
  go_in;go_wp2;go_ret;exact⟨J5 (by simp[Re,h1,h2]),rfl⟩
theorem DX(s:BA)(w:World)(hs:s.size<=maxLen):
  Calls prog 27 #[Tz s] w λe w'=>e=.returned (.bool (U0 s))/\w'=w:=by
 unfold maxLen at hs;by_cases h1:1<=s.size/\s.size<=8
 case neg =>
  have h2:Re s.size 1 8=false:=(Ae9 _ _ _).2 (by omega);go_in;go_wp2_with (go_at_call 52;refine Swz (RT _ _ _ _) ?_)
  go_ret;exact⟨J5 (by simp only[U0];simp;omega),rfl⟩
 have hn:Hid (U0 s=Do s.data.toList):=by show U0 s=_;simp[U0,h1]
 have h2:Re s.size 1 8=true:=(Un _ _ _).2 (by omega);go_in;go_wp2_with (go_at_call 52;refine Swz (RT _ _ _ _) ?_)
 go_loop [3] (λi=>∃k:Nat,k<=s.size/\i=.int .i64 k/\Do (s.data.toList.take k)=true) (λi=>s.size-(intOf i).toNat)
 case atStart=>exact⟨0,by omega,rfl,rfl⟩
 case round =>
  obtain⟨k,hk,rfl,a0⟩:=hrel;have Hal:Hid (Do (s.data.toList.take k)=true):=a0;clear a0;by_cases hp:k<s.size
  ·have HS:Hid (Gq (s[k]'hp).toNat=true->Do (s.data.toList.take (k+1))=true):=by show _->_;intro hb;rw[Pm s k hp,Hal.out,hb];rfl
   have HN:Hid (Gq (s[k]'hp).toNat=false->Do s.data.toList=false):=Oe s k hp;go_wp2
   all_goals first
    | (go_ret;exact⟨J5 (by rw[hn.out];exact (HN.out (by rw[← Bool.not_eq_true,Lb];go_light;simp at *;omega)).symm),rfl⟩)
    | (go_round
       case rel=>exact⟨k+1,by omega,by go_num,HS.out (by rw[Lb];go_light;simp at *;omega)⟩
       case measure=>simp[intOf];omega)
  ·go_wp2;go_ret;exact⟨J5 (by rw[hn.out,Rc s k hp Hal.out]),rfl⟩
theorem Ch(ss:List BA)(v:Value)(s:BA)(w:World)(h:Ls w v ss):
  Calls prog 34 #[v,Tz s] w λe w'=>e=.returned (.bool (D7 ss s))/\w'=w:=by
 obtain⟨a,c,rfl,hn,-,a0⟩:=h;unfold maxLen at hn;go_in;go_wp2;go_loop [5] (λi=>∃k:Nat,k<=ss.length/\i=.int .i64 k/\D7 (ss.take k) s=false) (λi=>ss.length-(intOf i).toNat)
 case atStart=>exact⟨0,by omega,rfl,rfl⟩
 case round =>
  obtain⟨k,hk,rfl,a1⟩:=hrel;have Hal:Hid (D7 (ss.take k) s=false):=a1;clear a1;by_cases hp:k<ss.length
  ·obtain⟨b,o,rfl,hS,hb⟩:=a0 (by omega);have c0:=hS.cell hp;cases hq:((ss[k]).toList==s.toList)
   ·have Hq:Hid (((ss[k]).toList==s.toList)=false):=hq;go_wp2;go_round
    case rel=>exact⟨k+1,by omega,by go_num,FU hp Hal.out Hq.out⟩
    case measure=>simp[intOf];omega
   ·have Hq:Hid (((ss[k]).toList==s.toList)=true):=hq;go_wp2;go_ret;exact⟨J5 (Gt hp Hq.out).symm,rfl⟩
  ·go_wp2;go_ret;exact⟨J5 (GN hp Hal.out).symm,rfl⟩
theorem FM(xs ys:List BA)(u v:Value)(w:World)(h:Ls w u xs)(h2:Ls w v ys):
  Calls prog 51 #[u,v] w λe w'=>e=.returned (.bool (P3 xs ys))/\w'=w:=by
 obtain⟨a,c,rfl,hn,-,a0⟩:=h;obtain⟨a2,c2,rfl,-⟩:=id h2;unfold maxLen at hn;go_in;go_wp2;go_loop [5] (λi=>∃k:Nat,k<=xs.length/\i=.int .i64 k/\P3 (xs.take k) ys=false) (λi=>xs.length-(intOf i).toNat)
 case atStart=>exact⟨0,by omega,rfl,rfl⟩
 case round =>
  obtain⟨k,hk,rfl,a1⟩:=hrel;have Hal:Hid (P3 (xs.take k) ys=false):=a1;clear a1;by_cases hp:k<xs.length
  ·obtain⟨b,o,rfl,hS,hb⟩:=a0 (by omega);have c0:=hS.cell hp;cases hq:D7 ys xs[k]
   ·have Hq:Hid (D7 ys xs[k]=false):=hq;go_wp2_with (go_at_call 34;refine Swz (Ch ys _ _ _ h2) ?_)
    go_round
    case rel=>exact⟨k+1,by omega,by go_num,Tw hp Hal.out Hq.out⟩
    case measure=>simp[intOf];omega
   ·have Hq:Hid (D7 ys xs[k]=true):=hq;go_wp2_with (go_at_call 34;refine Swz (Ch ys _ _ _ h2) ?_)
    go_ret;exact⟨J5 (Rh hp Hq.out).symm,rfl⟩
  ·go_wp2;go_ret;exact⟨J5 (VI hp Hal.out).symm,rfl⟩
theorem AX{m:Nat}(h:w'=w.drewN m):∃k,w'.drewN n=w.drewN k:=⟨_,by rw[h,World.drewN_drewN]⟩
theorem De(ss all:List BA)(u v:Value)(w:World)(h:Ls w u ss)(h2:Ls w v all):
  Calls prog 28 #[u,v] w λe w'=>e=.returned (.bool (pB (J3 ss all)))/\∃m,w'=w.drewN m:=by
 obtain⟨a,c,rfl,hn,-,a1⟩:=h;obtain⟨a2,c2,rfl,-⟩:=id h2;unfold maxLen at hn;go_in;go_wp2;(try dsimp only[Iz,Sz,Sy,Nz,Vz,Tz,Ez,Pz]);go_loopw [5] (λi w'=>∃k m:Nat,k<=ss.length/\i=.int .i64 k/\BP ss all k/\Ao ss k/\w'=w.drewN m) (λi _=>ss.length-(intOf i).toNat)
 case atStart=>exact⟨0,0,by omega,rfl,BP.zero _ _,Ao.zero _,rfl⟩
 case round =>
  obtain⟨k,m,hk,rfl,a4,a0,hw⟩:=hrel;have Hw:Hid (wr=w.drewN m):=hw;clear hw;have Hal:Hid (BP ss all k):=a4;have Hasc:Hid (Ao ss k):=a0;clear a4 a0;by_cases hp:k<ss.length
  ·obtain⟨b,o,rfl,hS,hb⟩:=a1 (by omega);have c0:At wr b (o+k) (Tz ss[k]):=by rw[Hw.out];exact hS.cell hp
   cases hq:D7 all ss[k]
   ·have Hq:Hid (¬J3 ss all):=λh=>by rw[Oh h.1 hp] at hq;cases hq
    go_wp2_with fail;go_quiet ((go_at_call 34;exact Calls.quiet_of_same (Ch all _ _ _ (by have e:=Hw.out;subst e;exact h2))))
    go_wp2;go_ret;exact⟨J5 (AL Hq.out).symm,AX Hw.out⟩
   have Hq:Hid (BP ss all (k+1)):=Hal.out.step hp hq;cases k with
   | zero =>
    simp only[Nat.add_zero] at c0;go_wp2_with fail;go_quiet ((go_at_call 34;exact Calls.quiet_of_same (Ch all _ _ _ (by have e:=Hw.out;subst e;exact h2))))
    go_wp2;go_roundw
    case rel=>obtain⟨m',a3⟩:=AX (n:=nq) Hw.out;exact⟨1,m',by omega,by go_num,Hq.out,Ao.one _,a3⟩
    case measure=>simp[intOf];omega
   | succ k =>
    have c1:At wr b (o+k) (Tz ss[k]):=by rw[Hw.out];exact hS.cell (k:=k) (by omega)
    cases hl:Z9 ss[k] ss[k+1]
    ·have Hl:Hid (¬J3 ss all):=λh=>by rw[Rj h.2 hp] at hl;cases hl
     unfold Z9 at hl;go_wp2_with fail;go_quiet ((go_at_call 34;exact Calls.quiet_of_same (Ch all _ _ _ (by have e:=Hw.out;subst e;exact h2))))
     go_wp2;go_ret;exact⟨J5 (AL Hl.out).symm,AX Hw.out⟩
    ·have Hl:Hid (Ao ss (k+2)):=Hasc.out.step hp hl;unfold Z9 at hl;go_wp2_with fail;go_quiet ((go_at_call 34;exact Calls.quiet_of_same (Ch all _ _ _ (by have e:=Hw.out;subst e;exact h2))))
     go_wp2;go_roundw
     case rel=>obtain⟨m',a3⟩:=AX (n:=nq) Hw.out;exact⟨k+1+1,m',by omega,by go_num,Hq.out,Hl.out,a3⟩
     case measure=>simp[intOf];omega
  ·go_wp2;go_ret;exact⟨J5 (Au ⟨Ri Hal.out hp,Lc Hasc.out hp⟩).symm,_,Hw.out⟩
theorem Oz(ss:List BA)(u:Value)(w:World)(h:Ls w u ss):
  Calls prog 50 #[u] w λe w'=>e=.returned (.bool (pB (CP ss)))/\∃m,w'=w.drewN m:=by
 obtain⟨a,c,rfl,hn,hz,a1⟩:=h;unfold maxLen at hn;by_cases h8:8<ss.length
 ·go_in;go_wp2;go_ret;exact⟨J5 (AL λh=>by have:=h.1;omega).symm,0,rfl⟩
 have H8:Hid (ss.length<=8):=by show _<=_;omega
 go_in;go_wp2;(try dsimp only[Iz,Sz,Sy,Nz,Vz,Tz,Ez,Pz]);go_loopw [3] (λi w'=>∃k m:Nat,k<=ss.length/\i=.int .i64 k/\Aw ss k/\Ao ss k/\w'=w.drewN m) (λi _=>ss.length-(intOf i).toNat)
 case atStart=>exact⟨0,0,by omega,rfl,Aw.zero _,Ao.zero _,rfl⟩
 case round =>
  obtain⟨k,m,hk,rfl,a3,a0,hw⟩:=hrel;have Hw:Hid (wr=w.drewN m):=hw;clear hw;have Hal:Hid (Aw ss k):=a3;have Hasc:Hid (Ao ss k):=a0;clear a3 a0;by_cases hp:k<ss.length
  ·obtain⟨b,o,rfl,hS,hb⟩:=a1 (by omega);have c0:At wr b (o+k) (Tz ss[k]):=by rw[Hw.out];exact hS.cell hp
   have z0:=hz ss[k] (by simp);cases hq:U0 ss[k]
   ·have Hq:Hid (¬CP ss):=λh=>by rw[Me h.2.1 hp] at hq;cases hq
    go_wp2_with fail;go_quiet ((go_at_call 27;exact Calls.quiet_of_same (DX _ _ z0)))
    go_wp2;go_ret;exact⟨J5 (AL Hq.out).symm,AX Hw.out⟩
   have Hq:Hid (Aw ss (k+1)):=Hal.out.step hp hq;cases k with
   | zero =>
    simp only[Nat.add_zero] at c0;go_wp2_with fail;go_quiet ((go_at_call 27;exact Calls.quiet_of_same (DX _ _ z0)))
    go_wp2;go_roundw
    case rel=>obtain⟨m',a2⟩:=AX (n:=nq) Hw.out;exact⟨1,m',by omega,by go_num,Hq.out,Ao.one _,a2⟩
    case measure=>simp[intOf];omega
   | succ k =>
    have c1:At wr b (o+k) (Tz ss[k]):=by rw[Hw.out];exact hS.cell (k:=k) (by omega)
    cases hl:Z9 ss[k] ss[k+1]
    ·have Hl:Hid (¬CP ss):=λh=>by rw[Rj h.2.2 hp] at hl;cases hl
     unfold Z9 at hl;go_wp2_with fail;go_quiet ((go_at_call 27;exact Calls.quiet_of_same (DX _ _ z0)))
     go_wp2;go_ret;exact⟨J5 (AL Hl.out).symm,AX Hw.out⟩
    ·have Hl:Hid (Ao ss (k+2)):=Hasc.out.step hp hl;unfold Z9 at hl;go_wp2_with fail;go_quiet ((go_at_call 27;exact Calls.quiet_of_same (DX _ _ z0)))
     go_wp2;go_roundw
     case rel=>obtain⟨m',a2⟩:=AX (n:=nq) Hw.out;exact⟨k+1+1,m',by omega,by go_num,Hq.out,Hl.out,a2⟩
     case measure=>simp[intOf];omega
  ·go_wp2;go_ret;exact⟨J5 (Au ⟨H8.out,Kk Hal.out hp,Lc Hasc.out hp⟩).symm,_,Hw.out⟩
end Go.Proofs.YtcgkgmmclfeohaaGreatDoor
