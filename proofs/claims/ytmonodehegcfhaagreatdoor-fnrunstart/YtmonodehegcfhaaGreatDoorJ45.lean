/- Drawing batches: a spoilt one. -/
import Derived.Test.YtmonodehegcfhaaGreatDoorJ44
import Derived.Test.YtmonodehegcfhaaGreatDoorJ37
import Derived.Test.YtmonodehegcfhaaGreatDoorDna
import Derived.Test.YtmonodehegcfhaaGreatDoorJ32
import Derived.Test.YtmonodehegcfhaaGreatDoorJ23
namespace Go.Proofs.YtmonodehegcfhaaGreatDoor
open Go.Proofs.Tryz
open Go.RowKit
variable{b b':Bk}{h:House}{qs:List Ph}{ps:List Rv}{sl:List Sl}{B M N XB base cap g k len n rb:Nat}{o:Oper}{x y:Rb}{p:Rv}{bv dv ru su tv u xv:Value}{w w' w1 w2 w5:World}
def YW(ps:List Ph):Prop:=1<=ps.length/\ps.length<=13/\∀p∈ps,p.sz
theorem Z5.off(h:Z5 w base p)(hg:w.grownBy w' (some XB))(a1:∀g,p.2.1.ownBlock=some g->g≠XB)(a2:∀g,p.2.2.ownBlock=some g->g≠XB):Z5 w' base p :=
 ⟨E5 h.r hg (λg e=>by simpa using a1 g e),E5 h.s hg (λg e=>by simpa using a2 g e),h.nr,h.ns,h.zp,h.zs,h.zn,h.np,h.nl⟩
structure SJ (w w':World) (rb len N XB:Nat) (v:Value) (x:Rb) (ru su:Value):Prop where
 r:CB w' (w.heap.size+1) [.string ⟨#[]⟩,.slice none 0 0,.slice none 0 0,.string ⟨#[]⟩,.int .i64 0,.int .i64 0]
 k:CB w' XB [.string x.nm,ru,su,.string x.ad,.int .i64 x.si,.int .i64 x.st]
 rd:Rd w' rb v len N
 g:w.grownBy w' (some rb)
 c:Z5 w' (w.heap.size+2) (x,ru,su)
 a1:∀g,ru.ownBlock=some g->g≠XB
 a2:∀g,su.ownBlock=some g->g≠XB
 q:YW x.ps
 l:x.sl.length<=25
 zx:w.heap.size+1<XB
 rz:rb<w.heap.size
theorem SJ.gr{v:Value}(J:SJ w w1 rb len N XB v x ru su)(hg:w1.grownBy w2 (some rb))(hR:Rd w2 rb v len M):SJ w w2 rb len M XB v x ru su :=
 ⟨J.r.kept hg (by have:=J.rz;simp;omega),J.k.kept hg (by have:=J.rz;have:=J.zx;simp;omega),hR,E0 J.g hg,J.c.gr hg (by have:=J.rz;omega),J.a1,J.a2,J.q,J.l,J.zx,J.rz⟩
theorem SJ.up{v:Value}(J:SJ w w1 rb len N XB v x ru su)(hb:Up w1 w2):SJ w w2 rb len N XB v x ru su :=
 ⟨J.r.up hb J.r.2.2,J.k.up hb J.k.2.2,J.rd.kept hb,E0 J.g (L2 hb),J.c.up hb,J.a1,J.a2,J.q,J.l,J.zx,J.rz⟩
theorem SJ.put{v:Value}(J:SJ w w1 rb len N XB v x ru su)(j:Nat)(u:Value)(y:Rb)(hy:[Tz y.nm,ru,su,Tz y.ad,Iz y.si,Iz y.st]=[Tz x.nm,ru,su,Tz x.ad,Iz x.si,Iz x.st].set j u)(hj:j<6)(e1:y.ps=x.ps)(e2:y.sl=x.sl)(hz:y.nm.size<=maxLen):SJ w (w1.setCell ⟨XB,j,none⟩ u) rb len N XB v y ru su:=by
 have a0:w1.grownBy (w1.setCell ⟨XB,j,none⟩ u) (some XB):=E1 (E2 _ _) _;have h1:=J.zx;have h2:=J.rz;have c:=J.c.off a0 J.a1 J.a2;obtain⟨nm,ps,sl,ad,si,st⟩:=y;obtain rfl:ps=x.ps:=e1;obtain rfl:sl=x.sl:=e2;exact⟨J.r.kept a0 (by simp;omega),by rw[hy];exact J.k.set (by simpa using hj),J.rd.row a0 (by omega),I3 J.g a0 (by omega),⟨c.r,c.s,c.nr,c.ns,c.zp,c.zs,hz,c.np,c.nl⟩,J.a1,J.a2,J.q,J.l,h1,h2⟩
theorem SJ.putR{v:Value}(J:SJ w w1 rb len N XB v x ru su)(h:w1.ownsRow B 43 8 u qs.length (R0 qs))(hB:XB<B)(hq:YW qs):SJ w (w1.setCell ⟨XB,1,none⟩ u) rb len N XB v {x with ps:=qs} u su:=by
 have a0:w1.grownBy (w1.setCell ⟨XB,1,none⟩ u) (some XB):=E1 (E2 _ _) _;have h1:=J.zx;have h2:=J.rz;have a3:∀g,u.ownBlock=some g->g≠XB:=λg e=>by have:=(h.lt g e).1;omega
 have c:=J.c.off a0 J.a1 J.a2;have h3:=E5 h a0 (λg e=>by simpa using a3 g e);refine⟨J.r.kept a0 (by simp;omega),J.k.set (j:=1) (by simp),J.rd.row a0 (by omega),I3 J.g a0 (by omega),?_,a3,J.a2,hq,J.l,h1,h2⟩;exact NH (I8 h3 (by omega)) hq.1 hq.2.1 hq.2.2 c.s c.ns (by have:=J.l;show x.sl.length<=1000;omega) c.zs c.zn rfl rfl
theorem SJ.putT{c:Nat}{v:Value}(J:SJ w w1 rb len N XB v x ru (Sz g n c))(hk:k<x.sl.length)(s:BA)(hs:s.size<=maxLen):SJ w (w1.setCell ⟨g,k*2+1,none⟩ (Tz s)) rb len N XB v {x with sl:=x.sl.set k ⟨(x.sl[k]).s,s⟩} ru (Sz g n c):=by
 have h1:=J.zx;have h2:=J.rz;have hS:w1.ownsRow (w.heap.size+2) 58 2 (Sz g n c) x.sl.length (F8 Sl.cells x.sl):=J.c.s;obtain⟨_,_,e⟩:=I7 hS;simp only[Value.slice.injEq] at e;obtain⟨-,rfl,-⟩:=e;have a0:w1.grownBy (w1.setCell ⟨g,k*2+1,none⟩ (Tz s)) (some g):=E1 (E2 _ _) _;have a3:=(B4 hS (k*2+1) (Tz s)).1;rw[Bl Z3 x.sl k x.sl[k] ⟨(x.sl[k]).s,s⟩ 1 (Tz s) (A0 hk) (by omega) rfl] at a3;have a5:=(hS.lt g rfl).1;have a4:g≠XB:=J.a2 g rfl;have hr:(w1.setCell ⟨g,k*2+1,none⟩ (Tz s)).ownsRow (w.heap.size+2) 43 8 ru x.ps.length (F8 Ph.cells x.ps):=E5 J.c.r a0 (E9 J.c.r hS (by decide));refine⟨J.r.kept a0 (by simp;omega),J.k.kept a0 (by simpa using λe=>a4 e.symm),J.rd.row a0 (by omega),I3 J.g a0 (by omega),⟨hr,by show World.ownsRow _ _ _ _ _ (x.sl.set k _).length _;rw[List.length_set];exact a3,J.c.nr,J.c.ns,J.c.zp,λy hy=>?_,J.c.zn,J.c.np,by show (x.sl.set k _).length<=1048576;rw[List.length_set];exact J.c.nl⟩,J.a1,J.a2,J.q,by show (x.sl.set k _).length<=25;rw[List.length_set];exact J.l,h1,h2⟩;rcases List.mem_or_eq_of_mem_set hy with h3|rfl
 ·exact J.c.zs y h3
 ·exact⟨(J.c.zs _ (List.getElem_mem hk)).1,hs⟩
theorem SJ.app{v:Value}(J:SJ w w1 rb len N XB v x ru su)(hgr:w1.grownBy w5 su.ownBlock)(h:w5.ownsRow (w.heap.size+2) 58 2 u sl.length (F8 Sl.cells sl))(hn:NN u)(hl:sl.length<=25)(hz:∀y∈sl,y.s.size<=maxLen/\y.t.size<=maxLen)(hap:∀g,u.ownBlock=some g->g≠XB):
  CB w5 XB [Tz x.nm,ru,su,Tz x.ad,Iz x.si,Iz x.st]/\SJ w (w5.setCell ⟨XB,2,none⟩ u) rb len N XB v {x with sl:=sl} ru u:=by
 have hS:w1.ownsRow (w.heap.size+2) 58 2 su x.sl.length (F8 Sl.cells x.sl):=J.c.s;have a4:=E5 J.c.r hgr (E9 J.c.r hS (by decide));have a3:=J.k.kept hgr (λe=>J.a2 XB e.symm rfl);have a5:=J.r.kept hgr (λe=>by have:=(hS.lt _ e.symm).1;omega);have a0:w5.grownBy (w5.setCell ⟨XB,2,none⟩ u) (some XB):=E1 (E2 _ _) _;have h1:=J.zx;have h2:=J.rz;have a6:=E5 a4 a0 (λg e=>by simpa using J.a1 g e);have h6:=E5 h a0 (λg e=>by simpa using hap g e);exact⟨a3,a5.kept a0 (by simp;omega),a3.set (j:=2) (by simp),(J.rd.own hS hgr (by omega)).row a0 (by omega),I3 (U7 J.g hS hgr (by omega)) a0 (by omega),⟨a6,h6,J.c.nr,hn,J.c.zp,hz,J.c.zn,J.c.np,by show sl.length<=1048576;omega⟩,J.a1,hap,J.q,hl,h1,h2⟩
def Xt:List BA:=[⟨#[]⟩,⟨#[66]⟩]
def YX:List BA:=[⟨#[]⟩,⟨#[103,111,111,100]⟩,⟨#[114,101,115,116]⟩,⟨#[110,111,110,101]⟩]
theorem Qe(w:World)(a b c d f:Int)(t:TypeId)(k:Nat)(hk:k<5):∃x,(w.alloc (Kz [Iz a,Iz b,Iz c,Iz d,Iz f] t)).cell? ⟨w.heap.size,k,none⟩=some (Iz x):=by
 rw[World.cell?_alloc_at]
 case hn=>rfl
 match k,hk with
 | 0,_=>exact⟨a,rfl⟩
 | 1,_=>exact⟨b,rfl⟩
 | 2,_=>exact⟨c,rfl⟩
 | 3,_=>exact⟨d,rfl⟩
 | 4,_=>exact⟨f,rfl⟩
set_option maxRecDepth 20000 in
set_option maxHeartbeats 8000000 in
theorem Tl(rb len N:Nat)(v:Value)(x:Rb)(rv sv:Value)(w:World)(hR:Rd w rb v len N)(hN:N<=800000)(H:T1 w x rv sv)(hq:KR x.ps x.sl):
  Calls prog 119 #[.pointer (some ⟨rb,0,none⟩),.agg #[.string x.nm,rv,sv,.string x.ad,.int .i64 x.si,.int .i64 x.st]] w λe w'=>(∃(y:Rb)(ru su:Value),e=.returned (.agg #[.string y.nm,ru,su,.string y.ad,.int .i64 y.si,.int .i64 y.st])/\YW y.ps/\Z5 w' w.heap.size (y,ru,su))/\Rd w' rb v len (N+400)/\w.grownBy w' (some rb):=by
 obtain⟨b,o,c,rfl,-⟩:=id H.r;obtain⟨g,q,d,rfl,-⟩:=id H.s;have d6:=hR.lt;obtain⟨W1,b9,kA,kR,b1,d4⟩:=cbE2 w [.string x.nm,.slice (some ⟨b,o,none⟩) x.ps.length c,.slice (some ⟨g,q,none⟩) x.sl.length d,.string x.ad,.int .i64 x.si,.int .i64 x.st] 40 [.string ⟨#[]⟩,.slice none 0 0,.slice none 0 0,.string ⟨#[]⟩,.int .i64 0,.int .i64 0] 40;have H1:=H.up b1;have c1:=hR.kept b1;have c2:w.grownBy W1 (some rb):=L2 b1;go_in;go_upto_region 1 with fail;try rw[b9]
 clear b9 hR H;obtain⟨e0,e1,e2,e3,e4,e5⟩:=kA.c6;go_upto_region 2 with (go_at_call 29;refine (Jd x _ _ W1 H1).mono ?_;rintro e w2 ⟨⟨ru,su,rfl,hc⟩,a6⟩;obtain⟨g1,n1,m1,e1⟩:NN ru:=hc.nr;obtain⟨g2,n2,m2,e2⟩:NN su:=hc.ns;subst e1 e2;obtain⟨_,_,ee⟩:∃a c,(Value.slice (some ⟨g1,0,none⟩) n1 m1)=.slice a x.ps.length c:=I7 hc.r;simp only[Value.slice.injEq] at ee;obtain⟨-,rfl,-⟩:=ee;obtain⟨_,_,ee⟩:∃a c,(Value.slice (some ⟨g2,0,none⟩) n2 m2)=.slice a x.sl.length c:=I7 hc.s;simp only[Value.slice.injEq] at ee;obtain⟨-,rfl,-⟩:=ee)
 clear e0 e1 e2 e3 e4 e5
 obtain⟨W3,c0,J3⟩:∃W3,w2.alloc (.cells #[.string x.nm,(.slice (some ⟨g1,0,none⟩) x.ps.length m1),(.slice (some ⟨g2,0,none⟩) x.sl.length m2),.string x.ad,.int .i64 x.si,.int .i64 x.st] 40)=W3/\SJ w W3 rb len N w2.heap.size v x (.slice (some ⟨g1,0,none⟩) x.ps.length m1) (.slice (some ⟨g2,0,none⟩) x.sl.length m2):=by
  have b2:Up w2 (w2.alloc (.cells #[.string x.nm,(.slice (some ⟨g1,0,none⟩) x.ps.length m1),(.slice (some ⟨g2,0,none⟩) x.sl.length m2),.string x.ad,.int .i64 x.si,.int .i64 x.st] 40)):=(A5 _ _).alloc (A4 _) _;have g0:=a6.size;refine⟨_,rfl,((kR.up a6 (by omega)).up b2 (by omega)),F3 w2 _ _,(c1.kept a6).kept b2,E0 (E0 c2 (L2 a6)) (L2 b2),(hc.low (by omega)).up b2,λg e=>?_,λg e=>?_,⟨hq.1,by have:=hq.2.1;omega,hq.2.2.1⟩,by have:=hq.2.2.2;omega,by omega,d6⟩
  ·have:=(hc.r.lt g e).2;omega
  ·have:=(hc.s.lt g e).2;omega
 try rw[c0]
 clear c0 hc a6 kA kR c1 c2 H1 b1;generalize hXB:w2.heap.size=XB at *;clear hXB d4;go_wp2_with fail;refine (K2 rb len _ v 7 _ J3.rd (by omega)).mono ?_;rintro e w4 ⟨⟨n,rfl,e9,c9⟩,d0,d1⟩;have b3:=c9 (by omega);have J4:=J3.gr d1 d0;have d7:=J4.k.2.2;have g3:=J4.zx;have g4:=J4.rz;clear J3 d0 d1 c9;have d8:n=0∨n=1∨n=2∨n=3∨n=4∨n=5∨n=6:=by omega
 clear e9 b3;have Hq:Hid (KR x.ps x.sl):=hq;clear hq;rcases d8 with rfl|rfl|rfl|rfl|rfl|rfl|rfl
 ·go_upto_region 18 with (go_at_call 18;refine (Ar rb len _ v Xt 2 _ 0 2 _ rfl (J4.rd.alloc _) (by omega) (K8 w4 Xt 9) (by omega) (by omega) (by omega)).mono ?_;rintro e w5 ⟨⟨s,hs,rfl⟩,a3,a1⟩;have J5:=(J4.up ((A5 _ _).alloc (A4 _) (.cells (Xt.map Value.string).toArray 9))).gr a1 a3;obtain⟨e0,-,-,-,-,-⟩:=J5.k.c6;obtain⟨f0,-,-,-,-,-⟩:=J5.k.f6)
  have hz:s.size<=maxLen:=Y6 (ss:=Xt) (by decide) s hs;clear e0 f0 J4;have JE:=J5.put 0 (.string s) {x with nm:=s} rfl (by omega) rfl rfl hz;generalize w5.setCell ⟨XB,0,none⟩ (.string s)=WE at *;clear J5 a3 a1
  (obtain⟨e0,e1,e2,e3,e4,e5⟩:=JE.k.c6;obtain⟨y0,y1,y2,y3,y4,y5⟩:=JE.r.c6;obtain⟨f0,f1,f2,f3,f4,f5⟩:=JE.r.f6;go_wp2_with fail;refine N8 results119 underlying40 rfl BF JE.r rfl ?_;have a8:=JE.rz;have a0:=G3 WE (w.heap.size+1) (.string ({x with nm:=s}:Rb).nm) (.slice (some ⟨g1,0,none⟩) x.ps.length m1) (.slice (some ⟨g2,0,none⟩) x.sl.length m2) (.string ({x with nm:=s}:Rb).ad) (.int .i64 ({x with nm:=s}:Rb).si) (.int .i64 ({x with nm:=s}:Rb).st);exact⟨⟨({x with nm:=s}:Rb),_,_,rfl,JE.q,(JE.c.gr a0 (by omega)).low (by omega)⟩,(JE.rd.row a0 (by omega)).mono (by omega),I3 JE.g a0 (by omega)⟩)
 ·obtain⟨-,e1,-,-,-,-⟩:=J4.k.c6;have a4:w4.ownsRow (w.heap.size+2) 43 8 (.slice (some ⟨g1,0,none⟩) x.ps.length m1) x.ps.length (R0 x.ps):=by rw[Jt];exact J4.c.r
  have hc:=Ml rb len _ v x.ps g1 m1 w4 J4.rd (by omega) (DZ a4) Hq.out.1 Hq.out.2.1 Hq.out.2.2.1 (a4.lt g1 rfl).2;go_upto_region 18 with (go_at_call 21;refine hc.mono ?_;rintro e w5 ⟨⟨u,qs,rfl,f7,f8,f9,b7⟩,a3,a1⟩;have J5:=J4.gr a1 a3;obtain⟨gu,cu,rfl⟩:=I6 b7 (by omega);clear e1;obtain⟨-,e1,-,-,-,-⟩:=J5.k.c6;obtain⟨-,f1,-,-,-,-⟩:=J5.k.f6)
  clear e1 f1 hc a4 J4;have JE:=J5.putR b7 d7 ⟨f7,f8,f9⟩;generalize w5.setCell ⟨XB,1,none⟩ (.slice (some ⟨gu,0,none⟩) qs.length cu)=WE at *;clear J5 a3 a1 b7
  (obtain⟨e0,e1,e2,e3,e4,e5⟩:=JE.k.c6;obtain⟨y0,y1,y2,y3,y4,y5⟩:=JE.r.c6;obtain⟨f0,f1,f2,f3,f4,f5⟩:=JE.r.f6;go_wp2_with fail;refine N8 results119 underlying40 rfl BF JE.r rfl ?_;have a8:=JE.rz;have a0:=G3 WE (w.heap.size+1) (.string ({x with ps:=qs}:Rb).nm) (.slice (some ⟨gu,0,none⟩) qs.length cu) (.slice (some ⟨g2,0,none⟩) x.sl.length m2) (.string ({x with ps:=qs}:Rb).ad) (.int .i64 ({x with ps:=qs}:Rb).si) (.int .i64 ({x with ps:=qs}:Rb).st);exact⟨⟨({x with ps:=qs}:Rb),_,_,rfl,JE.q,(JE.c.gr a0 (by omega)).low (by omega)⟩,(JE.rd.row a0 (by omega)).mono (by omega),I3 JE.g a0 (by omega)⟩)
 ·obtain⟨-,-,e2,-,-,-⟩:=J4.k.c6;have hl:=J4.l;by_cases hp:0<x.sl.length
  ·go_upto_region 11 with (go_at_call 20;refine (K2 rb len _ v (x.sl.length:Int) _ J4.rd (by omega)).mono ?_;rintro e w5 ⟨⟨y,rfl,d2,a9⟩,a3,a1⟩;have J5:=J4.gr a1 a3;clear e2;obtain⟨-,-,e2,-,-,-⟩:=J5.k.c6)
   have c3:=a9 (by omega);obtain⟨k,rfl⟩:∃k:Nat,y=(k:Int):=⟨y.toNat,by omega⟩;have hk:k<x.sl.length:=by omega
   clear a9 a3 a1 J4;have hS:w5.ownsRow (w.heap.size+2) 58 2 (.slice (some ⟨g2,0,none⟩) x.sl.length m2) x.sl.length (F8 Sl.cells x.sl):=J5.c.s;have d9:=(hS.lt g2 rfl).1;have q1:=V2 Z3 hS (A0 hp) 1 _ rfl;rw[show 0*2+1=1 from rfl] at q1;have Ht0:Hid ((x.sl[0]).t.size<=maxLen):=(J5.c.zs _ (List.getElem_mem hp)).2;generalize (x.sl[0]).t=t0 at *;have JD:SJ w w5.drew rb len (N+1+1) XB v x (.slice (some ⟨g1,0,none⟩) x.ps.length m1) (.slice (some ⟨g2,0,none⟩) x.sl.length m2):=J5.up (A5 _ _).drew;have a5:World.cell? w5.drew ⟨XB,2,none⟩=some (.slice (some ⟨g2,0,none⟩) x.sl.length m2)/\World.cell? w5.drew ⟨g2,1,none⟩=some (.string t0):=⟨e2,q1⟩;refine F5 13 (λw'=>World.cell? w' ⟨XB,2,none⟩=some (.slice (some ⟨g2,0,none⟩) x.sl.length m2)/\World.cell? w' ⟨g2,1,none⟩=some (.string t0)) (by kernel_rfl) ?_;generalize w5.drew=X1 at JD a5 ⊢
   clear J5 hS e2 q1;refine D6 0 rfl a5 ?_;refine D6 1 rfl a5 ?_;refine D6 2 rfl a5 ?_;refine D6 3 rfl a5 ?_;refine D6 4 rfl a5 ?_;refine D6 5 rfl a5 ?_;refine D6 6 rfl a5 ?_;refine D6 7 rfl a5 ?_;refine D6 8 rfl a5 ?_;have a6:Up X1 (X1.alloc (.cells ([(⟨#[]⟩:BA),⟨#[119]⟩,t0].map Value.string).toArray 9)):=(A5 _ _).alloc (A4 _) _;have J2:=JD.up a6;have c4:=K8 X1 [(⟨#[]⟩:BA),⟨#[119]⟩,t0] 9;have b5:World.cell? (X1.alloc (.cells ([(⟨#[]⟩:BA),⟨#[119]⟩,t0].map Value.string).toArray 9)) ⟨XB,2,none⟩=some (.slice (some ⟨g2,0,none⟩) x.sl.length m2)/\World.cell? (X1.alloc (.cells ([(⟨#[]⟩:BA),⟨#[119]⟩,t0].map Value.string).toArray 9)) ⟨g2,1,none⟩=some (.string t0):=⟨(a6.cell (p:=⟨XB,2,none⟩) JD.k.2.2).trans a5.1,(a6.cell (p:=⟨g2,1,none⟩) (JD.c.s.lt g2 rfl).2).trans a5.2⟩;have g5:=JD.k.2.2;refine E7 9 rfl (λK hK=>?_);go_simp;rw[show (X1.alloc (.cells #[.string ⟨#[]⟩,.string ⟨#[119]⟩,.string t0] 9))=X1.alloc (.cells ([(⟨#[]⟩:BA),⟨#[119]⟩,t0].map Value.string).toArray 9) from rfl];generalize X1.alloc (.cells ([(⟨#[]⟩:BA),⟨#[119]⟩,t0].map Value.string).toArray 9)=X2 at *;clear a6 JD a5;refine E6 hK b5 ?_;clear hK K;refine E7 10 rfl (λK hK=>?_);go_simp;go_wp2_with (go_at_call 18;refine (Ar rb len _ v [(⟨#[]⟩:BA),⟨#[119]⟩,t0] 3 _ 0 3 _ rfl J2.rd (by omega) c4 (by omega) (by omega) (by omega)).mono ?_;rintro e w6 ⟨⟨s,hs,rfl⟩,d3,b8⟩)
   have J6:=J2.gr b8 d3
   have e6:s.size<=maxLen:=by
    simp only[List.mem_cons,List.not_mem_nil,or_false] at hs;rcases hs with rfl|rfl|rfl
    ·decide
    ·decide
    ·exact Ht0.out
   have b4:World.cell? w6 ⟨XB,2,none⟩=some (.slice (some ⟨g2,0,none⟩) x.sl.length m2)/\World.cell? w6 ⟨g2,1,none⟩=some (.string t0):=⟨J6.k.c6.2.2.1,b8.cell b5.2 (by simp;omega)⟩;have JE:=J6.putT hk s e6;have b6:w6.ownsRow (w.heap.size+2) 58 2 (.slice (some ⟨g2,0,none⟩) x.sl.length m2) x.sl.length (F8 Sl.cells x.sl):=J6.c.s;have qk:=V2 Z3 b6 (A0 hk) 1 _ rfl;have fk:=b6.frozenAt (k*2+1);clear J2 c4 b5 d3 b8 hs J6 b6;refine E6 hK b4 ?_;clear hK K;refine E7 11 rfl (λK hK=>?_);go_simp;refine E6 hK b4 ?_;clear hK K;refine D6 12 rfl b4 ?_;refine E7 13 rfl (λK hK=>?_);go_simp;refine Bf hK ?_;clear hK K;refine F0 (by kernel_rfl) ?_ _;clear b4 qk fk;generalize w6.setCell ⟨g2,k*2+1,none⟩ (.string s)=WE at *;go_upto_region 18 with fail
   (obtain⟨e0,e1,e2,e3,e4,e5⟩:=JE.k.c6;obtain⟨y0,y1,y2,y3,y4,y5⟩:=JE.r.c6;obtain⟨f0,f1,f2,f3,f4,f5⟩:=JE.r.f6;go_wp2_with fail;refine N8 results119 underlying40 rfl BF JE.r rfl ?_;have a8:=JE.rz;have a0:=G3 WE (w.heap.size+1) (.string ({x with sl:=x.sl.set k ⟨(x.sl[k]).s,s⟩}:Rb).nm) (.slice (some ⟨g1,0,none⟩) x.ps.length m1) (.slice (some ⟨g2,0,none⟩) x.sl.length m2) (.string ({x with sl:=x.sl.set k ⟨(x.sl[k]).s,s⟩}:Rb).ad) (.int .i64 ({x with sl:=x.sl.set k ⟨(x.sl[k]).s,s⟩}:Rb).si) (.int .i64 ({x with sl:=x.sl.set k ⟨(x.sl[k]).s,s⟩}:Rb).st);exact⟨⟨({x with sl:=x.sl.set k ⟨(x.sl[k]).s,s⟩}:Rb),_,_,rfl,JE.q,(JE.c.gr a0 (by omega)).low (by omega)⟩,(JE.rd.row a0 (by omega)).mono (by omega),I3 JE.g a0 (by omega)⟩)
  ·have h0:¬(0:Int)<(x.sl.length:Int):=by omega
   go_upto_region 18 with fail;clear e2 h0 hp;obtain⟨WE,rfl⟩:∃WE,WE=w4:=⟨_,rfl⟩;have JE:=J4
   (obtain⟨e0,e1,e2,e3,e4,e5⟩:=JE.k.c6;obtain⟨y0,y1,y2,y3,y4,y5⟩:=JE.r.c6;obtain⟨f0,f1,f2,f3,f4,f5⟩:=JE.r.f6;go_wp2_with fail;refine N8 results119 underlying40 rfl BF JE.r rfl ?_;have a8:=JE.rz;have a0:=G3 WE (w.heap.size+1) (.string x.nm) (.slice (some ⟨g1,0,none⟩) x.ps.length m1) (.slice (some ⟨g2,0,none⟩) x.sl.length m2) (.string x.ad) (.int .i64 x.si) (.int .i64 x.st);exact⟨⟨x,_,_,rfl,JE.q,(JE.c.gr a0 (by omega)).low (by omega)⟩,(JE.rd.row a0 (by omega)).mono (by omega),I3 JE.g a0 (by omega)⟩)
 ·obtain⟨-,-,e2,-,-,-⟩:=J4.k.c6;have hl:=J4.l;obtain⟨is,d5,j0,j1,j2⟩:=info_parts Ii;have b0:Up w4 (w4.alloc (.cells #[.string ⟨#[122,122]⟩,.string ⟨#[122,122]⟩] 58)):=(A5 _ _).alloc (A4 _) _;have JA:=J4.up b0;have hS:(w4.alloc (.cells #[.string ⟨#[122,122]⟩,.string ⟨#[122,122]⟩] 58)).ownsRow (w.heap.size+2) 58 2 (.slice (some ⟨g2,0,none⟩) x.sl.length m2) x.sl.length (F8 Sl.cells x.sl):=JA.c.s;have b3:∀(i:Nat)(u:Value),[Value.string ⟨#[122,122]⟩,Value.string ⟨#[122,122]⟩][i]?=some u->(w4.alloc (.cells #[.string ⟨#[122,122]⟩,.string ⟨#[122,122]⟩] 58)).cell? ((⟨w4.heap.size,0,none⟩:Addr).add i)=some u:=λi u hu=>FO _ _ _ _ hu;have g6:=b0.size;go_upto_region 13 with fail;go_wp2_with (at_builtin;refine DI _ rfl _ _ 32 rfl (w.heap.size+2) 58 is _ 2 32 underlying32 d5 j0 j1 j2 rfl (by decide) _ _ _ rfl hS ⟨w4.heap.size,0,none⟩ 1 1 [.string ⟨#[122,122]⟩,.string ⟨#[122,122]⟩] rfl rfl b3 (by intro u hu;simp only[List.mem_cons,List.not_mem_nil,or_false] at hu;rcases hu with rfl|rfl<;>rfl) (by omega) (by unfold maxLen;omega) (by omega) (by omega) ?_)
  intro v7 w5 a4 hgr hwh
  have c5:∀g,v7.ownBlock=some g->g≠XB:=λg hg=>by
   rcases hwh g hg with h1|h1
   ·exact JA.a2 g h1
   ·have:=JA.k.2.2;omega
  have a7:w5.ownsRow (w.heap.size+2) 58 2 v7 (x.sl++[(⟨⟨#[122,122]⟩,⟨#[122,122]⟩⟩:Sl)]).length (F8 Sl.cells (x.sl++[⟨⟨#[122,122]⟩,⟨#[122,122]⟩⟩])):=by
   rw[AU,B0];simpa [F8,Sl.cells] using a4
  obtain⟨g7,c7,rfl⟩:=I6 a4 (by omega);have e7:x.sl.length<=24:=Hq.out.2.2.2
  obtain⟨k5,JE⟩:=JA.app hgr a7 ⟨_,_,_,rfl⟩ (by rw[B0];simp;omega) (λy hy=>by
   rcases D0.1 hy with h1|h1
   ·exact JA.c.zs y h1
   ·obtain rfl:=D1.1 h1;exact⟨by decide,by decide⟩) c5
  clear e2;obtain⟨-,-,e2,-,-,-⟩:=k5.c6;obtain⟨-,-,f2,-,-,-⟩:=k5.f6;clear J4 JA hS b3 b0 a4 a7 hgr hwh c5;go_upto_region 18 with fail;clear e2 f2 k5;generalize w5.setCell ⟨XB,2,none⟩ (.slice (some ⟨g7,0,none⟩) (x.sl.length+1) c7)=WE at *
  (obtain⟨e0,e1,e2,e3,e4,e5⟩:=JE.k.c6;obtain⟨y0,y1,y2,y3,y4,y5⟩:=JE.r.c6;obtain⟨f0,f1,f2,f3,f4,f5⟩:=JE.r.f6;go_wp2_with fail;refine N8 results119 underlying40 rfl BF JE.r rfl ?_;have a8:=JE.rz;have a0:=G3 WE (w.heap.size+1) (.string ({x with sl:=x.sl++[⟨⟨#[122,122]⟩,⟨#[122,122]⟩⟩]}:Rb).nm) (.slice (some ⟨g1,0,none⟩) x.ps.length m1) (.slice (some ⟨g7,0,none⟩) (x.sl.length+1) c7) (.string ({x with sl:=x.sl++[⟨⟨#[122,122]⟩,⟨#[122,122]⟩⟩]}:Rb).ad) (.int .i64 ({x with sl:=x.sl++[⟨⟨#[122,122]⟩,⟨#[122,122]⟩⟩]}:Rb).si) (.int .i64 ({x with sl:=x.sl++[⟨⟨#[122,122]⟩,⟨#[122,122]⟩⟩]}:Rb).st);exact⟨⟨({x with sl:=x.sl++[⟨⟨#[122,122]⟩,⟨#[122,122]⟩⟩]}:Rb),_,_,rfl,JE.q,(JE.c.gr a0 (by omega)).low (by omega)⟩,(JE.rd.row a0 (by omega)).mono (by omega),I3 JE.g a0 (by omega)⟩)
 ·go_upto_region 18 with (go_at_call 18;refine (Ar rb len _ v YX 4 _ 0 4 _ rfl (J4.rd.alloc _) (by omega) (K8 w4 YX 9) (by omega) (by omega) (by omega)).mono ?_;rintro e w5 ⟨⟨s,hs,rfl⟩,a3,a1⟩;have J5:=(J4.up ((A5 _ _).alloc (A4 _) (.cells (YX.map Value.string).toArray 9))).gr a1 a3;obtain⟨-,-,-,e3,-,-⟩:=J5.k.c6;obtain⟨-,-,-,f3,-,-⟩:=J5.k.f6)
  clear e3 f3 J4;have JE:=J5.put 3 (.string s) {x with ad:=s} rfl (by omega) rfl rfl J5.c.zn;generalize w5.setCell ⟨XB,3,none⟩ (.string s)=WE at *;clear J5 a3 a1
  (obtain⟨e0,e1,e2,e3,e4,e5⟩:=JE.k.c6;obtain⟨y0,y1,y2,y3,y4,y5⟩:=JE.r.c6;obtain⟨f0,f1,f2,f3,f4,f5⟩:=JE.r.f6;go_wp2_with fail;refine N8 results119 underlying40 rfl BF JE.r rfl ?_;have a8:=JE.rz;have a0:=G3 WE (w.heap.size+1) (.string ({x with ad:=s}:Rb).nm) (.slice (some ⟨g1,0,none⟩) x.ps.length m1) (.slice (some ⟨g2,0,none⟩) x.sl.length m2) (.string ({x with ad:=s}:Rb).ad) (.int .i64 ({x with ad:=s}:Rb).si) (.int .i64 ({x with ad:=s}:Rb).st);exact⟨⟨({x with ad:=s}:Rb),_,_,rfl,JE.q,(JE.c.gr a0 (by omega)).low (by omega)⟩,(JE.rd.row a0 (by omega)).mono (by omega),I3 JE.g a0 (by omega)⟩)
 ·have b0:Up w4 (w4.alloc (.cells #[.int .i64 (-2),.int .i64 (-1),.int .i64 0,.int .i64 4,.int .i64 1000] 3)):=(A5 _ _).alloc (A4 _) _;have JA:=J4.up b0;have c8:=Qe w4 (-2) (-1) 0 4 1000 3;have g8:w4.heap.size<(w4.alloc (.cells #[.int .i64 (-2),.int .i64 (-1),.int .i64 0,.int .i64 4,.int .i64 1000] 3)).heap.size:=by simp
  go_upto_region 17 with fail;go_upto_region 18 with (go_at_call 20;refine (K2 rb len _ v 5 _ JA.rd (by omega)).mono ?_;rintro e w5 ⟨⟨y,rfl,d2,a9⟩,a3,a1⟩;have c3:=a9 (by omega);obtain⟨k,rfl⟩:∃k:Nat,y=(k:Int):=⟨y.toNat,by omega⟩;have hk:k<5:=(by omega);obtain⟨i,hi⟩:=c8 k hk;have e8:=a1.cell hi (by simp;omega);have J5:=JA.gr a1 a3;obtain⟨-,-,-,-,e4,-⟩:=J5.k.c6;obtain⟨-,-,-,-,f4,-⟩:=J5.k.f6)
  clear e4 f4 J4 JA c8 hi e8;have JE:=J5.put 4 (.int .i64 i) {x with si:=i} rfl (by omega) rfl rfl J5.c.zn;generalize w5.setCell ⟨XB,4,none⟩ (.int .i64 i)=WE at *;clear J5 a3 a1
  (obtain⟨e0,e1,e2,e3,e4,e5⟩:=JE.k.c6;obtain⟨y0,y1,y2,y3,y4,y5⟩:=JE.r.c6;obtain⟨f0,f1,f2,f3,f4,f5⟩:=JE.r.f6;go_wp2_with fail;refine N8 results119 underlying40 rfl BF JE.r rfl ?_;have a8:=JE.rz;have a0:=G3 WE (w.heap.size+1) (.string ({x with si:=i}:Rb).nm) (.slice (some ⟨g1,0,none⟩) x.ps.length m1) (.slice (some ⟨g2,0,none⟩) x.sl.length m2) (.string ({x with si:=i}:Rb).ad) (.int .i64 ({x with si:=i}:Rb).si) (.int .i64 ({x with si:=i}:Rb).st);exact⟨⟨({x with si:=i}:Rb),_,_,rfl,JE.q,(JE.c.gr a0 (by omega)).low (by omega)⟩,(JE.rd.row a0 (by omega)).mono (by omega),I3 JE.g a0 (by omega)⟩)
 ·go_upto_region 18 with (go_at_call 20;refine (K2 rb len _ v 3 _ J4.rd (by omega)).mono ?_;rintro e w5 ⟨⟨y,rfl,d2,a9⟩,a3,a1⟩;have c3:=a9 (by omega);have J5:=J4.gr a1 a3;obtain⟨-,-,-,-,-,e5⟩:=J5.k.c6;obtain⟨-,-,-,-,-,f5⟩:=J5.k.f6)
  clear e5 f5 J4;have JE:=J5.put 5 (.int .i64 (y-1)) {x with st:=y-1} rfl (by omega) rfl rfl J5.c.zn;generalize w5.setCell ⟨XB,5,none⟩ (.int .i64 (y-1))=WE at *;clear J5 a3 a1
  (obtain⟨e0,e1,e2,e3,e4,e5⟩:=JE.k.c6;obtain⟨y0,y1,y2,y3,y4,y5⟩:=JE.r.c6;obtain⟨f0,f1,f2,f3,f4,f5⟩:=JE.r.f6;go_wp2_with fail;refine N8 results119 underlying40 rfl BF JE.r rfl ?_;have a8:=JE.rz;have a0:=G3 WE (w.heap.size+1) (.string ({x with st:=y-1}:Rb).nm) (.slice (some ⟨g1,0,none⟩) x.ps.length m1) (.slice (some ⟨g2,0,none⟩) x.sl.length m2) (.string ({x with st:=y-1}:Rb).ad) (.int .i64 ({x with st:=y-1}:Rb).si) (.int .i64 ({x with st:=y-1}:Rb).st);exact⟨⟨({x with st:=y-1}:Rb),_,_,rfl,JE.q,(JE.c.gr a0 (by omega)).low (by omega)⟩,(JE.rd.row a0 (by omega)).mono (by omega),I3 JE.g a0 (by omega)⟩)
theorem L6.keepB{v:Value}(H:L6 w base v b)(hb:∀i,base<=i->i<w.heap.size->w'.heap[i]?=w.heap[i]?):L6 w' base v b:=by
 obtain⟨tu,bu,qs,e,k1,k2,k3⟩:=H;exact⟨tu,bu,qs,e,Ay k1 hb,⟨Ay k2.1 hb,λp hp=>⟨Ay (k2.2 p hp).1 hb,Ay (k2.2 p hp).2.1 hb,(k2.2 p hp).2.2⟩⟩,k3⟩
def HZ(B:Nat)(w:World)(h:House)(tv bv xv dv:Value):Prop:=B<=w.heap.size/\∀w',(∀k,B<=k->k<w.heap.size->w'.heap[k]?=w.heap[k]?)->w.heap.size<=w'.heap.size->HV w' h tv bv xv dv
theorem HW.hz(H:HW w B h tv bv xv dv)(hB:B<=w.heap.size):HZ B w h tv bv xv dv:=⟨hB,λ_ hk _=>(H.keepB hk).v⟩
theorem HZ.gr{r:Nat}(H:HZ B w h tv bv xv dv)(hg:w.grownBy w' (some r))(hr:r<B):HZ B w' h tv bv xv dv :=
 ⟨B3 H.1 hg.size,λw2 k2 z2=>H.2 w2 (λk h1 h2=>(k2 k h1 (A2 h2 hg.size)).trans (hg.block k h2 (by simp;omega))) (B3 hg.size z2)⟩
theorem HZ.hs(H:HZ B w h tv bv xv dv)(hr:rb<B):HS rb w h tv bv xv dv:=λw' hg=>H.2 w' (λk h1 h2=>hg.block k h2 (by simp;omega)) hg.size
theorem HZ.low{B':Nat}(H:HZ B w h tv bv xv dv)(hB:B'<=B):HZ B' w h tv bv xv dv:=⟨B3 hB H.1,λw' hk hz=>H.2 w' (λk h1 h2=>hk k (B3 hB h1) h2) hz⟩
theorem HZ.up(H:HZ B w h tv bv xv dv)(hb:Up w w'):HZ B w' h tv bv xv dv :=
 ⟨B3 H.1 hb.size,λw2 k2 z2=>H.2 w2 (λk h1 h2=>(k2 k h1 (A2 h2 hb.size)).trans (hb.block k h2)) (B3 hb.size z2)⟩
theorem HZ.v(H:HZ B w h tv bv xv dv):HV w h tv bv xv dv:=H.2 w (λ_ _ _=>rfl) (A4 _)
theorem HT.hz{hb:Nat}(H:HT B hb w h tv bv xv dv)(hB:B+1<=w.heap.size):HZ (B+1) w h tv bv xv dv:=⟨hB,λw' hk hz=>H w' (λk h1 h2 _=>hk k h1 h2) hz⟩
structure LJ (w w':World) (rb len N XB:Nat) (v:Value) (h:House) (tv bv xv dv:Value):Prop where
 r:CB w' (w.heap.size+1) [.int .i64 0,.int .i64 0,.slice none 0 0,.slice none 0 0,.slice none 0 0,.slice none 0 0]
 x:w'.ownsRow (w.heap.size+2) 30 6 (.slice (some ⟨XB,0,none⟩) 1 1) 1 [.int .i64 h.now,.int .i64 h.last,tv,bv,xv,dv]
 rd:Rd w' rb v len N
 g:w.grownBy w' (some rb)
 k:HW w' (w.heap.size+2) h tv bv xv dv
 rz:rb<w.heap.size
theorem LJ.xb{v:Value}(J:LJ w w' rb len N XB v h tv bv xv dv):w.heap.size+2<=XB/\XB<w'.heap.size:=J.x.lt XB rfl
theorem LJ.cb{v:Value}(J:LJ w w' rb len N XB v h tv bv xv dv):CB w' XB [Iz h.now,Iz h.last,tv,bv,xv,dv]:=D7 J.x
theorem LJ.gr{v:Value}(J:LJ w w1 rb len N XB v h tv bv xv dv)(hg:w1.grownBy w2 (some rb))(hR:Rd w2 rb v len M):LJ w w2 rb len M XB v h tv bv xv dv :=
 ⟨J.r.kept hg (by have:=J.rz;simp;omega),F2 J.x hg (by have:=J.rz;omega),hR,E0 J.g hg,J.k.gr hg (by have:=J.rz;omega),J.rz⟩
theorem LJ.up{v:Value}(J:LJ w w1 rb len N XB v h tv bv xv dv)(hb:Up w1 w2):LJ w w2 rb len N XB v h tv bv xv dv :=
 ⟨J.r.up hb J.r.2.2,E4 J.x hb,J.rd.kept hb,E0 J.g (L2 hb),J.k.up hb,J.rz⟩
structure LE (w w':World) (rb len N XB:Nat) (v:Value) (h:House) (tv bv xv dv:Value):Prop where
 r:CB w' (w.heap.size+1) [.int .i64 0,.int .i64 0,.slice none 0 0,.slice none 0 0,.slice none 0 0,.slice none 0 0]
 x:CB w' XB [.int .i64 h.now,.int .i64 h.last,tv,bv,xv,dv]
 rd:Rd w' rb v len N
 g:w.grownBy w' (some rb)
 z:HZ (w.heap.size+2) w' h tv bv xv dv
 ts:h.sh.tg.length<=100
 rz:rb<w.heap.size
theorem LJ.le{v:Value}(J:LJ w w1 rb len N XB v h tv bv xv dv)(ht:h.sh.tg.length<=100):LE w w1 rb len N XB v h tv bv xv dv :=
 ⟨J.r,J.cb,J.rd,J.g,J.k.hz (by have:=J.xb;omega),ht,J.rz⟩
theorem LJ.put{v:Value}(J:LJ w w1 rb len N XB v h tv bv xv dv)(j:Nat)(u:Value)(h':House)(e:[Iz h'.now,Iz h'.last,tv,bv,xv,dv]=[Iz h.now,Iz h.last,tv,bv,xv,dv].set j u)(h1:h'.sh=h.sh)(h2:h'.bs=h.bs)(h3:h'.ds=h.ds):
  LJ w (w1.setCell ⟨XB,j,none⟩ u) rb len N XB v h' tv bv xv dv:=by
 have a0:w1.grownBy (w1.setCell ⟨XB,j,none⟩ u) (some XB):=E1 (E2 _ _) _;have hx:=J.xb;have hz:=J.rz;refine⟨J.r.kept a0 (by simp;omega),?_,J.rd.row a0 (by omega),I3 J.g a0 (by omega),(HW.box J.k J.x a0).as h1 h2 h3,hz⟩;rw[e];exact (B4 J.x j u).1
theorem LJ.book{v:Value}{tu bu:Value}(J:LJ w w1 rb len N XB v h tv bv xv dv)(hD:Gk w1 B (.agg #[tu,bu]) b')(hB:XB<B):
  LE w ((w1.setCell ⟨XB,2,none⟩ tu).setCell ⟨XB,3,none⟩ bu) rb len N XB v {h with sh:=b'} tu bu xv dv:=by
 have a0:w1.grownBy ((w1.setCell ⟨XB,2,none⟩ tu).setCell ⟨XB,3,none⟩ bu) (some XB):=E1 (E1 (E2 _ _) _) _;have hx:=J.xb;have hz:=J.rz;have h2:=(B4 (B4 J.x 2 tu).1 3 bu).1;have hk:=HW.box J.k J.x a0;have hb:L6 ((w1.setCell ⟨XB,2,none⟩ tu).setCell ⟨XB,3,none⟩ bu) (w.heap.size+2) (.agg #[tu,bu]) b':=(hD.1.gr a0 hB).low (by omega);have hw:HW ((w1.setCell ⟨XB,2,none⟩ tu).setCell ⟨XB,3,none⟩ bu) (w.heap.size+2) {h with sh:=b'} tu bu xv dv:=⟨hb,hD.2.1,hk.x,hk.d⟩;exact⟨J.r.kept a0 (by simp;omega),D7 h2,J.rd.row a0 (by omega),I3 J.g a0 (by omega),hw.hz (by have:=a0.size;omega),by have:=hD.2.2.1;show b'.tg.length<=100;omega,hz⟩
theorem Xe(h:w1.ownsRow base 40 6 (Sz g n cap) n (F8 Q7 ps))(hp:ps[k]?=some p):
  World.ownsRow ((((((w1.setCell ⟨g,k*6,none⟩ (Tz y.nm)).setCell ⟨g,k*6+1,none⟩ ru).setCell ⟨g,k*6+2,none⟩ su).setCell ⟨g,k*6+3,none⟩ (Tz y.ad)).setCell ⟨g,k*6+4,none⟩ (Iz y.si)).setCell ⟨g,k*6+5,none⟩ (Iz y.st)) base 40 6 (Sz g n cap) n (F8 Q7 (ps.set k (y,ru,su)))/\w1.grownBy ((((((w1.setCell ⟨g,k*6,none⟩ (Tz y.nm)).setCell ⟨g,k*6+1,none⟩ ru).setCell ⟨g,k*6+2,none⟩ su).setCell ⟨g,k*6+3,none⟩ (Tz y.ad)).setCell ⟨g,k*6+4,none⟩ (Iz y.si)).setCell ⟨g,k*6+5,none⟩ (Iz y.st)) (some g):=by
 have hk:k<ps.length:=(A3.1 hp).1;obtain⟨⟨a0,a1,a2,a3,a4,a5⟩,r0,s0⟩:=p;have h0:=(B4 h (k*6+0) (Tz y.nm)).1;rw[Bl S6 ps k _ (⟨y.nm,a1,a2,a3,a4,a5⟩,r0,s0) 0 _ hp (by omega) rfl] at h0;have h1:=(B4 h0 (k*6+1) ru).1;rw[Bl S6 _ k (⟨y.nm,a1,a2,a3,a4,a5⟩,r0,s0) (⟨y.nm,a1,a2,a3,a4,a5⟩,ru,s0) 1 _ (by rw[C9 hk]) (by omega) rfl] at h1;have h2:=(B4 h1 (k*6+2) su).1;rw[Bl S6 _ k (⟨y.nm,a1,a2,a3,a4,a5⟩,ru,s0) (⟨y.nm,a1,a2,a3,a4,a5⟩,ru,su) 2 _ (by rw[C9 (by simpa using hk)]) (by omega) rfl] at h2;have h3:=(B4 h2 (k*6+3) (Tz y.ad)).1;rw[Bl S6 _ k (⟨y.nm,a1,a2,a3,a4,a5⟩,ru,su) (⟨y.nm,a1,a2,y.ad,a4,a5⟩,ru,su) 3 _ (by rw[C9 (by simpa using hk)]) (by omega) rfl] at h3;have h4:=(B4 h3 (k*6+4) (Iz y.si)).1;rw[Bl S6 _ k (⟨y.nm,a1,a2,y.ad,a4,a5⟩,ru,su) (⟨y.nm,a1,a2,y.ad,y.si,a5⟩,ru,su) 4 _ (by rw[C9 (by simpa using hk)]) (by omega) rfl] at h4;have h5:=(B4 h4 (k*6+5) (Iz y.st)).1;rw[Bl S6 _ k (⟨y.nm,a1,a2,y.ad,y.si,a5⟩,ru,su) (y,ru,su) 5 _ (by rw[C9 (by simpa using hk)]) (by omega) rfl] at h5;simp only[List.set_set] at h5;exact⟨h5,E1 (rb:=g) (E1 (rb:=g) (E1 (rb:=g) (E1 (rb:=g) (E1 (rb:=g) (E1 (rb:=g) (E2 w1 _) _) _) _) _) _) _⟩
theorem LJ.row{v:Value}(J:LJ w w1 rb len N XB v h tv bv (Sz g n cap) dv)(hk:k<h.bs.length)(hy:Z5 w1 B (y,ru,su))(hB:XB<B)(ht:h.sh.tg.length<=100):
  LE w ((((((w1.setCell ⟨g,k*6,none⟩ (Tz y.nm)).setCell ⟨g,k*6+1,none⟩ ru).setCell ⟨g,k*6+2,none⟩ su).setCell ⟨g,k*6+3,none⟩ (Tz y.ad)).setCell ⟨g,k*6+4,none⟩ (Iz y.si)).setCell ⟨g,k*6+5,none⟩ (Iz y.st)) rb len N XB v {h with bs:=h.bs.set k y} tv bv (Sz g n cap) dv:=by
 have hx:=J.xb;have hz:=J.rz;obtain⟨ps,hW,hm⟩:=J.k.x;have a2:k<ps.length:=by rw[← hm] at hk;simpa using hk
 obtain⟨_,_,e⟩:=I7 hW.1;simp only[Value.slice.injEq] at e;obtain⟨-,rfl,-⟩:=e;obtain⟨h6,a0⟩:=Xe (y:=y) (ru:=ru) (su:=su) hW.1 (A0 a2);have a1:w1.grownBy ((((((w1.setCell ⟨g,k*6,none⟩ (Tz y.nm)).setCell ⟨g,k*6+1,none⟩ ru).setCell ⟨g,k*6+2,none⟩ su).setCell ⟨g,k*6+3,none⟩ (Tz y.ad)).setCell ⟨g,k*6+4,none⟩ (Iz y.si)).setCell ⟨g,k*6+5,none⟩ (Iz y.st)) (Vz (some ⟨g,0,none⟩) ps.length cap).ownBlock:=a0;have a3:=hW.1.lt g rfl;have hb:=J.k.k.step hW.1 (by decide) (by decide) a1;have hd:=J.k.d.step hW.1 (by decide) a1
 have hw:HW ((((((w1.setCell ⟨g,k*6,none⟩ (Tz y.nm)).setCell ⟨g,k*6+1,none⟩ ru).setCell ⟨g,k*6+2,none⟩ su).setCell ⟨g,k*6+3,none⟩ (Tz y.ad)).setCell ⟨g,k*6+4,none⟩ (Iz y.si)).setCell ⟨g,k*6+5,none⟩ (Iz y.st)) (w.heap.size+2) {h with bs:=h.bs.set k y} tv bv (Sz g ps.length cap) dv:=by
  refine⟨hb,J.k.z,⟨ps.set k (y,ru,su),⟨by rw[List.length_set];exact h6,λq hq=>?_⟩,by rw[List.map_set,hm]⟩,hd⟩;rcases List.mem_or_eq_of_mem_set hq with hq|rfl
  ·exact (hW.2 q hq).step hW.1 (by decide) (by decide) a1
  ·exact (hy.step hW.1 (by decide) (by decide) a1).low (by omega)
 exact⟨J.r.kept a0 (by simp;omega),D7 (E5 J.x a1 (E9 J.x hW.1 (by decide))),J.rd.row a0 (by omega),I3 J.g a0 (by omega),hw.hz (by have:=a0.size;omega),ht,hz⟩
theorem LJ.cut{m:Nat}{v:Value}(J:LJ w w1 rb len N XB v h tv bv (Sz g n cap) dv)(hm:m<=h.bs.length)(ht:h.sh.tg.length<=100):
  LE w (w1.setCell ⟨XB,4,none⟩ (Sz g m cap)) rb len N XB v {h with bs:=h.bs.take m} tv bv (Sz g m cap) dv:=by
 have a0:w1.grownBy (w1.setCell ⟨XB,4,none⟩ (Sz g m cap)) (some XB):=E1 (E2 _ _) _;have hx:=J.xb;have hz:=J.rz;have h2:=(B4 J.x 4 (Sz g m cap)).1;have hk:=(HW.box J.k J.x a0).hz (by have:=a0.size;omega);refine⟨J.r.kept a0 (by simp;omega),D7 h2,J.rd.row a0 (by omega),I3 J.g a0 (by omega),⟨hk.1,λw' k2 z2=>?_⟩,ht,hz⟩;obtain⟨q1,q2,⟨a,c,e,q3,q4⟩,q5⟩:=hk.2 w' k2 z2;simp only[Value.slice.injEq] at e;obtain⟨rfl,-,rfl⟩:=e;have hl:(h.bs.take m).length=m:=by rw[B8];omega
 refine⟨q1,q2,⟨some ⟨g,0,none⟩,cap,by show _=Vz _ (h.bs.take m).length _;rw[hl],by show (h.bs.take m).length<=_;omega,λhp=>?_⟩,q5⟩;have hp:0<(h.bs.take m).length:=hp;obtain⟨b,o,e2,q6,q7⟩:=q4 (by omega);refine⟨b,o,e2,λi y hy=>q6 i y ?_,q7⟩;have hy:(h.bs.take m)[i]?=some y:=hy;have hi:i<m:=by rw[← hl];exact (A3.1 hy).1
 rwa [List.getElem?_take_of_lt hi] at hy
theorem LJ.dn{v:Value}{du:Value}{d:K0}(J:LJ w w1 rb len N XB v h tv bv xv dv)(hd:Aq w5 (w.heap.size+2) du (h.ds++[d]))(hg:w1.grownBy w5 dv.ownBlock)(ht:h.sh.tg.length<=100):
  CB w5 XB [Iz h.now,Iz h.last,tv,bv,xv,dv]/\LE w (w5.setCell ⟨XB,5,none⟩ du) rb len N XB v {h with ds:=h.ds++[d]} tv bv xv du:=by
 have hx:=J.xb;have hz:=J.rz;obtain⟨gd,a5,a4,rfl,h1,h2⟩:=J.k.d;have a1:w1.grownBy w5 (Vz (some ⟨gd,0,none⟩) (a4.length+h.ds.length) (a4.length+a5)).ownBlock:=hg;have a2:w1.grownBy w5 (some gd):=hg;have a8:=h1.lt gd rfl;obtain⟨ps,hW,hm⟩:=J.k.x;have a3:=E5 J.x a1 (E9 J.x h1 (by decide));have a6:HW w5 (w.heap.size+2) {h with ds:=h.ds++[d]} tv bv xv du:=⟨J.k.k.step h1 (by decide) (by decide) a1,J.k.z,⟨ps,⟨E5 hW.1 a1 (E9 hW.1 h1 (by decide)),λp hp=>(hW.2 p hp).step h1 (by decide) (by decide) a1⟩,hm⟩,hd⟩;have a0:w5.grownBy (w5.setCell ⟨XB,5,none⟩ du) (some XB):=E1 (E2 _ _) _;have h6:=(B4 a3 5 du).1;have a7:=HW.box a6 a3 a0;refine⟨D7 a3,(J.r.kept a2 (by simp;omega)).kept a0 (by simp;omega),D7 h6,(J.rd.row a2 (by omega)).row a0 (by omega),I3 (I3 J.g a2 (by omega)) a0 (by omega),a7.hz (by have:=a2.size;have:=a0.size;omega),ht,hz⟩
theorem Xf(w:World)(a b c d:Int)(t:TypeId)(k:Nat)(hk:k<4):∃x,(w.alloc (Kz [Iz a,Iz b,Iz c,Iz d] t)).cell? ⟨w.heap.size,k,none⟩=some (Iz x):=by
 rw[World.cell?_alloc_at]
 case hn=>rfl
 match k,hk with
 | 0,_=>exact⟨a,rfl⟩
 | 1,_=>exact⟨b,rfl⟩
 | 2,_=>exact⟨c,rfl⟩
 | 3,_=>exact⟨d,rfl⟩
theorem Ly{P:Program}{ops:Array Oper}{a:Act}{w:World}{K:Act->World->Prop}{Q:Exit->Act->World->Prop}{E:Prop}
  (hg:o.guard=none) (s x:Operand) (t:TypeId) (hop:o.op=Op.call {callee:=Callee.builtin Builtin.append,args:=#[s,x],argTypes:=#[t,t]}) (v vx:Value) (hs:a.eval s=v) (hx:a.eval x=vx) (v':Value) (w':World) (hr:(Builtin.append_ #[t,t] o.type #[v,vx]).run P w=.ok v' w') (hK:K (a.put o.dst v') w') :
  if Region.wanted o (yielded ops a.tmps)=true then Oper.wp P o a w K Q else E:=by
 have hw:Region.wanted o (yielded ops a.tmps)=true:=by simp[Region.wanted,hg]
 rw[if_pos hw];unfold Oper.wp;simp[execOp,hop,resolve,invoke,builtin,hs,hx,hr,Result.andThen];exact hK
theorem Vy(rb:Nat)(w:World):Calls prog 118 #[Pz rb 0] w λe w'=>e=.returned (Pz rb 0)/\w'=w:=by
 go_in;go_wp2_with fail;go_ret;exact⟨rfl,rfl⟩
end Go.Proofs.YtmonodehegcfhaaGreatDoor
