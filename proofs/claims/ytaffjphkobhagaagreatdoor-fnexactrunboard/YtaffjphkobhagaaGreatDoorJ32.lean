/- Runs on other tapes, with calls of functions that lie in slots, 17: the functions that are called before anything goes. -/
import Derived.Test.YtaffjphkobhagaaGreatDoorJ29
import Derived.Test.YtaffjphkobhagaaGreatDoorJ27
set_option maxRecDepth 20000
set_option maxHeartbeats 4000000
namespace Go.Proofs.YtaffjphkobhagaaGreatDoor
open Proofs.Tryz
variable{ps:List Ph}{l:List Sl}{b b1 b2 base j q r:Nat}{x:Rb}{rv sv u x0 x1 x10 x11 x2 x3 x4 x5 x6 x7 x8 x9:Value}{W w w' w0:World}
namespace Ld
open Go.Conc Go.RowKit
def fsl(f:Nat):List Nat:=if f==186 || f==196 then [1,2,19,38] else if f==92 then [2,15] else []
def fsL:List Nat:=[4,5,6,9,10,11,12,13,14,15,16,17,18,27,28,29,30,31,32,33,34,35,36,37,38,39,40,41,42,43,44,46,47,48,49,50,56,65,66,67,68,69,70,71,72,73,74,75,76,77,78,79,80,82,83,84,85,86,87,88,89,90,91,92,93,94,108,119,120,121,122,123,124,125,126,127,128,129,130,131,133,134,135,136,137,138,139,140,141,142,143,144,145,146,147,152,158,159,160,161,162,163,164,165,166,167,170,171,172,173,174,175,176,177,178,179,180,181,182,183,184,185,186,187,188,189,190,191,192,193,194,195,196,197,198,199,200,201,209,210,211,212,213,214,215,216,217,218,219,220,221,222,225,226,227,228,229,230,249,250,251,252,253,254,255,256,257,258,259,260]
abbrev sL:FZs:=Ci fsL true fsl
theorem setL:I6 prog sL:=LV sI
end Ld
section
open Go.RowKit
theorem Ac3(h:Up W w0/\AS w0 q 0 x0/\AS w0 q 1 x1/\AS w0 q 2 x2/\AS w0 q 3 x3/\AS w0 q 4 x4/\AS w0 q 5 x5/\AS w0 r 0 x6/\AS w0 r 1 x7/\AS w0 r 2 x8/\AS w0 r 3 x9/\AS w0 r 4 x10/\AS w0 r 5 x11):Up W w0.drew/\w0.drew.cell? ⟨q,0,none⟩=some x0/\w0.drew.cell? ⟨q,1,none⟩=some x1/\w0.drew.cell? ⟨q,2,none⟩=some x2/\w0.drew.cell? ⟨q,3,none⟩=some x3/\w0.drew.cell? ⟨q,4,none⟩=some x4/\w0.drew.cell? ⟨q,5,none⟩=some x5/\w0.drew.cell? ⟨r,0,none⟩=some x6/\w0.drew.cell? ⟨r,1,none⟩=some x7/\w0.drew.cell? ⟨r,2,none⟩=some x8/\w0.drew.cell? ⟨r,3,none⟩=some x9/\w0.drew.cell? ⟨r,4,none⟩=some x10/\w0.drew.cell? ⟨r,5,none⟩=some x11 :=
 ⟨h.1.drew,h.2⟩
theorem Agn{w1:World}(hq:q<W.heap.size)(hr:r<W.heap.size)(h:Up W w0/\AS w0 q 0 x0/\AS w0 q 1 x1/\AS w0 q 2 x2/\AS w0 q 3 x3/\AS w0 q 4 x4/\AS w0 q 5 x5/\AS w0 r 0 x6/\AS w0 r 1 x7/\AS w0 r 2 x8/\AS w0 r 3 x9/\AS w0 r 4 x10/\AS w0 r 5 x11)(hB:Up w0 w1):Up W w1/\AS w1 q 0 x0/\AS w1 q 1 x1/\AS w1 q 2 x2/\AS w1 q 3 x3/\AS w1 q 4 x4/\AS w1 q 5 x5/\AS w1 r 0 x6/\AS w1 r 1 x7/\AS w1 r 2 x8/\AS w1 r 3 x9/\AS w1 r 4 x10/\AS w1 r 5 x11:=by
 obtain⟨h0,a0,a1,a2,a3,a4,a5,a6,a7,a8,a9,b0,b1⟩:=h;have lq:q<w0.heap.size:=A1 hq h0.size;have lr:r<w0.heap.size:=A1 hr h0.size;exact⟨D3 h0 hB,(hB.cell (p:=⟨q,0,none⟩) lq).trans a0,(hB.cell (p:=⟨q,1,none⟩) lq).trans a1,(hB.cell (p:=⟨q,2,none⟩) lq).trans a2,(hB.cell (p:=⟨q,3,none⟩) lq).trans a3,(hB.cell (p:=⟨q,4,none⟩) lq).trans a4,(hB.cell (p:=⟨q,5,none⟩) lq).trans a5,(hB.cell (p:=⟨r,0,none⟩) lr).trans a6,(hB.cell (p:=⟨r,1,none⟩) lr).trans a7,(hB.cell (p:=⟨r,2,none⟩) lr).trans a8,(hB.cell (p:=⟨r,3,none⟩) lr).trans a9,(hB.cell (p:=⟨r,4,none⟩) lr).trans b0,(hB.cell (p:=⟨r,5,none⟩) lr).trans b1⟩
theorem Aa6:(prog.info? 52).map (·.size)=some 6:=sI
structure Ew (w:World) (x:Rb) (rv sv:Value):Prop where
 r:Nl w rv x.ps
 s:Fp w sv x.sl
 zp:Dz x.ps
 zs:SlZ x.sl
 zn:x.nm.size<=maxLen
 za:x.ad.size<=maxLen
theorem Ew.up(h:Ew w x rv sv)(hb:Up w w'):Ew w' x rv sv:=⟨h.r.up hb,h.s.up hb,h.zp,h.zs,h.zn,h.za⟩
structure AO (w:World) (base:Nat) (x:Rb) (b1 b2:Nat):Prop where
 r:Own w b1 x.ps
 s:Eu w b2 x.sl
 l1:base<=b1
 l2:b1<b2
theorem AO.up(h:AO w base x b1 b2)(hb:Up w w'):AO w' base x b1 b2:=⟨h.r.up hb,h.s.up hb,h.l1,h.l2⟩
theorem AO.low{base':Nat}(h:AO w base x b1 b2)(hb:base'<=base):AO w base' x b1 b2:=⟨h.r,h.s,B4 hb h.l1,h.l2⟩
theorem AO.v(h:AO w base x b1 b2)(hx:Ew W x rv sv)(np:x.ps.length<=1048576)(ns:x.sl.length<=1048576):CU w x (Sy b1 x.ps.length x.ps.length) (Sy b2 x.sl.length x.sl.length) :=
 ⟨⟨b1,0,_,rfl,h.r.1,h.r.2.2,A3 _,oM⟩,⟨b2,0,_,rfl,h.s.1,h.s.2.2⟩,hx.zp,hx.zs,hx.zn,np,ns⟩
theorem Own.other(h:Own w b ps)(hne:b≠r):Own (w.setCell ⟨r,j,none⟩ u) b ps:=by
 have hk:(w.setCell ⟨r,j,none⟩ u).heap[b]?=w.heap[b]?:=Below.heap_setCell _ _ _ _ (λe=>hne e);refine⟨λi p hp k v hv=>?_,GD h.2.1 hk,by simpa using h.2.2⟩
 .rw[C2 (w:=w) (a:=⟨b,0+i*8+k,none⟩) hk];exact h.1 i p hp k v hv
theorem Eu.other(h:Eu w b l)(hne:b≠r):Eu (w.setCell ⟨r,j,none⟩ u) b l:=by
 have hk:(w.setCell ⟨r,j,none⟩ u).heap[b]?=w.heap[b]?:=Below.heap_setCell _ _ _ _ (λe=>hne e);refine⟨λi p hp k v hv=>?_,GD h.2.1 hk,by simpa using h.2.2⟩
 .rw[C2 (w:=w) (a:=⟨b,0+i*2+k,none⟩) hk];exact h.1 i p hp k v hv
theorem AO.set(h:AO w base x b1 b2)(hr:r<base):AO (w.setCell ⟨r,j,none⟩ u) base x b1 b2 :=
 ⟨h.r.other (by have:=h.l1;omega),h.s.other (by have:=h.l1;have:=h.l2;omega),h.l1,h.l2⟩
theorem Ac4(x:Rb)(rv sv:Value)(w:World)(h:Ew w x rv sv)(l:Int)(hl:0<=l)(hl':l<=1048576):
  Calls prog 29 #[.agg #[Tz x.nm,rv,sv,Tz x.ad,Iz x.si,Iz x.st],Iz l] w λe' w'=>(∃y:Int,e'=.returned (Iz y)/\(0<=y->x.ps.length<=1048576/\x.sl.length<=1048576/\x.nm.size<=1048576)/\y<=1048576)/\Up w w':=by
 obtain⟨a1,c1,b0⟩:=h.r.shape;obtain⟨a2,c2,b1⟩:=h.s.shape;subst b0 b1;have zn:=h.zn;have za:=h.za;unfold maxLen at zn za;have hC:CB (w.alloc (Kz [Tz x.nm,Vz a1 x.ps.length c1,Vz a2 x.sl.length c2,Tz x.ad,Iz x.si,Iz x.st] 70)) w.heap.size [Tz x.nm,Vz a1 x.ps.length c1,Vz a2 x.sl.length c2,Tz x.ad,Iz x.si,Iz x.st]:=E9 w _ _;have a4:=(A4 w.heap.size w).alloc (A3 _) (Kz [Tz x.nm,Vz a1 x.ps.length c1,Vz a2 x.sl.length c2,Tz x.ad,Iz x.si,Iz x.st] 70);go_in;go_upto_region 1 with fail;generalize w.alloc (Kz [Tz x.nm,Vz a1 x.ps.length c1,Vz a2 x.sl.length c2,Tz x.ad,Iz x.si,Iz x.st] 70)=W1 at *;have a6:=hC.2.2;obtain⟨d0,d1,d2,d3,d4,d5⟩:=hC.c6;by_cases h1:l-x.nm.size<0
 .go_wp2_with fail;go_ret;exact⟨⟨_,rfl,oM,oM⟩,a4⟩
 go_wp2_with fail;refine (Acy x.ps _ _ _ oM oM (h.r.up a4) h.zp).mono ?_;rintro e w2 ⟨⟨y2,rfl,a7,b2⟩,a5⟩;by_cases h2:y2<0
 .go_wp2_with fail;go_ret;exact⟨⟨_,rfl,oM,oM⟩,D3 a4 a5⟩
 have b4:=a7 oM;obtain⟨e0,e1,e2,e3,e4,e5⟩:=(hC.up a5 a6).c6;clear d0 d1 d2 d3 d4 d5 a7;have a3:=D3 a4 a5;go_wp2_with fail;refine (UB x.sl _ _ _ oM oM (h.s.up a3) h.zs).mono ?_;rintro e w3 ⟨⟨y3,rfl,a8,b3⟩,a9⟩;have a0:=D3 a3 a9;by_cases h3:y3<0
 .go_wp2_with fail;go_ret;exact⟨⟨_,rfl,oM,oM⟩,a0⟩
 have b5:=a8 oM;obtain⟨f0,f1,f2,f3,f4,f5⟩:=(hC.up (D3 a5 a9) a6).c6;clear e0 e1 e2 e3 e4 e5 a8;by_cases h4:y3-x.ad.size<0
 .go_wp2_with fail;go_ret;exact⟨⟨_,rfl,oM,oM⟩,a0⟩
 go_wp2_with fail;go_ret;exact⟨⟨_,rfl,oM,oM⟩,a0⟩
theorem Ac5(x:Rb)(rv sv:Value)(w:World)(h:Ew w x rv sv)(np:x.ps.length<=1048576)(ns:x.sl.length<=1048576):
  Calls prog 41 #[.agg #[Tz x.nm,rv,sv,Tz x.ad,Iz x.si,Iz x.st]] w λe w'=>(∃b1 b2,e=.returned (.agg #[Tz x.nm,Sy b1 x.ps.length x.ps.length,Sy b2 x.sl.length x.sl.length,Tz x.ad,Iz x.si,Iz x.st])/\AO w' w.heap.size x b1 b2)/\Up w w':=by
 obtain⟨a1,c1,d4⟩:=h.r.shape;obtain⟨a2,c2,d5⟩:=h.s.shape;subst d4 d5;go_in;go_upto_region 2 with fail;obtain⟨W1,b4,kP,kR,kO,b5,b6⟩:=cbE3 w [Tz x.nm,Vz a1 x.ps.length c1,Vz a2 x.sl.length c2,Tz x.ad,Iz x.si,Iz x.st] 70 [Ez,Nz,Nz,Ez,Iz 0,Iz 0] 52 [Ez,Nz,Nz,Ez,Iz 0,Iz 0] 52;rw[b4];clear b4;obtain⟨W2,b7,a5,b8,b9,a6,d6⟩:∃W2,W1.setCell ⟨w.heap.size+2,0,none⟩ (Tz x.nm)=W2/\CB W2 w.heap.size [Tz x.nm,Vz a1 x.ps.length c1,Vz a2 x.sl.length c2,Tz x.ad,Iz x.si,Iz x.st]/\CB W2 (w.heap.size+1) [Ez,Nz,Nz,Ez,Iz 0,Iz 0]/\CB W2 (w.heap.size+2) [Tz x.nm,Nz,Nz,Ez,Iz 0,Iz 0]/\Up w W2/\W2.heap.size=w.heap.size+3:=⟨_,rfl,kP.other oM,kR.other oM,kO.set (j:=0) dC,b5.setCell (p:=⟨w.heap.size+2,0,none⟩) dC _,by simpa using b6⟩;obtain⟨p0,p1,p2,p3,p4,p5⟩:=kP.c6;obtain⟨o0,o1,o2,o3,o4,o5⟩:=kO.c6;obtain⟨f0,f1,f2,f3,f4,f5⟩:=kO.f6;go_upto_region 3 with fail;try rw[b7]
 clear b7 p0 p1 p2 p3 p4 p5 o0 o1 o2 o3 o4 o5 f0 f1 f2 f3 f4 f5 kP kR kO b5 b6;obtain⟨p0,p1,p2,p3,p4,p5⟩:=a5.c6;go_wp2_with fail;refine (AeA x.ps _ _ (h.r.up a6) np).mono ?_;rintro e w3 ⟨⟨b1,rfl,d1,d2⟩,a3⟩;rw[d6] at d2;have e3:=a3.size;have c7:=a5.up a3 oM;have c8:=b8.up a3 oM;have a4:=b9.up a3 oM;have c9:=D3 a6 a3;clear p0 p1 p2 p3 p4 p5 a5 b8 b9 a6 a3
 obtain⟨W4,c3,a7,c4,c5,a8,a9,e2⟩:∃W4,w3.setCell ⟨w.heap.size+2,1,none⟩ (Sy b1 x.ps.length x.ps.length)=W4/\CB W4 w.heap.size [Tz x.nm,Vz a1 x.ps.length c1,Vz a2 x.sl.length c2,Tz x.ad,Iz x.si,Iz x.st]/\CB W4 (w.heap.size+1) [Ez,Nz,Nz,Ez,Iz 0,Iz 0]/\CB W4 (w.heap.size+2) [Tz x.nm,Sy b1 x.ps.length x.ps.length,Nz,Ez,Iz 0,Iz 0]/\Own W4 b1 x.ps/\Up w W4/\W4.heap.size=w3.heap.size :=
  ⟨_,rfl,c7.other oM,c8.other oM,a4.set (j:=1) dC,d1.other oM,c9.setCell (p:=⟨w.heap.size+2,1,none⟩) dC _,dC⟩
 obtain⟨o0,o1,o2,o3,o4,o5⟩:=a4.c6;obtain⟨f0,f1,f2,f3,f4,f5⟩:=a4.f6;go_upto_region 4 with fail;try rw[c3]
 clear c3 o0 o1 o2 o3 o4 o5 f0 f1 f2 f3 f4 f5 c7 c8 a4 c9;have b0:=a8.2.2;clear d1;obtain⟨p0,p1,p2,p3,p4,p5⟩:=a7.c6;go_wp2_with fail;refine (UE x.sl _ _ (h.s.up a9) ns).mono ?_;rintro e w5 ⟨⟨b2,rfl,d3,e1⟩,a0⟩;have e4:=a0.size;have d7:=a7.up a0 oM;have b3:=c4.up a0 oM;have d0:=c5.up a0 oM;have d8:AO w5 (w.heap.size+3) x b1 b2:=⟨a8.up a0,d3,d2,A1 b0 e1⟩;have d9:=D3 a9 a0;clear p0 p1 p2 p3 p4 p5 a7 c4 c5 a9 a0 a8 d3;obtain⟨p0,p1,p2,p3,p4,p5⟩:=d7.c6;obtain⟨o0,o1,o2,o3,o4,o5⟩:=d0.c6;obtain⟨f0,f1,f2,f3,f4,f5⟩:=d0.f6;obtain⟨r0,r1,r2,r3,r4,r5⟩:=b3.c6;obtain⟨g0,g1,g2,g3,g4,g5⟩:=b3.f6;have e0:=(((b3.other (q:=w.heap.size+2) (j:=2) (u:=Sy b2 x.sl.length x.sl.length) oM).other (q:=w.heap.size+2) (j:=3) (u:=Tz x.ad) oM).other (q:=w.heap.size+2) (j:=4) (u:=.int .i64 x.si) oM).other (q:=w.heap.size+2) (j:=5) (u:=.int .i64 x.st) oM;go_wp2_with fail;refine Vs results41 underlying52 rfl Aa6 e0 rfl ?_;refine⟨⟨b1,b2,rfl,?_⟩,?_⟩
 .exact ((((((((((d8.set oM).set oM).set oM).set oM).set oM).set oM).set oM).set oM).set oM).set oM).low oM
 .exact (((((((((d9.setCell (p:=⟨w.heap.size+2,2,none⟩) dC _).setCell (p:=⟨w.heap.size+2,3,none⟩) dC _).setCell (p:=⟨w.heap.size+2,4,none⟩) dC _).setCell (p:=⟨w.heap.size+2,5,none⟩) dC _).setCell (p:=⟨w.heap.size+1,0,none⟩) dC _).setCell (p:=⟨w.heap.size+1,1,none⟩) dC _).setCell (p:=⟨w.heap.size+1,2,none⟩) dC _).setCell (p:=⟨w.heap.size+1,3,none⟩) dC _).setCell (p:=⟨w.heap.size+1,4,none⟩) dC _).setCell (p:=⟨w.heap.size+1,5,none⟩) dC _
theorem Ac6(x:Rb)(p1 p2 q1 q2 base base':Nat)(w:World)(h:AO w base x p1 p2)(h':AO w base' x q1 q2)(np:x.ps.length<=1048576)(ns:x.sl.length<=1048576):
  cU prog 63 #[.agg #[Tz x.nm,Sy p1 x.ps.length x.ps.length,Sy p2 x.sl.length x.sl.length,Tz x.ad,Iz x.si,Iz x.st],.agg #[Tz x.nm,Sy q1 x.ps.length x.ps.length,Sy q2 x.sl.length x.sl.length,Tz x.ad,Iz x.si,Iz x.st]] w (.bool true):=by
 delta cU;go_in;go_upto_region 1 with fail;obtain⟨W1,a5,kP,kR,a2,a6⟩:=cbE2 w [Tz x.nm,Sy p1 x.ps.length x.ps.length,Sy p2 x.sl.length x.sl.length,Tz x.ad,Iz x.si,Iz x.st] 52 [Tz x.nm,Sy q1 x.ps.length x.ps.length,Sy q2 x.sl.length x.sl.length,Tz x.ad,Iz x.si,Iz x.st] 52;rw[a5];clear a5;obtain⟨d0,d1,d2,d3,d4,d5⟩:=kP.c6;obtain⟨e0,e1,e2,e3,e4,e5⟩:=kR.c6;have o1:=h.r.up a2;have o2:=h'.r.up a2;go_wp2_with fail;refine (Aes x.ps p1 q1 _ _ _ o1.1 o1.2.2 o2.1 o2.2.2 np).mono ?_;rintro e w2 ⟨rfl,a1⟩;have a0:=D3 a2 a1;clear d0 d1 d2 d3 d4 d5 e0 e1 e2 e3 e4 e5;obtain⟨d0,d1,d2,d3,d4,d5⟩:=(kP.up a1 oM).c6;obtain⟨e0,e1,e2,e3,e4,e5⟩:=(kR.up a1 oM).c6;have s1:=h.s.up a0;have s2:=h'.s.up a0;go_wp2_with fail;refine (UF x.sl p2 q2 _ _ _ s1.1 s1.2.2 s2.1 s2.2.2 ns).mono ?_;rintro e w3 ⟨rfl,a4⟩;have a3:=D3 a0 a4;clear d0 d1 d2 d3 d4 d5 e0 e1 e2 e3 e4 e5;obtain⟨d0,d1,d2,d3,d4,d5⟩:=(kP.up (D3 a1 a4) oM).c6;obtain⟨e0,e1,e2,e3,e4,e5⟩:=(kR.up (D3 a1 a4) oM).c6;go_wp2_with fail;go_ret;exact⟨rfl,a3⟩
end
end Go.Proofs.YtaffjphkobhagaaGreatDoor
