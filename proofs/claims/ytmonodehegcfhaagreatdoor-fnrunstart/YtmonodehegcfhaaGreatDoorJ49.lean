/- Drawing houses: a spoilt one: its walk. -/
import Derived.Test.YtmonodehegcfhaaGreatDoorJ45
set_option maxRecDepth 20000
set_option maxHeartbeats 8000000
namespace Go.Proofs.YtmonodehegcfhaaGreatDoor
open Go.Proofs.Tryz
open Go.RowKit
variable{tmps:Array Value}{nm:BA}{h:House}{ps:List Ph}{sl:List Sl}{cs:List Value}{B E HB N base g len rb rk:Nat}{P:Program}{T:TypeId}{bv dv pv sv tv xv:Value}{Z w w' w1 w2:World}
def NM:List BA:=[⟨#[]⟩,⟨#[113]⟩]
theorem Re(rb len N:Nat)(v:Value)(h:House)(tv bv xv dv:Value)(w:World)(hR:Rd w rb v len N)(hN:N<=700000)(H:HV w h tv bv xv dv)(hf:Gl h)(hq:AV KR h):
  Calls prog 61 #[Pz rb 0,.agg #[Iz h.now,Iz h.last,tv,bv,xv,dv]] w λe w'=>(∃h' tu bu xu du,e=.returned (.agg #[Iz h'.now,Iz h'.last,tu,bu,xu,du])/\h'.sh.tg.length<=100/\HZ w.heap.size w' h' tu bu xu du)/\Rd w' rb v len (N+500)/\w.grownBy w' (some rb):=by
 have j0:=hR.lt;obtain⟨a1,c1,a2,c2,a3,c3,a4,c4,rfl,rfl,rfl,rfl⟩:=H.shapes;obtain⟨⟨f1,f2,f3⟩,f4,f5⟩:=id hf;obtain⟨W1,b9,kA,kR,d0,i5⟩:=cbE2 w (Hcz h a1 c1 a2 c2 a3 c3 a4 c4) 30 [Iz 0,Iz 0,Nz,Nz,Nz,Nz] 30;have H1:=H.up d0;have g6:=hR.kept d0;have g7:w.grownBy W1 (some rb):=L2 d0;go_in;go_upto_region 1 with fail;try rw[b9]
 clear b9 hR H;obtain⟨e0,e1,e2,e3,e4,e5⟩:=kA.c6;have g8:=Cv h _ _ _ _ W1 H1 (by omega) (by omega) (λy hy=>by have:=f3 y hy;omega) (by omega) (by omega);go_upto_region 2 with (go_at_call 25;refine g8.mono ?_;rintro e w2 ⟨⟨tu,bu,xu,du,rfl,hc⟩,b6⟩;obtain⟨b1,d1,b2,d2,b3,d3,b4,d4,rfl,rfl,rfl,rfl⟩:=hc.v.shapes)
 clear e0 e1 e2 e3 e4 e5 g8
 obtain⟨W3,f9,J3⟩:∃W3,w2.alloc (.cells (Hcz h b1 d1 b2 d2 b3 d3 b4 d4).toArray 30)=W3/\LJ w W3 rb len N w2.heap.size v h (Vz b1 h.sh.tg.length d1) (Vz b2 h.sh.bs.length d2) (Vz b3 h.bs.length d3) (Vz b4 h.ds.length d4):=by
  have d6:Up w2 (w2.alloc (.cells (Hcz h b1 d1 b2 d2 b3 d3 b4 d4).toArray 30)):=(A5 _ _).alloc (A4 _) _;have k7:=b6.size;exact⟨_,rfl,((kR.up b6 (by omega)).up d6 (by omega)),C0 w2 _ 1 (by omega) (by unfold maxLen;omega) rfl,(g6.kept b6).kept d6,E0 (E0 g7 (L2 b6)) (L2 d6),(hc.low (by omega)).up d6,j0⟩
 try rw[f9]
 clear f9 hc b6 kA kR g6 g7 H1 d0;generalize hXB:w2.heap.size=XB at *;clear hXB i5;go_wp2_with fail;refine (K2 rb len _ v 7 _ J3.rd (by omega)).mono ?_;rintro e w4 ⟨⟨n,rfl,j8,h9⟩,i0,i1⟩;have j1:=h9 (by omega);have J4:=J3.gr i1 i0;have k8:=J4.xb;clear J3 i0 i1 h9;have j2:n=0∨n=1∨n=2∨n=3∨n=4∨n=5∨n=6:=by omega
 clear j8 j1;have Hq:Hid (AV KR h):=hq;have Hf:Hid (Gl h):=hf;have ht:h.sh.tg.length<=100:=by omega
 clear hq hf f1 f2 f3;rcases j2 with rfl|rfl|rfl|rfl|rfl|rfl|rfl
 ·have e6:Up w4 (w4.alloc (Kz [Iz (-1),Iz 0,Iz 100000,Iz 100001] 3)):=(A5 _ _).alloc (A4 _) _;have JA:=J4.up e6;have c7:=Xf w4 (-1) 0 100000 100001 3;have j3:w4.heap.size<(w4.alloc (Kz [Iz (-1),Iz 0,Iz 100000,Iz 100001] 3)).heap.size:=by simp
  go_upto_region 5 with fail;go_upto_region 18 with (go_at_call 20;refine (K2 rb len _ v 4 _ JA.rd (by omega)).mono ?_;rintro e w5 ⟨⟨y,rfl,i2,c0⟩,a9,a7⟩;have h1:=c0 (by omega);obtain⟨k,rfl⟩:∃k:Nat,y=(k:Int):=⟨y.toNat,by omega⟩;have hk:k<4:=(by omega);obtain⟨i,hi⟩:=c7 k hk;have e7:=a7.cell hi (by simp;omega);have J5:=JA.gr a7 a9;obtain⟨e0,-,-,-,-,-⟩:=J5.cb.c6;obtain⟨f0,-,-,-,-,-⟩:=J5.cb.f6)
  clear e0 f0 J4 JA c7 hi e7;have JE:=(J5.put 0 (Iz i) {h with now:=i} rfl rfl rfl rfl).le ht;generalize w5.setCell ⟨XB,0,none⟩ (Iz i)=WE at *;clear J5 a9 a7
  (obtain⟨e0,e1,e2,e3,e4,e5⟩:=JE.x.c6;obtain⟨y0,y1,y2,y3,y4,y5⟩:=JE.r.c6;obtain⟨f0,f1,f2,f3,f4,f5⟩:=JE.r.f6;go_wp2_with fail;refine N8 results61 underlying30 rfl G6 JE.r rfl ?_;have b8:=JE.rz;have a0:=G3 WE (w.heap.size+1) (Iz (({h with now:=i}:House)).now) (Iz (({h with now:=i}:House)).last) (Vz b1 h.sh.tg.length d1) (Vz b2 h.sh.bs.length d2) (Vz b3 h.bs.length d3) (Vz b4 h.ds.length d4);exact⟨⟨({h with now:=i}:House),_,_,_,_,rfl,JE.ts,(JE.z.gr a0 (by omega)).low (by omega)⟩,(JE.rd.row a0 (by omega)).mono (by omega),I3 JE.g a0 (by omega)⟩)
 ·have e6:Up w4 (w4.alloc (Kz [Iz (-1),Iz 0,Iz 1,Iz 1000000,Iz 1000001] 3)):=(A5 _ _).alloc (A4 _) _;have JA:=J4.up e6;have c7:=Qe w4 (-1) 0 1 1000000 1000001 3;have j3:w4.heap.size<(w4.alloc (Kz [Iz (-1),Iz 0,Iz 1,Iz 1000000,Iz 1000001] 3)).heap.size:=by simp
  go_upto_region 7 with fail;go_upto_region 18 with (go_at_call 20;refine (K2 rb len _ v 5 _ JA.rd (by omega)).mono ?_;rintro e w5 ⟨⟨y,rfl,i2,c0⟩,a9,a7⟩;have h1:=c0 (by omega);obtain⟨k,rfl⟩:∃k:Nat,y=(k:Int):=⟨y.toNat,by omega⟩;have hk:k<5:=(by omega);obtain⟨i,hi⟩:=c7 k hk;have e7:=a7.cell hi (by simp;omega);have J5:=JA.gr a7 a9;obtain⟨-,e0,-,-,-,-⟩:=J5.cb.c6;obtain⟨-,f0,-,-,-,-⟩:=J5.cb.f6)
  clear e0 f0 J4 JA c7 hi e7;have JE:=(J5.put 1 (Iz i) {h with last:=i} rfl rfl rfl rfl).le ht;generalize w5.setCell ⟨XB,1,none⟩ (Iz i)=WE at *;clear J5 a9 a7
  (obtain⟨e0,e1,e2,e3,e4,e5⟩:=JE.x.c6;obtain⟨y0,y1,y2,y3,y4,y5⟩:=JE.r.c6;obtain⟨f0,f1,f2,f3,f4,f5⟩:=JE.r.f6;go_wp2_with fail;refine N8 results61 underlying30 rfl G6 JE.r rfl ?_;have b8:=JE.rz;have a0:=G3 WE (w.heap.size+1) (Iz (({h with last:=i}:House)).now) (Iz (({h with last:=i}:House)).last) (Vz b1 h.sh.tg.length d1) (Vz b2 h.sh.bs.length d2) (Vz b3 h.bs.length d3) (Vz b4 h.ds.length d4);exact⟨⟨({h with last:=i}:House),_,_,_,_,rfl,JE.ts,(JE.z.gr a0 (by omega)).low (by omega)⟩,(JE.rd.row a0 (by omega)).mono (by omega),I3 JE.g a0 (by omega)⟩)
 iterate 2
  ·go_upto_region 10 with fail;obtain⟨-,-,e2,e3,-,-⟩:=J4.cb.c6;have JD:=J4.up (A5 _ _).drew;have a5:At w4.drew XB 2 (Vz b1 h.sh.tg.length d1)/\At w4.drew XB 3 (Vz b2 h.sh.bs.length d2):=⟨e2,e3⟩;refine F5 6 (λw'=>At w' XB 2 (Vz b1 h.sh.tg.length d1)/\At w' XB 3 (Vz b2 h.sh.bs.length d2)) (by kernel_rfl) ?_;generalize w4.drew=X1 at JD a5 ⊢
   clear J4 e2 e3;refine D6 0 rfl a5 ?_;refine D6 2 rfl a5 ?_;refine D6 3 rfl a5 ?_;refine E7 1 rfl (λK hK=>?_);go_simp;go_wp2_with (go_at_call 118;refine (Vy rb _).mono ?_;rintro e w5 ⟨rfl,rfl⟩)
   refine E6 hK a5 ?_;clear hK K;refine E7 4 rfl (λK hK=>?_);go_simp;have h2:Dk w5 (w.heap.size+2) (.agg #[(Vz b1 h.sh.tg.length d1),(Vz b2 h.sh.bs.length d2)]) h.sh:=⟨JD.k.k,JD.k.z,Hf.out.1⟩;go_wp2_with (go_at_call 117;refine (QX rb len _ _ v _ h.sh _ JD.rd (by omega) h2).mono ?_;rintro e w6 ⟨⟨u,b',rfl,f8⟩,b7,a6⟩)
   have J6:=JD.gr a6 b7;obtain⟨t1,m1,t2,m2,_,rfl,-⟩:=f8.1.parts;have e8:=JD.xb;have b0:At w6 XB 2 (Vz b1 h.sh.tg.length d1)/\At w6 XB 3 (Vz b2 h.sh.bs.length d2):=⟨J6.cb.c6.2.2.1,J6.cb.c6.2.2.2.1⟩;obtain⟨-,-,f2,f3,-,-⟩:=J6.cb.f6;clear JD h2 a6 b7;refine E6 hK b0 ?_;clear hK K;refine D6 5 rfl b0 ?_;refine E7 6 rfl (λK hK=>?_);go_simp;refine Bf hK ?_;clear hK K;refine F0 (by kernel_rfl) ?_ _;clear b0 a5 f2 f3;have JE:=J6.book f8 (by omega);generalize (w6.setCell ⟨XB,2,none⟩ (Vz t1 b'.tg.length m1)).setCell ⟨XB,3,none⟩ (Vz t2 b'.bs.length m2)=WE at *;clear J6 f8;go_upto_region 18 with fail
   (obtain⟨e0,e1,e2,e3,e4,e5⟩:=JE.x.c6;obtain⟨y0,y1,y2,y3,y4,y5⟩:=JE.r.c6;obtain⟨f0,f1,f2,f3,f4,f5⟩:=JE.r.f6;go_wp2_with fail;refine N8 results61 underlying30 rfl G6 JE.r rfl ?_;have b8:=JE.rz;have a0:=G3 WE (w.heap.size+1) (Iz (({h with sh:=b'}:House)).now) (Iz (({h with sh:=b'}:House)).last) (Vz t1 b'.tg.length m1) (Vz t2 b'.bs.length m2) (Vz b3 h.bs.length d3) (Vz b4 h.ds.length d4);exact⟨⟨({h with sh:=b'}:House),_,_,_,_,rfl,JE.ts,(JE.z.gr a0 (by omega)).low (by omega)⟩,(JE.rd.row a0 (by omega)).mono (by omega),I3 JE.g a0 (by omega)⟩)
 ·obtain⟨-,-,-,-,e4,-⟩:=J4.cb.c6;by_cases hp:0<h.bs.length
  ·go_upto_region 14 with (go_at_call 20;refine (K2 rb len _ v (h.bs.length:Int) _ J4.rd (by omega)).mono ?_;rintro e w5 ⟨⟨y,rfl,i2,c0⟩,a9,a7⟩;have J5:=J4.gr a7 a9;clear e4;obtain⟨-,-,-,-,e4,-⟩:=J5.cb.c6)
   have h1:=c0 (by omega);obtain⟨k,rfl⟩:∃k:Nat,y=(k:Int):=⟨y.toNat,by omega⟩;have hk:k<h.bs.length:=by omega
   clear c0 a9 a7 J4;obtain⟨ps,hW,hm⟩:=J5.k.x;have h3:ps.length=h.bs.length:=by rw[← hm];simp
   obtain⟨g,cg,ee⟩:=I6 hW.1 (by omega);simp only[Value.slice.injEq] at ee;obtain⟨rfl,-,rfl⟩:=ee;have j4:LY w5 (Sz g h.bs.length d3) h.bs:=hW.rbs hm;obtain⟨_,_,ee,-,d5⟩:=j4;simp only[Value.slice.injEq,true_and] at ee;obtain⟨rfl,rfl⟩:=ee;obtain⟨_,_,ee,d5,i6⟩:=d5 hp;simp only[Option.some.injEq,Addr.mk.injEq,and_true] at ee;obtain⟨rfl,rfl⟩:=ee;have k9:=(hW.1.lt g rfl).1;obtain⟨p,q,c,p2,q2,c',a8,hv⟩:=(d5.at hk).open;rw[Nat.zero_add] at a8;have j5:KR (h.bs[k]).ps (h.bs[k]).sl:=Hq.out _ (List.getElem_mem hk);have Hv:Hid (T1 w5 h.bs[k] (Sy p q (h.bs[k]).ps.length c) (Sy p2 q2 (h.bs[k]).sl.length c')):=hv;generalize hxk:h.bs[k]=x at *;have JD:=J5.up (A5 _ _).drew;have a5:At w5.drew XB 4 (Sz g h.bs.length d3)/\At w5.drew g (k*6) (Tz x.nm)/\At w5.drew g (k*6+1) (Sy p q x.ps.length c)/\At w5.drew g (k*6+2) (Sy p2 q2 x.sl.length c')/\At w5.drew g (k*6+3) (Tz x.ad)/\At w5.drew g (k*6+4) (Iz x.si)/\At w5.drew g (k*6+5) (Iz x.st):=⟨e4,a8⟩;have Hvd:=Hv.out.up (A5 _ _).drew;refine F5 11 (λw'=>At w' XB 4 (Sz g h.bs.length d3)/\At w' g (k*6) (Tz x.nm)/\At w' g (k*6+1) (Sy p q x.ps.length c)/\At w' g (k*6+2) (Sy p2 q2 x.sl.length c')/\At w' g (k*6+3) (Tz x.ad)/\At w' g (k*6+4) (Iz x.si)/\At w' g (k*6+5) (Iz x.st)) (by kernel_rfl) ?_;generalize w5.drew=X1 at JD a5 Hvd ⊢
   clear J5 e4 a8 hv Hv d5 hW i6;refine D6 0 rfl a5 ?_;refine D6 1 rfl a5 ?_;refine D6 2 rfl a5 ?_;refine D6 3 rfl a5 ?_;refine D6 4 rfl a5 ?_;refine D6 5 rfl a5 ?_;refine D6 6 rfl a5 ?_;refine D6 7 rfl a5 ?_;refine D6 8 rfl a5 ?_;refine E7 9 rfl (λK hK=>?_);go_simp;go_wp2_with (go_at_call 119;refine (Tl rb len _ v x _ _ _ JD.rd (by omega) Hvd j5).mono ?_;rintro e w6 ⟨⟨y,ru,su,rfl,-,d7⟩,b7,a6⟩)
   have e8:=JD.xb;have l0:=JD.rz;have J6:=JD.gr a6 b7;obtain⟨g1,n1,m1,ee⟩:NN ru:=d7.nr;obtain⟨g2,n2,m2,ef⟩:NN su:=d7.ns;subst ee ef;have b0:At w6 XB 4 (Sz g h.bs.length d3)/\At w6 g (k*6) (Tz x.nm)/\At w6 g (k*6+1) (Sy p q x.ps.length c)/\At w6 g (k*6+2) (Sy p2 q2 x.sl.length c')/\At w6 g (k*6+3) (Tz x.ad)/\At w6 g (k*6+4) (Iz x.si)/\At w6 g (k*6+5) (Iz x.st):=⟨J6.cb.c6.2.2.2.2.1,a6.cell a5.2.1 (by simp;omega),a6.cell a5.2.2.1 (by simp;omega),a6.cell a5.2.2.2.1 (by simp;omega),a6.cell a5.2.2.2.2.1 (by simp;omega),a6.cell a5.2.2.2.2.2.1 (by simp;omega),a6.cell a5.2.2.2.2.2.2 (by simp;omega)⟩;obtain⟨i7,g0,g3⟩:=J6.k.x;have h4:i7.length=h.bs.length:=by rw[← g3];simp
   have b5:=g0.1;rw[h4] at b5;have k0:=b5.frozenAt (k*6);have k1:=b5.frozenAt (k*6+1);have k2:=b5.frozenAt (k*6+2);have k3:=b5.frozenAt (k*6+3);have k4:=b5.frozenAt (k*6+4);have k5:=b5.frozenAt (k*6+5);clear JD a6 b7 a5 Hvd g0 b5 g3 h4;refine E6 hK b0 ?_;clear hK K;refine D6 10 rfl b0 ?_;refine E7 11 rfl (λK hK=>?_);go_simp;refine Bf hK ?_;clear hK K;refine F0 (by kernel_rfl) ?_ _;clear b0 k0 k1 k2 k3 k4 k5;have JE:=J6.row (y:=y) hk d7 (by omega) ht;generalize ((((((w6.setCell ⟨g,k*6,none⟩ (Tz y.nm)).setCell ⟨g,k*6+1,none⟩ (Sz g1 n1 m1)).setCell ⟨g,k*6+2,none⟩ (Sz g2 n2 m2)).setCell ⟨g,k*6+3,none⟩ (Tz y.ad)).setCell ⟨g,k*6+4,none⟩ (Iz y.si)).setCell ⟨g,k*6+5,none⟩ (Iz y.st))=WE at *;clear J6 d7;go_upto_region 18 with fail
   (obtain⟨e0,e1,e2,e3,e4,e5⟩:=JE.x.c6;obtain⟨y0,y1,y2,y3,y4,y5⟩:=JE.r.c6;obtain⟨f0,f1,f2,f3,f4,f5⟩:=JE.r.f6;go_wp2_with fail;refine N8 results61 underlying30 rfl G6 JE.r rfl ?_;have b8:=JE.rz;have a0:=G3 WE (w.heap.size+1) (Iz (({h with bs:=h.bs.set k y}:House)).now) (Iz (({h with bs:=h.bs.set k y}:House)).last) (Vz b1 h.sh.tg.length d1) (Vz b2 h.sh.bs.length d2) (Sz g h.bs.length d3) (Vz b4 h.ds.length d4);exact⟨⟨({h with bs:=h.bs.set k y}:House),_,_,_,_,rfl,JE.ts,(JE.z.gr a0 (by omega)).low (by omega)⟩,(JE.rd.row a0 (by omega)).mono (by omega),I3 JE.g a0 (by omega)⟩)
  ·have h0:¬(0:Int)<(h.bs.length:Int):=by omega
   go_upto_region 18 with fail;clear e4 h0 hp;obtain⟨WE,rfl⟩:∃WE,WE=w4:=⟨_,rfl⟩;have JE:=J4.le ht
   (obtain⟨e0,e1,e2,e3,e4,e5⟩:=JE.x.c6;obtain⟨y0,y1,y2,y3,y4,y5⟩:=JE.r.c6;obtain⟨f0,f1,f2,f3,f4,f5⟩:=JE.r.f6;go_wp2_with fail;refine N8 results61 underlying30 rfl G6 JE.r rfl ?_;have b8:=JE.rz;have a0:=G3 WE (w.heap.size+1) (Iz (h).now) (Iz (h).last) (Vz b1 h.sh.tg.length d1) (Vz b2 h.sh.bs.length d2) (Vz b3 h.bs.length d3) (Vz b4 h.ds.length d4);exact⟨⟨h,_,_,_,_,rfl,JE.ts,(JE.z.gr a0 (by omega)).low (by omega)⟩,(JE.rd.row a0 (by omega)).mono (by omega),I3 JE.g a0 (by omega)⟩)
 ·obtain⟨-,-,-,-,e4,-⟩:=J4.cb.c6;obtain⟨-,-,-,-,f4,-⟩:=J4.cb.f6;by_cases hp:0<h.bs.length
  ·obtain⟨ps,hW,hm⟩:=J4.k.x;have h3:ps.length=h.bs.length:=by rw[← hm];simp
   obtain⟨g,cg,ee⟩:=I6 hW.1 (by omega);simp only[Value.slice.injEq] at ee;obtain⟨rfl,-,rfl⟩:=ee;have b9:=hW.1;rw[h3] at b9;have j6:=(BP b9).1;obtain⟨m,j9⟩:∃m:Nat,h.bs.length=m+1:=⟨h.bs.length-1,by omega⟩;clear hW b9;have JE:=J4.cut (m:=m) (by omega) ht;have e9:((h.bs.length:Int)-1)=(m:Int):=by omega
   go_upto_region 18 with fail;generalize w4.setCell ⟨XB,4,none⟩ (Sz g m d3)=WE at *;clear J4 e4 f4 e9
   (obtain⟨e0,e1,e2,e3,e4,e5⟩:=JE.x.c6;obtain⟨y0,y1,y2,y3,y4,y5⟩:=JE.r.c6;obtain⟨f0,f1,f2,f3,f4,f5⟩:=JE.r.f6;go_wp2_with fail;refine N8 results61 underlying30 rfl G6 JE.r rfl ?_;have b8:=JE.rz;have a0:=G3 WE (w.heap.size+1) (Iz (({h with bs:=h.bs.take m}:House)).now) (Iz (({h with bs:=h.bs.take m}:House)).last) (Vz b1 h.sh.tg.length d1) (Vz b2 h.sh.bs.length d2) (Sz g m d3) (Vz b4 h.ds.length d4);exact⟨⟨({h with bs:=h.bs.take m}:House),_,_,_,_,rfl,JE.ts,(JE.z.gr a0 (by omega)).low (by omega)⟩,(JE.rd.row a0 (by omega)).mono (by omega),I3 JE.g a0 (by omega)⟩)
  ·have h0:¬(0:Int)<(h.bs.length:Int):=by omega
   go_upto_region 18 with fail;clear e4 f4 h0 hp;obtain⟨WE,rfl⟩:∃WE,WE=w4:=⟨_,rfl⟩;have JE:=J4.le ht
   (obtain⟨e0,e1,e2,e3,e4,e5⟩:=JE.x.c6;obtain⟨y0,y1,y2,y3,y4,y5⟩:=JE.r.c6;obtain⟨f0,f1,f2,f3,f4,f5⟩:=JE.r.f6;go_wp2_with fail;refine N8 results61 underlying30 rfl G6 JE.r rfl ?_;have b8:=JE.rz;have a0:=G3 WE (w.heap.size+1) (Iz (h).now) (Iz (h).last) (Vz b1 h.sh.tg.length d1) (Vz b2 h.sh.bs.length d2) (Vz b3 h.bs.length d3) (Vz b4 h.ds.length d4);exact⟨⟨h,_,_,_,_,rfl,JE.ts,(JE.z.gr a0 (by omega)).low (by omega)⟩,(JE.rd.row a0 (by omega)).mono (by omega),I3 JE.g a0 (by omega)⟩)
 ·obtain⟨e0,-,-,-,-,e5⟩:=J4.cb.c6;go_upto_region 3 with fail;have JD:=J4.up (A5 _ _).drew;have a5:At w4.drew XB 5 (Vz b4 h.ds.length d4)/\At w4.drew XB 0 (Iz h.now):=⟨e5,e0⟩;refine F5 17 (λw'=>At w' XB 5 (Vz b4 h.ds.length d4)/\At w' XB 0 (Iz h.now)) (by kernel_rfl) ?_;generalize w4.drew=X1 at JD a5 ⊢
  clear J4 e0 e5;refine D6 0 rfl a5 ?_;refine D6 1 rfl a5 ?_;refine D6 2 rfl a5 ?_;refine D6 5 rfl a5 ?_;refine D6 7 rfl a5 ?_;refine D6 9 rfl a5 ?_;refine D6 10 rfl a5 ?_;have b6:Up X1 (X1.alloc (.cells (NM.map Value.string).toArray 9)):=(A5 _ _).alloc (A4 _) _;have J2:=JD.up b6;have h5:=K8 X1 NM 9;have h6:World.cell? (X1.alloc (.cells (NM.map Value.string).toArray 9)) ⟨XB,5,none⟩=some (Vz b4 h.ds.length d4)/\World.cell? (X1.alloc (.cells (NM.map Value.string).toArray 9)) ⟨XB,0,none⟩=some (Iz h.now):=⟨J2.cb.c6.2.2.2.2.2,J2.cb.c6.1⟩;have l1:=JD.xb;refine E7 3 rfl (λK hK=>?_);go_simp;rw[show (X1.alloc (Kz [Ez,Tz ⟨#[113]⟩] 9))=X1.alloc (.cells (NM.map Value.string).toArray 9) from rfl];generalize X1.alloc (.cells (NM.map Value.string).toArray 9)=X2 at *;clear b6 JD a5;refine E6 hK h6 ?_;clear hK K;refine E7 4 rfl (λK hK=>?_);go_simp;go_wp2_with (go_at_call 18;refine (Ar rb len _ v NM 2 _ 0 2 _ rfl J2.rd (by omega) h5 (by omega) (by omega) (by omega)).mono ?_;rintro e w5 ⟨⟨s,hs,rfl⟩,a9,a7⟩)
  have J5:=J2.gr a7 a9;have j7:s.size<=maxLen:=Y6 (ss:=NM) (by decide) s hs;have h7:At w5 XB 5 (Vz b4 h.ds.length d4)/\At w5 XB 0 (Iz h.now):=⟨J5.cb.c6.2.2.2.2.2,J5.cb.c6.1⟩;clear J2 h5 h6 a9 a7 hs;refine E6 hK h7 ?_;clear hK K;refine E7 6 rfl (λK hK=>?_);go_simp;go_wp2_with (go_at_call 20;refine (K2 rb len _ v 5 _ J5.rd (by omega)).mono ?_;rintro e w6 ⟨⟨z1,rfl,-,-⟩,b7,a6⟩)
  have J6:=J5.gr a6 b7;have b0:At w6 XB 5 (Vz b4 h.ds.length d4)/\At w6 XB 0 (Iz h.now):=⟨J6.cb.c6.2.2.2.2.2,J6.cb.c6.1⟩;clear J5 h7 b7 a6;refine E6 hK b0 ?_;clear hK K;refine E7 8 rfl (λK hK=>?_);go_simp;go_wp2_with (go_at_call 20;refine (K2 rb len _ v 3 _ J6.rd (by omega)).mono ?_;rintro e w7 ⟨⟨z2,rfl,-,-⟩,i3,i4⟩)
  have J7:=J6.gr i4 i3;have c8:At w7 XB 5 (Vz b4 h.ds.length d4)/\At w7 XB 0 (Iz h.now):=⟨J7.cb.c6.2.2.2.2.2,J7.cb.c6.1⟩;clear J6 b0 i3 i4;refine E6 hK c8 ?_;clear hK K;refine D6 11 rfl c8 ?_;refine D6 12 rfl c8 ?_;refine D6 13 rfl c8 ?_;refine E7 14 rfl (λK hK=>?_);go_simp;generalize IntKind.i64.wrap (IntKind.i64.wrap (z2+h.now)-1)=z;obtain⟨W8,g4,i8,c5⟩:∃W8,w7.alloc (Kz [Tz s,Iz z1,Iz z] 74)=W8/\Up w7 W8/\∀(j:Nat)(u:Value),(K0.cells ⟨s,z1,z⟩)[j]?=some u->W8.cell? ((⟨w7.heap.size,0,none⟩:Addr).add j)=some u:=⟨_,rfl,(A5 _ _).alloc (A4 _) _,λj u hj=>Gu _ _ _ _ _ hj⟩;rw[g4];have J8:=J7.up i8;have h8:At W8 XB 5 (Vz b4 h.ds.length d4)/\At W8 XB 0 (Iz h.now):=⟨J8.cb.c6.2.2.2.2.2,J8.cb.c6.1⟩;clear J7 c8 g4;refine E6 hK h8 ?_;clear hK K;obtain⟨i9,d8,n0,n1,n2⟩:=info_parts KA;obtain⟨u9,W9,g5,d9,a0,-⟩:=Nn (P:=prog) W8 (w.heap.size+2) 28 28 i9 _ underlying28 d8 n0 n1 n2 rfl _ h.ds ⟨s,z1,z⟩ J8.k.d ⟨w7.heap.size,0,none⟩ 1 c5 (by omega) j7 (by have:=J8.xb;omega);obtain⟨kx,JE⟩:=J8.dn d9 a0 ht
  obtain⟨g9,o9,c9,rfl⟩:∃g9 o9 c9,u9=Sy g9 o9 (h.ds.length+1) c9:=by
   obtain⟨g9,c9,k6,e,-⟩:=d9;exact⟨g9,_,c9,by simpa using e⟩
  have f7:At W9 XB 5 (Vz b4 h.ds.length d4)/\At W9 XB 0 (Iz h.now):=⟨kx.c6.2.2.2.2.2,kx.c6.1⟩;obtain⟨-,-,-,-,-,f5⟩:=kx.f6;refine E7 15 rfl (λK hK=>?_);refine Ly rfl _ _ 28 rfl _ _ rfl rfl (Sy g9 o9 (h.ds.length+1) c9) W9 g5 ?_;clear d9 a0 g5 J8 h8 c5;refine E6 hK f7 ?_;clear hK K;refine D6 16 rfl f7 ?_;refine E7 17 rfl (λK hK=>?_);go_simp;refine Bf hK ?_;clear hK K;refine F0 (by kernel_rfl) ?_ _;clear f7 f5 kx;generalize W9.setCell ⟨XB,5,none⟩ (Sy g9 o9 (h.ds.length+1) c9)=WE at *;go_upto_region 18 with fail
  (obtain⟨e0,e1,e2,e3,e4,e5⟩:=JE.x.c6;obtain⟨y0,y1,y2,y3,y4,y5⟩:=JE.r.c6;obtain⟨f0,f1,f2,f3,f4,f5⟩:=JE.r.f6;go_wp2_with fail;refine N8 results61 underlying30 rfl G6 JE.r rfl ?_;have b8:=JE.rz;have a0:=G3 WE (w.heap.size+1) (Iz (({h with ds:=h.ds++[⟨s,z1,z⟩]}:House)).now) (Iz (({h with ds:=h.ds++[⟨s,z1,z⟩]}:House)).last) (Vz b1 h.sh.tg.length d1) (Vz b2 h.sh.bs.length d2) (Vz b3 h.bs.length d3) (Sy g9 o9 (h.ds.length+1) c9);exact⟨⟨({h with ds:=h.ds++[⟨s,z1,z⟩]}:House),_,_,_,_,rfl,JE.ts,(JE.z.gr a0 (by omega)).low (by omega)⟩,(JE.rd.row a0 (by omega)).mono (by omega),I3 JE.g a0 (by omega)⟩)
theorem VH(rb len N:Nat)(v:Value)(w:World)(hR:Rd w rb v len N)(hN:N<=400000):
  Calls prog 15 #[Pz rb 0] w λe w'=>(∃h' tu bu xu du,e=.returned (.agg #[Iz h'.now,Iz h'.last,tu,bu,xu,du])/\h'.sh.tg.length<=100/\HZ w.heap.size w' h' tu bu xu du)/\Rd w' rb v len (N+9600)/\w.grownBy w' (some rb):=by
 have c8:=hR.lt;obtain⟨W1,b5,kR,b6,b7,e9⟩:∃W1,w.alloc (Kz [Iz 0,Iz 0,Nz,Nz,Nz,Nz] 30)=W1/\CB W1 w.heap.size [Iz 0,Iz 0,Nz,Nz,Nz,Nz]/\Rd W1 rb v len N/\w.grownBy W1 (some rb)/\W1.heap.size=w.heap.size+1:=⟨_,rfl,F3 w _ _,hR.alloc _,F4 (E2 _ _) _,by simp⟩;go_in;go_upto_region 1 with fail;try rw[b5]
 clear b5 hR;go_upto_region 2 with (go_at_call 60;refine (QY rb len _ v _ b6 hN).mono ?_;rintro e w2 ⟨⟨h,tv,bv,xv,dv,rfl,hf,hq,-,-,HB,ht⟩,d6,a7⟩;obtain⟨a1,c1,a2,c2,a3,c3,a4,c4,rfl,rfl,rfl,rfl⟩:=ht.v.shapes)
 have f7:=a7.size
 obtain⟨W3,b8,kX,b9,c0,c5,c7⟩:∃W3,w2.alloc (.cells (Hcz h a1 c1 a2 c2 a3 c3 a4 c4).toArray 30)=W3/\CB W3 w2.heap.size (Hcz h a1 c1 a2 c2 a3 c3 a4 c4)/\CB W3 w.heap.size [Iz 0,Iz 0,Nz,Nz,Nz,Nz]/\Rd W3 rb v len (N+9000)/\w.grownBy W3 (some rb)/\HT W1.heap.size HB W3 h (Vz a1 h.sh.tg.length c1) (Vz a2 h.sh.bs.length c2) (Vz a3 h.bs.length c3) (Vz a4 h.ds.length c4):=by
  have a5:Up w2 (w2.alloc (.cells (Hcz h a1 c1 a2 c2 a3 c3 a4 c4).toArray 30)):=(A5 _ _).alloc (A4 _) _;exact⟨_,rfl,F3 w2 _ _,(kR.kept a7 (by simp;omega)).up a5 (by omega),d6.kept a5,E0 (E0 b7 a7) (L2 a5),ht.step (λk _ h2 _=>a5.block k h2) a5.size⟩
 try rw[b8]
 have Hq:Hid (AV KR h):=hq;have Hf:Hid (Gl h):=hf;have e6:h.sh.tg.length<=100:=by have:=hf.1.1;omega
 clear b8 ht d6 a7 kR b7 b6 hq hf;generalize hXB:w2.heap.size=XB at *;go_wp2_with fail;refine (K2 rb len _ v 20 _ c0 (by omega)).mono ?_;rintro e w4 ⟨⟨y,rfl,-,-⟩,d7,a8⟩;have c9:=kX.kept a8 (by simp;omega);have a6:=b9.kept a8 (by simp;omega);have d0:=E0 c5 a8;have d5:=c7.gr a8 (.inl (by omega));have f8:=a6.2.2;have f9:=c9.2.2;clear kX b9 c0 c5 c7;obtain⟨e0,e1,e2,e3,e4,e5⟩:=c9.c6;by_cases hy:y=0
 ·subst hy;have e7:=Re rb len _ v h _ _ _ _ w4 d7 (by omega) d5.v Hf.out Hq.out;go_wp2_with (go_at_call 61;refine e7.mono ?_;rintro e w5 ⟨⟨h',tu,bu,xu,du,rfl,b0,d8⟩,e8,d9⟩;obtain⟨b1,d1,b2,d2,b3,d3,b4,d4,rfl,rfl,rfl,rfl⟩:=d8.v.shapes;have a9:=a6.kept d9 (by simp;omega);obtain⟨y0,y1,y2,y3,y4,y5⟩:=a9.c6;obtain⟨f0,f1,f2,f3,f4,f5⟩:=a9.f6)
  refine N8 results15 underlying30 rfl G6 a9 rfl ?_;have a0:=G3 w5 w.heap.size (Iz h'.now) (Iz h'.last) (Vz b1 h'.sh.tg.length d1) (Vz b2 h'.sh.bs.length d2) (Vz b3 h'.bs.length d3) (Vz b4 h'.ds.length d4);exact⟨⟨h',_,_,_,_,rfl,b0,(d8.gr a0 (by omega)).low (by omega)⟩,(e8.row a0 c8).mono (by omega),I3 (E0 d0 d9) a0 (A4 _)⟩
 ·have g0:(y==0)=false:=by simpa using hy
  obtain⟨y0,y1,y2,y3,y4,y5⟩:=a6.c6;obtain⟨f0,f1,f2,f3,f4,f5⟩:=a6.f6;go_wp2_with fail;refine N8 results15 underlying30 rfl G6 a6 rfl ?_;have a0:=G3 w4 w.heap.size (Iz h.now) (Iz h.last) (Vz a1 h.sh.tg.length c1) (Vz a2 h.sh.bs.length c2) (Vz a3 h.bs.length c3) (Vz a4 h.ds.length c4);exact⟨⟨h,_,_,_,_,rfl,e6,((d5.gr a0 (.inl (by omega))).hz (by have:=a0.size;omega)).low (by omega)⟩,(d7.row a0 c8).mono (by omega),I3 d0 a0 (A4 _)⟩
theorem Yp{fn:Func}{q q2 q3 q4:Tmp}(h:fn.results=#[.cell q T,.tmp q2,.tmp q3,.tmp q4]){d:TypeDesc}(hu:P.underlying T=some d)(hd:d.isRow=true)(hi:(P.info? T).map (·.size)=some cs.length)
  {v2 v3 v4:Value} (ht:tmps.getD q undef=Pz rk 0) (h2:tmps.getD q2 undef=v2) (h3:tmps.getD q3 undef=v3) (h4:tmps.getD q4 undef=v4) (hZ:CB Z rk cs):(results fn tmps).run P Z=.ok (.tuple #[.agg cs.toArray,v2,v3,v4]) Z:=by
 have hl:=run_loadVar_mid (P:=P) Z rk 0 T cs d hZ.1 hu hd hi;have ha:(asAddr (Pz rk 0)).run P Z=.ok ⟨rk,0,none⟩ Z:=by simp[go_sem]
 have a0:tmps[q]?.getD undef=Pz rk 0:=by simpa using ht
 have a1:tmps[q2]?.getD undef=v2:=by simpa using h2
 have a2:tmps[q3]?.getD undef=v3:=by simpa using h3
 have a3:tmps[q4]?.getD undef=v4:=by simpa using h4
 simp only[results,h];simp[Sem.run_bind,Result.andThen,a0,a1,a2,a3,ha,hl]
theorem EQ{fn:Func}{q q2 q3 q4:Tmp}(h:fn.results=#[.cell q T,.tmp q2,.tmp q3,.tmp q4]){d:TypeDesc}(hu:P.underlying T=some d)(hd:d.isRow=true)(hi:(P.info? T).map (·.size)=some 6){R:Ending->World->Prop}{y0 y1 y2 y3 y4 y5 x0 x1 x2 x3 x4 x5 v2 v3 v4:Value}
  (k:CB w rk [y0,y1,y2,y3,y4,y5]) (ht:tmps.getD q undef=Pz rk 0) (h2:tmps.getD q2 undef=v2) (h3:tmps.getD q3 undef=v3) (h4:tmps.getD q4 undef=v4) (hR:R (.returned (.tuple #[.agg #[x0,x1,x2,x3,x4,x5],v2,v3,v4])) ((((((w.setCell ⟨rk,0,none⟩ x0).setCell ⟨rk,1,none⟩ x1).setCell ⟨rk,2,none⟩ x2).setCell ⟨rk,3,none⟩ x3).setCell ⟨rk,4,none⟩ x4).setCell ⟨rk,5,none⟩ x5)) :
  bodyPost P fn R .ret {tmps:=tmps,defers:=[]} ((((((w.setCell ⟨rk,0,none⟩ x0).setCell ⟨rk,1,none⟩ x1).setCell ⟨rk,2,none⟩ x2).setCell ⟨rk,3,none⟩ x3).setCell ⟨rk,4,none⟩ x4).setCell ⟨rk,5,none⟩ x5) :=
 bodyPost_ret (Yp (cs:=[x0,x1,x2,x3,x4,x5]) h hu hd hi ht h2 h3 h4 (k.copy6 x0 x1 x2 x3 x4 x5)) rfl hR
def Im(B E:Nat)(w:World)(h:House)(tv bv xv dv:Value):Prop:=E<=w.heap.size/\∀w',(∀k,B<=k->k<E->w'.heap[k]?=w.heap[k]?)->E<=w'.heap.size->HV w' h tv bv xv dv
theorem HZ.r(H:HZ B w h tv bv xv dv):Im B w.heap.size w h tv bv xv dv:=⟨A4 _,H.2⟩
theorem Im.step(H:Im B E w h tv bv xv dv)(hk:∀k,B<=k->k<E->w'.heap[k]?=w.heap[k]?)(hz:w.heap.size<=w'.heap.size):Im B E w' h tv bv xv dv :=
 ⟨B3 H.1 hz,λw2 k2 z2=>H.2 w2 (λk h1 h2=>(k2 k h1 h2).trans (hk k h1 h2)) z2⟩
theorem Im.gr{r:Nat}(H:Im B E w h tv bv xv dv)(hg:w.grownBy w' (some r))(hr:r<B∨E<=r):Im B E w' h tv bv xv dv:=H.step (λk h1 h2=>hg.block k (A2 h2 H.1) (by simp;omega)) hg.size
theorem Im.up(H:Im B E w h tv bv xv dv)(hb:Up w w'):Im B E w' h tv bv xv dv:=H.step (λk _ h2=>hb.block k (A2 h2 H.1)) hb.size
theorem Im.v(H:Im B E w h tv bv xv dv):HV w h tv bv xv dv:=H.2 w (λ_ _ _=>rfl) H.1
structure ZJ (w w':World) (rb len N B HB:Nat) (v:Value) (h:House) (tv bv xv dv:Value):Prop where
 r:CB w' w.heap.size [.int .i64 0,.int .i64 0,.slice none 0 0,.slice none 0 0,.slice none 0 0,.slice none 0 0]
 x:CB w' HB [.int .i64 h.now,.int .i64 h.last,tv,bv,xv,dv]
 rd:Rd w' rb v len N
 b:Up w w'
 z:Im B HB w' h tv bv xv dv
 rz:w.heap.size<rb
 bz:rb<B
 hz:B<=HB
theorem ZJ.gr{M:Nat}{v:Value}(J:ZJ w w1 rb len N B HB v h tv bv xv dv)(hg:w1.grownBy w2 (some rb))(hR:Rd w2 rb v len M):ZJ w w2 rb len M B HB v h tv bv xv dv:=by
 have h1:=J.rz;have h2:=J.bz;have h3:=J.hz;exact⟨J.r.kept hg (by simp;omega),J.x.kept hg (by simp;omega),hR,Ea (I3 (L2 J.b) hg (by omega)) (Nat.le_of_lt h1),J.z.gr hg (.inl h2),h1,h2,h3⟩
theorem ZJ.up{v:Value}(J:ZJ w w1 rb len N B HB v h tv bv xv dv)(hb:Up w1 w2):ZJ w w2 rb len N B HB v h tv bv xv dv :=
 ⟨J.r.up hb J.r.2.2,J.x.up hb J.x.2.2,J.rd.kept hb,D5 J.b hb,J.z.up hb,J.rz,J.bz,J.hz⟩
theorem ZJ.row{v:Value}(J:ZJ w w1 rb len N B HB v h tv bv xv dv)(hg:w1.grownBy w2 (some g))(hh:HB<g):ZJ w w2 rb len N B HB v h tv bv xv dv:=by
 have h1:=J.rz;have h2:=J.bz;have h3:=J.hz;exact⟨J.r.kept hg (by simp;omega),J.x.kept hg (by simp;omega),J.rd.row hg (by omega),Ea (rb:=g) (I3 (L2 J.b) hg (by omega)) (by omega),J.z.gr hg (.inr (by omega)),h1,h2,h3⟩
structure PS (w:World) (base:Nat) (pv sv:Value) (ps:List Ph) (sl:List Sl):Prop where
 p:w.ownsRow base 43 8 pv ps.length (R0 ps)
 p1:1<=ps.length
 p2:ps.length<=13
 pz:∀p∈ps,p.sz
 s:w.ownsRow base 58 2 sv sl.length (F8 Sl.cells sl)
 sn:NN sv
 s1:sl.length<=25
 sz:∀y∈sl,y.s.size<=maxLen/\y.t.size<=maxLen
theorem PS.gr{r:Nat}(H:PS w base pv sv ps sl)(hg:w.grownBy w' (some r))(hr:r<base):PS w' base pv sv ps sl:=⟨F2 H.p hg hr,H.p1,H.p2,H.pz,F2 H.s hg hr,H.sn,H.s1,H.sz⟩
theorem PS.up(H:PS w base pv sv ps sl)(hb:Up w w'):PS w' base pv sv ps sl:=⟨E4 H.p hb,H.p1,H.p2,H.pz,E4 H.s hb,H.sn,H.s1,H.sz⟩
theorem PS.v(H:PS w base pv sv ps sl)(h:House)(hn:nm.size<=maxLen):T1 w (L3 h nm ps sl) pv sv :=
 (NH (x:=L3 h nm ps sl) H.p H.p1 H.p2 H.pz H.s H.sn (by have:=H.s1;omega) H.sz hn rfl rfl).v
theorem PS.thing{n c:Nat}(H:PS w base pv (Sz g n c) ps sl)(hk:0<sl.length)(s:BA)(hs:s.size<=maxLen):PS (w.setCell ⟨g,1,none⟩ (Tz s)) base pv (Sz g n c) ps (sl.set 0 ⟨(sl[0]).s,s⟩)/\base<=g/\w.grownBy (w.setCell ⟨g,1,none⟩ (Tz s)) (some g):=by
 have hS:=H.s;obtain⟨_,_,e⟩:=I7 hS;simp only[Value.slice.injEq] at e;obtain⟨-,rfl,-⟩:=e;have a0:w.grownBy (w.setCell ⟨g,1,none⟩ (Tz s)) (some g):=E1 (E2 _ _) _;have a1:=(B4 hS (0*2+1) (Tz s)).1;rw[Bl Z3 sl 0 sl[0] ⟨(sl[0]).s,s⟩ 1 (Tz s) (A0 hk) (by omega) rfl] at a1;refine⟨⟨E5 H.p a0 (E9 H.p hS (by decide)),H.p1,H.p2,H.pz,by rw[List.length_set];exact a1,H.sn,by rw[List.length_set];exact H.s1,λy hy=>?_⟩,(hS.lt g rfl).1,a0⟩;rcases List.mem_or_eq_of_mem_set hy with h3|rfl
 ·exact H.sz y h3
 ·exact⟨(H.sz _ (List.getElem_mem hk)).1,hs⟩
def Xu:List BA:=[⟨#[]⟩,⟨#[65]⟩]
theorem Oe(a:Option Addr)(n cap:Nat)(w:World)(hA:Av w w.heap.size (Vz a n cap) n)(hcap:n<=cap)(hbig:cap<=maxLen):
  Calls prog 4 #[Vz a n cap] w λe w'=>(∃h tv bv xv dv nm ps sl pv sv,e=.returned (.tuple #[.agg #[Iz h.now,Iz h.last,tv,bv,xv,dv],Tz nm,pv,sv])/\HV w' h tv bv xv dv/\T1 w' (L3 h nm ps sl) pv sv)/\Up w w':=by
 obtain⟨W1,d2,kR,b5,i0⟩:∃W1,w.alloc (Kz [Iz 0,Iz 0,Nz,Nz,Nz,Nz] 30)=W1/\CB W1 w.heap.size [Iz 0,Iz 0,Nz,Nz,Nz,Nz]/\Up w W1/\W1.heap.size=w.heap.size+1:=⟨_,rfl,F3 w _ _,(A5 _ _).alloc (A4 _) _,by simp⟩;have h1:Av W1 W1.heap.size (Vz a n cap) n:=hA.up b5 b5.size;go_in;go_upto_region 1 with fail;try rw[d2]
 clear d2 hA
 go_upto_region 3 with (first
  | (go_at_call 14;refine (Wy a n cap _ h1 hcap hbig).mono ?_;rintro e w2 ⟨⟨rb,a7,v,rfl,c8,i9⟩,b8⟩;have i1:=b8.size;have g9:=c8.lt)
  | (go_at_call 15;refine (VH rb a7 0 v _ c8 (by omega)).mono ?_;rintro e w3 ⟨⟨h,tv,bv,xv,dv,rfl,h9,b7⟩,e7,b9⟩;obtain⟨a1,c1,a2,c2,a3,c3,a4,c4,rfl,rfl,rfl,rfl⟩:=b7.v.shapes))
 have h2:=b9.size
 obtain⟨W4,d3,J4⟩:∃W4,w3.alloc (.cells (Hcz h a1 c1 a2 c2 a3 c3 a4 c4).toArray 30)=W4/\ZJ w W4 rb a7 (0+9600) w2.heap.size w3.heap.size v h (Vz a1 h.sh.tg.length c1) (Vz a2 h.sh.bs.length c2) (Vz a3 h.bs.length c3) (Vz a4 h.ds.length c4):=by
  have b6:Up w3 (w3.alloc (.cells (Hcz h a1 c1 a2 c2 a3 c3 a4 c4).toArray 30)):=(A5 _ _).alloc (A4 _) _;have h3:Up w w3:=Ea (rb:=rb) (E0 (L2 (D5 b5 b8)) b9) (by omega);exact⟨_,rfl,(((kR.up b8 (by omega)).kept b9 (by simp;omega)).up b6 (by omega)),F3 w3 _ _,e7.kept b6,D5 h3 b6,b7.r.up b6,by omega,g9,h2⟩
 try rw[d3]
 clear d3 b7 e7 b9 kR b5 b8 c8 h1;generalize hHB:w3.heap.size=HB at *;generalize hBB:w2.heap.size=B at *;clear hHB hBB;have i2:=J4.rz;have i3:=J4.bz;have i4:=J4.hz;go_upto_region 4 with (go_at_call 16;refine (Kk rb a7 _ v _ J4.rd (by omega)).mono ?_;rintro e w5 ⟨⟨u,ps,rfl,p1,p2,pz,hp⟩,f7,f8⟩;obtain⟨pb,pc,rfl⟩:=I6 hp (by omega))
 have J5:=J4.gr f8 f7;have i5:=J4.x.2.2;clear J4 f7 f8;obtain⟨-,-,e2,-,-,-⟩:=J5.x.c6;have h4:=hp.lt pb rfl;have d5:=KP rb a7 _ v ps pb 0 pc h.sh.tg (Vz a1 h.sh.tg.length c1) w5 J5.rd (by omega) (DZ hp) h4.2 (λp hp=>by have:=pz p hp;exact⟨this.1,this.2.1,this.2.2.1,this.2.2.2.1,this.2.2.2.2.1⟩) (by omega) J5.z.v.t h9;go_upto_region 5 with (go_at_call 17;refine d5.mono ?_;rintro e w6 ⟨⟨u,sl,rfl,sn,hs,s1,sz⟩,f9,c9⟩;obtain⟨sb,n6,sc,ee⟩:NN u:=sn;subst ee;obtain⟨_,_,ee⟩:=I7 hs;simp only[Value.slice.injEq] at ee;obtain⟨-,rfl,-⟩:=ee)
 have J6:=J5.gr c9 f9;have P6:PS w6 (HB+1) (Sz pb ps.length pc) (Sz sb sl.length sc) ps sl:=⟨I8 (F2 hp c9 (by omega)) (by omega),p1,by omega,pz,I8 hs (by omega),⟨_,_,_,rfl⟩,by omega,sz⟩;clear J5 f9 c9 e2 d5 hp hs p1 pz sz;have h5:w6.alloc (.cells (Aw.map Value.string).toArray 9)=w6.alloc (.cells (Aw.map Value.string).toArray 9):=rfl;have c0:Up w6 (w6.alloc (.cells (Aw.map Value.string).toArray 9)):=(A5 _ _).alloc (A4 _) _;have J7:=J6.up c0;have P7:=P6.up c0;have d6:=K8 w6 Aw 9;have i6:=J6.x.2.2
 go_upto_region 6 with (first
  | (go_at_call 19;refine (Fd _).mono ?_;rintro e w7 ⟨rfl,rfl⟩)
  | (go_at_call 18;refine (Ar rb a7 _ v Aw 6 _ 0 6 _ rfl J7.rd (by omega) d6 (by omega) (by omega) (by omega)).mono ?_;rintro e w8 ⟨⟨nm,b0,rfl⟩,g4,d0⟩))
 have b0:nm.size<=maxLen:=Y6 (ss:=Aw) (by decide) nm b0;have J8:=J7.gr d0 g4;have P8:=P7.gr d0 (by omega);clear J6 P6 J7 P7 d6 c0 h5 g4 d0;go_wp2_with fail;refine (K2 rb a7 _ v 16 _ J8.rd (by omega)).mono ?_;rintro e w9 ⟨⟨y,rfl,-,-⟩,g5,a0⟩;have J9:=J8.gr a0 g5;have P9:=P8.gr a0 (by omega);clear J8 P8 g5 a0;have i7:=J9.x.2.2;by_cases hy0:y=0
 ·subst hy0;have d7:=Ml rb a7 _ v ps pb pc w9 J9.rd (by omega) (DZ P9.p) P9.p1 p2 P9.pz (P9.p.lt pb rfl).2;go_upto_region 16 with (go_at_call 21;refine d7.mono ?_;rintro e wa ⟨⟨u,qs,rfl,q1,q2,qz,hq⟩,a9,a6⟩)
  have JE:=J9.gr a6 a9;have PE:PS wa (HB+1) u (Sz sb sl.length sc) qs sl:=⟨I8 hq (by omega),q1,q2,qz,F2 P9.s a6 (by omega),P9.sn,P9.s1,P9.sz⟩;obtain⟨WE,rfl⟩:∃WE,WE=wa:=⟨_,rfl⟩;clear J9 P9 d7 a9 a6 hq
  (obtain⟨e0,e1,e2,e3,e4,e5⟩:=JE.x.c6;obtain⟨y0,y1,y2,y3,y4,y5⟩:=JE.r.c6;obtain⟨f0,f1,f2,f3,f4,f5⟩:=JE.r.f6;go_wp2_with fail;refine EQ results4 underlying30 rfl G6 JE.r rfl rfl rfl rfl ?_;have b1:=JE.rz;have b2:=JE.bz;have a0:=G3 WE w.heap.size (Iz h.now) (Iz h.last) (Vz a1 h.sh.tg.length c1) (Vz a2 h.sh.bs.length c2) (Vz a3 h.bs.length c3) (Vz a4 h.ds.length c4);exact⟨⟨h,_,_,_,_,_,_,_,_,_,rfl,(JE.z.gr a0 (.inl (by omega))).v,(PE.gr a0 (by omega)).v h b0⟩,I9 JE.b (A4 _) _ _ _ _ _ _⟩)
 by_cases hy1:y=1
 ·subst hy1;have h6:((1:Int)==0)=false:=by decide
  obtain⟨is,g8,j0,j1,j2⟩:=info_parts Ii;have a5:Up w9 (w9.alloc (Kz [Tz ⟨#[122,122]⟩,Tz ⟨#[119]⟩] 58)):=(A5 _ _).alloc (A4 _) _;have JA:=J9.up a5;have PA:=P9.up a5;have d8:∀(i:Nat)(u:Value),[Tz ⟨#[122,122]⟩,Tz ⟨#[119]⟩][i]?=some u->(w9.alloc (Kz [Tz ⟨#[122,122]⟩,Tz ⟨#[119]⟩] 58)).cell? ((⟨w9.heap.size,0,none⟩:Addr).add i)=some u:=λi u hu=>FO _ _ _ _ hu;have b7:=a5.size;have d9:=P9.s1;go_upto_region 10 with fail;go_wp2_with (at_builtin;refine DI _ rfl _ _ 32 rfl (HB+1) 58 is _ 2 32 underlying32 g8 j0 j1 j2 rfl (by decide) _ _ _ rfl PA.s ⟨w9.heap.size,0,none⟩ 1 1 [Tz ⟨#[122,122]⟩,Tz ⟨#[119]⟩] rfl rfl d8 (by intro u hu;simp only[List.mem_cons,List.not_mem_nil,or_false] at hu;rcases hu with rfl|rfl<;>rfl) (by omega) (by unfold maxLen;omega) (by omega) (by omega) ?_)
  intro v7 wa hown hgr _
  have a8:wa.ownsRow (HB+1) 58 2 v7 (sl++[(⟨⟨#[122,122]⟩,⟨#[119]⟩⟩:Sl)]).length (F8 Sl.cells (sl++[⟨⟨#[122,122]⟩,⟨#[119]⟩⟩])):=by
   rw[AU,B0];simpa [F8,Sl.cells] using hown
  obtain⟨g7,c7,rfl⟩:=I6 hown (by omega);have h7:=PA.s.lt sb rfl;have b3:(w9.alloc (Kz [Tz ⟨#[122,122]⟩,Tz ⟨#[119]⟩] 58)).grownBy wa (some sb):=hgr;have JE:ZJ w wa rb a7 _ B HB v h (Vz a1 h.sh.tg.length c1) (Vz a2 h.sh.bs.length c2) (Vz a3 h.bs.length c3) (Vz a4 h.ds.length c4):=JA.row b3 (by omega)
  have PE:PS wa (HB+1) (Sz pb ps.length pc) (Sz g7 (sl.length+1) c7) ps (sl++[⟨⟨#[122,122]⟩,⟨#[119]⟩⟩]):=⟨E5 PA.p hgr (E9 PA.p PA.s (by decide)),PA.p1,PA.p2,PA.pz,a8,⟨_,_,_,rfl⟩,by rw[B0];simp;omega,λz hz=>by
   rcases D0.1 hz with h1|h1
   ·exact PA.sz z h1
   ·obtain rfl:=D1.1 h1;exact⟨by decide,by decide⟩⟩
  clear J9 P9 JA PA a5 d8 hown a8 hgr b3 h6;obtain⟨WE,rfl⟩:∃WE,WE=wa:=⟨_,rfl⟩;go_upto_region 16 with fail
  (obtain⟨e0,e1,e2,e3,e4,e5⟩:=JE.x.c6;obtain⟨y0,y1,y2,y3,y4,y5⟩:=JE.r.c6;obtain⟨f0,f1,f2,f3,f4,f5⟩:=JE.r.f6;go_wp2_with fail;refine EQ results4 underlying30 rfl G6 JE.r rfl rfl rfl rfl ?_;have b1:=JE.rz;have b2:=JE.bz;have a0:=G3 WE w.heap.size (Iz h.now) (Iz h.last) (Vz a1 h.sh.tg.length c1) (Vz a2 h.sh.bs.length c2) (Vz a3 h.bs.length c3) (Vz a4 h.ds.length c4);exact⟨⟨h,_,_,_,_,_,_,_,_,_,rfl,(JE.z.gr a0 (.inl (by omega))).v,(PE.gr a0 (by omega)).v h b0⟩,I9 JE.b (A4 _) _ _ _ _ _ _⟩)
 by_cases hy2:y=2
 ·subst hy2;have a5:Up w9 (w9.alloc (.cells (Xu.map Value.string).toArray 9)):=(A5 _ _).alloc (A4 _) _;have JA:=J9.up a5;have PA:=P9.up a5;have b4:=K8 w9 Xu 9;go_upto_region 12 with fail;go_upto_region 16 with (go_at_call 18;refine (Ar rb a7 _ v Xu 2 _ 0 2 _ rfl JA.rd (by omega) b4 (by omega) (by omega) (by omega)).mono ?_;rintro e wa ⟨⟨g6,d1,rfl⟩,a9,a6⟩)
  have c5:g6.size<=maxLen:=Y6 (ss:=Xu) (by decide) g6 d1;have JE:=JA.gr a6 a9;have PE:=PA.gr a6 (by omega);obtain⟨WE,rfl⟩:∃WE,WE=wa:=⟨_,rfl⟩;clear J9 P9 JA PA b4 a5 a9 a6
  (obtain⟨e0,e1,e2,e3,e4,e5⟩:=JE.x.c6;obtain⟨y0,y1,y2,y3,y4,y5⟩:=JE.r.c6;obtain⟨f0,f1,f2,f3,f4,f5⟩:=JE.r.f6;go_wp2_with fail;refine EQ results4 underlying30 rfl G6 JE.r rfl rfl rfl rfl ?_;have b1:=JE.rz;have b2:=JE.bz;have a0:=G3 WE w.heap.size (Iz h.now) (Iz h.last) (Vz a1 h.sh.tg.length c1) (Vz a2 h.sh.bs.length c2) (Vz a3 h.bs.length c3) (Vz a4 h.ds.length c4);exact⟨⟨h,_,_,_,_,_,_,_,_,_,rfl,(JE.z.gr a0 (.inl (by omega))).v,(PE.gr a0 (by omega)).v h c5⟩,I9 JE.b (A4 _) _ _ _ _ _ _⟩)
 by_cases hy3:y=3
 ·subst hy3;by_cases hp:0<sl.length
  ·obtain⟨m,hm⟩:∃m:Nat,sl.length=m+1:=⟨sl.length-1,by omega⟩;have e6:m<sl.length:=by omega
   have e9:(sl.length:Int)-1=(m:Int):=by omega
   have e8:(m:Int)<(sl.length:Int):=by omega
   clear hm;have i8:=P9.s1;have ql:At w9 sb (m*2+1) (Tz (sl[m]).t):=V2 Z3 P9.s (A0 e6) 1 _ rfl;have Ht0:Hid ((sl[m]).t.size<=maxLen):=(P9.sz _ (List.getElem_mem e6)).2;generalize (sl[m]).t=t0 at *;have a5:Up w9 (w9.alloc (.cells ([(⟨#[]⟩:BA),⟨#[122,122]⟩,t0].map Value.string).toArray 9)):=(A5 _ _).alloc (A4 _) _;have JA:=J9.up a5;have PA:=P9.up a5;have b4:=K8 w9 [(⟨#[]⟩:BA),⟨#[122,122]⟩,t0] 9;have h7:=P9.s.lt sb rfl;go_upto_region 15 with fail;go_upto_region 16 with (go_at_call 18;refine (Ar rb a7 _ v [(⟨#[]⟩:BA),⟨#[122,122]⟩,t0] 3 _ 0 3 _ rfl JA.rd (by omega) b4 (by omega) (by omega) (by omega)).mono ?_;rintro e wa ⟨⟨s,hs,rfl⟩,a9,a6⟩;have PB:=PA.gr a6 (by omega);have qk:At wa sb 1 (Tz (sl[0]).t):=V2 Z3 PB.s (A0 hp) 1 _ rfl;have fk:wa.frozen? ⟨sb,1,none⟩=false:=PB.s.frozenAt 1)
   have h8:s.size<=maxLen:=by
    simp only[List.mem_cons,List.not_mem_nil,or_false] at hs;rcases hs with rfl|rfl|rfl
    ·decide
    ·decide
    ·exact Ht0.out
   obtain⟨PE,-,d4⟩:=PB.thing hp s h8;have JE:=(JA.gr a6 a9).row d4 (by omega);generalize wa.setCell ⟨sb,1,none⟩ (Tz s)=WE at *;clear J9 P9 JA PA PB b4 a5 a9 a6 qk fk ql d4
   (obtain⟨e0,e1,e2,e3,e4,e5⟩:=JE.x.c6;obtain⟨y0,y1,y2,y3,y4,y5⟩:=JE.r.c6;obtain⟨f0,f1,f2,f3,f4,f5⟩:=JE.r.f6;go_wp2_with fail;refine EQ results4 underlying30 rfl G6 JE.r rfl rfl rfl rfl ?_;have b1:=JE.rz;have b2:=JE.bz;have a0:=G3 WE w.heap.size (Iz h.now) (Iz h.last) (Vz a1 h.sh.tg.length c1) (Vz a2 h.sh.bs.length c2) (Vz a3 h.bs.length c3) (Vz a4 h.ds.length c4);exact⟨⟨h,_,_,_,_,_,_,_,_,_,rfl,(JE.z.gr a0 (.inl (by omega))).v,(PE.gr a0 (by omega)).v h b0⟩,I9 JE.b (A4 _) _ _ _ _ _ _⟩)
  ·have h0:¬(0:Int)<(sl.length:Int):=by omega
   go_upto_region 16 with fail;clear h0;obtain⟨WE,rfl⟩:∃WE,WE=w9:=⟨_,rfl⟩;have JE:=J9;have PE:=P9;clear J9 P9
   (obtain⟨e0,e1,e2,e3,e4,e5⟩:=JE.x.c6;obtain⟨y0,y1,y2,y3,y4,y5⟩:=JE.r.c6;obtain⟨f0,f1,f2,f3,f4,f5⟩:=JE.r.f6;go_wp2_with fail;refine EQ results4 underlying30 rfl G6 JE.r rfl rfl rfl rfl ?_;have b1:=JE.rz;have b2:=JE.bz;have a0:=G3 WE w.heap.size (Iz h.now) (Iz h.last) (Vz a1 h.sh.tg.length c1) (Vz a2 h.sh.bs.length c2) (Vz a3 h.bs.length c3) (Vz a4 h.ds.length c4);exact⟨⟨h,_,_,_,_,_,_,_,_,_,rfl,(JE.z.gr a0 (.inl (by omega))).v,(PE.gr a0 (by omega)).v h b0⟩,I9 JE.b (A4 _) _ _ _ _ _ _⟩)
 ·have g0:(y==0)=false:=by simpa using hy0
  have g1:(y==1)=false:=by simpa using hy1
  have g2:(y==2)=false:=by simpa using hy2
  have g3:(y==3)=false:=by simpa using hy3
  go_upto_region 16 with fail;obtain⟨WE,rfl⟩:∃WE,WE=w9:=⟨_,rfl⟩;have JE:=J9;have PE:=P9;clear J9 P9
  (obtain⟨e0,e1,e2,e3,e4,e5⟩:=JE.x.c6;obtain⟨y0,y1,y2,y3,y4,y5⟩:=JE.r.c6;obtain⟨f0,f1,f2,f3,f4,f5⟩:=JE.r.f6;go_wp2_with fail;refine EQ results4 underlying30 rfl G6 JE.r rfl rfl rfl rfl ?_;have b1:=JE.rz;have b2:=JE.bz;have a0:=G3 WE w.heap.size (Iz h.now) (Iz h.last) (Vz a1 h.sh.tg.length c1) (Vz a2 h.sh.bs.length c2) (Vz a3 h.bs.length c3) (Vz a4 h.ds.length c4);exact⟨⟨h,_,_,_,_,_,_,_,_,_,rfl,(JE.z.gr a0 (.inl (by omega))).v,(PE.gr a0 (by omega)).v h b0⟩,I9 JE.b (A4 _) _ _ _ _ _ _⟩)
end Go.Proofs.YtmonodehegcfhaaGreatDoor
