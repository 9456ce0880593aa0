/- The law of promise 18: its walk. -/
import Derived.Test.YtmonodehegcfhaaGreatDoorJ49
import Derived.Test.YtmonodehegcfhaaGreatDoorJ37
import Derived.Test.YtmonodehegcfhaaGreatDoorJ47
import Derived.Test.YtmonodehegcfhaaGreatDoorQs
import Derived.Test.YtmonodehegcfhaaGreatDoorXr
namespace Go.Proofs.YtmonodehegcfhaaGreatDoor
open Go.Proofs.Tryz
open Go.RowKit
variable{nm:BA}{h x:House}{ps:List Ph}{sl:List Sl}{W W':World}
theorem Xl(h:House):-1000000<=Do h/\Do h<=1000000:=by
 unfold Do;split
 ·rename_i hk;have hk:=K5.1 hk;have h1:=Qh hk.each h.bs.length;rw[List.take_length] at h1;have h2:=hk.tiny.2.1;omega
 ·omega
structure RJ (W:World) (b3 b7:Nat) (h x:House) (tv bv xv dv tu bu xu du:Value) (nm:BA) (ps:List Ph) (sl:List Sl) (pv sv:Value):Prop where
 k3:CB W b3 [.int .i64 h.now,.int .i64 h.last,tv,bv,xv,dv]
 k7:CB W b7 [.int .i64 x.now,.int .i64 x.last,tu,bu,xu,du]
 H:HV W h tv bv xv dv
 X:HV W x tu bu xu du
 R:T1 W (L3 h nm ps sl) pv sv
 E:P2 W
theorem RJ.up{b3 b7:Nat}{tv bv xv dv tu bu xu du:Value}{pv sv:Value}(J:RJ W b3 b7 h x tv bv xv dv tu bu xu du nm ps sl pv sv)(hb:Up W W'):RJ W' b3 b7 h x tv bv xv dv tu bu xu du nm ps sl pv sv :=
 ⟨J.k3.up hb J.k3.2.2,J.k7.up hb J.k7.2.2,J.H.up hb,J.X.up hb,J.R.up hb,J.E.up hb⟩
set_option maxRecDepth 20000 in
set_option maxHeartbeats 16000000 in
theorem Mu(a:Option Addr)(n cap:Nat)(w:World)(hE:P2 w)(hT:BD w)(hA:Av w w.heap.size (Vz a n cap) n)(hcap:n<=cap)(hbig:cap<=maxLen):
  Calls prog 3 #[Vz a n cap] w λe' w'=>e'=.returned (.bool true)/\Up w w':=by
 by_cases hn:1048576<n
 ·go_in;go_wp2_with fail;go_ret;exact⟨rfl,A5 _ _⟩
 go_in;go_upto_region 4 with (go_at_call 4;refine (Oe a n cap _ hA hcap hbig).mono ?_;rintro e w2 ⟨⟨h,tv,bv,xv,dv,nm,ps,sl,pv,sv,rfl,H2,R2⟩,j6⟩;obtain⟨a1,c1,a2,c2,a3,c3,a4,c4,rfl,rfl,rfl,rfl⟩:=H2.shapes;obtain⟨rb,ro,rc,f6,-⟩:=id R2.r;obtain⟨sb,so,sc,f7,-⟩:=id R2.s;have f6:pv=(Sy rb ro ps.length rc):=f6;have f7:sv=(Sy sb so sl.length sc):=f7;subst f6 f7)
 obtain⟨W3,g9,kA,d8⟩:∃W3,w2.alloc (.cells (Hcz h a1 c1 a2 c2 a3 c3 a4 c4).toArray 30)=W3/\CB W3 w2.heap.size (Hcz h a1 c1 a2 c2 a3 c3 a4 c4)/\Up w2 W3:=⟨_,rfl,F3 w2 _ _,(A5 _ _).alloc (A4 _) _⟩;try rw[g9]
 have e6:=D5 j6 d8;have H3:=H2.up d8;have R3:=R2.up d8;clear g9 d8 H2 R2 j6 hA;generalize w2.heap.size=b3 at *;obtain⟨e0,e1,e2,e3,e4,e5⟩:=kA.c6;have i7:=Tw h _ _ _ _ nm ps sl _ _ _ (hE.up e6) (hT.up e6) H3 R3;go_upto_region 5 with (go_at_call 5;refine i7.mono ?_;rintro e w4 ⟨⟨y,tu,bu,xu,du,cd,rfl,hP,g7⟩,j7⟩;obtain⟨i1,j1,i2,j2,i3,j3,i4,j4,rfl,rfl,rfl,rfl⟩:=g7.v.shapes)
 clear e0 e1 e2 e3 e4 e5 i7;obtain⟨W5,h0,kB,f8⟩:∃W5,w4.alloc (.cells (Hcz y i1 j1 i2 j2 i3 j3 i4 j4).toArray 30)=W5/\CB W5 w4.heap.size (Hcz y i1 j1 i2 j2 i3 j3 i4 j4)/\Up w4 W5:=⟨_,rfl,F3 w4 _ _,(A5 _ _).alloc (A4 _) _⟩;try rw[h0]
 have a9:=D5 j7 f8;have i8:=D5 e6 a9;have e7:=kA.up a9 kA.2.2;have H5:=H3.up a9;have R5:=R3.up a9;have X5:=g7.v.up f8;clear h0 f8 a9 H3 R3 kA g7 e6;generalize w4.heap.size=b7 at *;obtain⟨e0,e1,e2,e3,e4,e5⟩:=e7.c6;have i9:=Mg h _ _ _ _ nm ps sl _ _ _ H5 R5;go_upto_region 6 with (go_at_call 6;refine i9.mono ?_;rintro e w6 ⟨⟨x,tS,bS,xS,dS,cS,rfl,hS,-,g8⟩,j8⟩;obtain⟨k1,l1,k2,l2,k3,l3,k4,l4,rfl,rfl,rfl,rfl⟩:=g8.v.shapes)
 clear e0 e1 e2 e3 e4 e5 i9;obtain⟨ec,eh⟩:=Vw hS hP;subst ec eh;have HI:Hid (AX h nm ps sl cS x):=hS;clear hS hP;obtain⟨W7,h1,kC,f9⟩:∃W7,w6.alloc (.cells (Hcz x k1 l1 k2 l2 k3 l3 k4 l4).toArray 30)=W7/\CB W7 w6.heap.size (Hcz x k1 l1 k2 l2 k3 l3 k4 l4)/\Up w6 W7:=⟨_,rfl,F3 w6 _ _,(A5 _ _).alloc (A4 _) _⟩;try rw[h1]
 have a6:=D5 j8 f9;have g4:=D5 i8 a6;have J7:RJ W7 b3 b7 h x (Vz a1 h.sh.tg.length c1) (Vz a2 h.sh.bs.length c2) (Vz a3 h.bs.length c3) (Vz a4 h.ds.length c4) (Vz i1 x.sh.tg.length j1) (Vz i2 x.sh.bs.length j2) (Vz i3 x.bs.length j3) (Vz i4 x.ds.length j4) nm ps sl (Sy rb ro ps.length rc) (Sy sb so sl.length sc):=⟨e7.up a6 e7.2.2,kB.up a6 kB.2.2,H5.up a6,X5.up a6,R5.up a6,hE.up g4⟩;have Y7:=g8.v.up f9;clear h1 f9 a6 H5 R5 X5 e7 kB g8 i8 j8 j7 hE hT;generalize w6.heap.size=b9 at *;go_cut [54] (λv54 wc=>v54=.bool false/\Up W7 wc)
 case first =>
  have Mk:Hid (∀X,Up W7 X->(At X b3 0 (Iz h.now)/\At X b3 1 (Iz h.last)/\At X b3 2 (Vz a1 h.sh.tg.length c1)/\At X b3 3 (Vz a2 h.sh.bs.length c2)/\At X b3 4 (Vz a3 h.bs.length c3)/\At X b3 5 (Vz a4 h.ds.length c4))/\(At X b7 0 (Iz x.now)/\At X b7 1 (Iz x.last)/\At X b7 2 (Vz i1 x.sh.tg.length j1)/\At X b7 3 (Vz i2 x.sh.bs.length j2)/\At X b7 4 (Vz i3 x.bs.length j3)/\At X b7 5 (Vz i4 x.ds.length j4))/\(At X b9 0 (Iz x.now)/\At X b9 1 (Iz x.last)/\At X b9 2 (Vz k1 x.sh.tg.length l1)/\At X b9 3 (Vz k2 x.sh.bs.length l2)/\At X b9 4 (Vz k3 x.bs.length l3)/\At X b9 5 (Vz k4 x.ds.length l4))):=λX hX=>⟨(J7.up hX).k3.c6,(J7.up hX).k7.c6,(kC.up hX kC.2.2).c6⟩;have hB:Up W7 W7.drew:=(A5 _ _).drew;have a0:=Mk.out _ hB;refine F5 99 (λw'=>(At w' b3 0 (Iz h.now)/\At w' b3 1 (Iz h.last)/\At w' b3 2 (Vz a1 h.sh.tg.length c1)/\At w' b3 3 (Vz a2 h.sh.bs.length c2)/\At w' b3 4 (Vz a3 h.bs.length c3)/\At w' b3 5 (Vz a4 h.ds.length c4))/\(At w' b7 0 (Iz x.now)/\At w' b7 1 (Iz x.last)/\At w' b7 2 (Vz i1 x.sh.tg.length j1)/\At w' b7 3 (Vz i2 x.sh.bs.length j2)/\At w' b7 4 (Vz i3 x.bs.length j3)/\At w' b7 5 (Vz i4 x.ds.length j4))/\(At w' b9 0 (Iz x.now)/\At w' b9 1 (Iz x.last)/\At w' b9 2 (Vz k1 x.sh.tg.length l1)/\At w' b9 3 (Vz k2 x.sh.bs.length l2)/\At w' b9 4 (Vz k3 x.bs.length l3)/\At w' b9 5 (Vz k4 x.ds.length l4))) (by kernel_rfl) ?_;generalize W7.drew=X1 at hB a0 ⊢
  refine D6 0 rfl a0 ?_;refine D6 1 rfl a0 ?_;refine D6 2 rfl a0 ?_;refine D6 3 rfl a0 ?_;refine D6 4 rfl a0 ?_;refine D6 5 rfl a0 ?_;refine E7 6 rfl (λK hK=>?_);go_simp;go_wp2_with (go_at_call 7;refine (Hj x _ _ _ _ _ _ _ _ _ (J7.up hB).X (Y7.up hB)).mono ?_;rintro e w8 ⟨rfl,j9⟩)
  have b4:=D5 hB j9;have c8:=Mk.out _ b4;clear j9;refine E6 hK c8 ?_;clear hK K;refine D6 7 rfl c8 ?_;refine D6 8 rfl c8 ?_;refine D6 9 rfl c8 ?_;refine D6 10 rfl c8 ?_;refine D6 12 rfl c8 ?_;refine E7 11 rfl (λK hK=>?_);go_simp;go_wp2_with (go_at_call 8;refine (Eu h _ _ _ _ _ (J7.up b4).E (J7.up b4).H).mono ?_;rintro e w9 ⟨rfl,a8⟩)
  have b0:=D5 b4 a8;have a5:=Mk.out _ b0;clear a8;refine E6 hK a5 ?_;clear hK K;refine E7 13 rfl (λK hK=>?_);go_simp;go_wp2_with (go_at_call 9;refine (Ep h _ _ _ _ _ (J7.up b0).H).mono ?_;rintro e wa ⟨rfl,d7⟩)
  have d5:=D5 b0 d7;have b5:=Mk.out _ d5;clear d7;refine E6 hK b5 ?_;clear hK K;refine D6 14 rfl b5 ?_;refine E7 15 rfl (λK hK=>?_);go_simp;refine E6 hK b5 ?_;clear hK K;refine F0 (by kernel_rfl) ?_ _;clear a0 c8 a5 b5 Mk;go_wp2_with fail;go_meet
  case rel=>exact⟨rfl,d5⟩
 case rest =>
  obtain⟨rfl,g0⟩:=hcut;have J8:=J7.up g0;have b4:=D5 g4 g0;clear J7 kC Y7 g0 g4;by_cases hc:cS=0
  case neg =>
   have l9:(cS==0)=false:=by simpa using hc
   rcases Od HI.out hc with⟨rfl,rfl⟩|⟨hne,rfl⟩
   ·obtain⟨e0,e1,e2,e3,e4,e5⟩:=J8.k7.c6;clear HI;go_wp2_with (go_at_call 7;refine (Hj N9 _ _ _ _ _ _ _ _ _ J8.X (KB _)).mono ?_;rintro e w9 ⟨rfl,a8⟩)
    go_ret;exact⟨rfl,D5 b4 a8⟩
   ·have k9:(cS==1)=false:=by simpa using hne
    obtain⟨e0,e1,e2,e3,e4,e5⟩:=J8.k7.c6;obtain⟨f0,f1,f2,f3,f4,f5⟩:=J8.k3.c6;clear HI;go_wp2_with (go_at_call 7;refine (Hj x _ _ _ _ _ _ _ _ _ J8.X J8.H).mono ?_;rintro e w9 ⟨rfl,a8⟩)
    go_ret;exact⟨rfl,D5 b4 a8⟩
  case pos =>
   subst hc;obtain⟨wa,rfl⟩:∃wa,wa=wc:=⟨_,rfl⟩;obtain⟨hh,hx,h2,g1,⟨y,hy,k5,g2,k6⟩,d3,b6⟩:=Ra HI.out;clear HI;have h5:h.bs.length<=5:=hh.tiny.2.1;have e8:0<ps.length:=((M3 ps).1 h2).1;have l0:0<=h.last/\h.last<=1000000:=hh.1.2.2;have l5:IntKind.i64.wrap (h.last+1)=h.last+1:=by rw[IntKind.wrap_i64];omega
   have l6:IntKind.i64.wrap ((h.bs.length:Int)+1)=(h.bs.length:Int)+1:=by rw[IntKind.wrap_i64];omega
   subst k5;obtain⟨_,_,ee,-,h4⟩:=J8.X.x;simp only[Value.slice.injEq,true_and] at ee;obtain⟨rfl,rfl⟩:=ee;obtain⟨gx,ox,ee,c5,b2⟩:=h4 (by omega);subst ee;obtain⟨p,q,c,g,r,d,h6,h8⟩:=(c5 _ _ hy).open;obtain⟨b1,d0,-⟩:=J8.R.openW (x:=L3 h y.nm ps sl);have b1:M2 wa rb ro ps:=b1
   have c0:At wa rb ro (Tz (I0 ps)):=by
    have:=(b1.cells 0 e8).1;rw[show ro+0*8=ro by omega,← BL e8] at this;exact this
   have Hvy:Hid (T1 wa y (Sy p q y.ps.length c) (Sy g r y.sl.length d)):=h8
   have Mk:Hid (∀X,Up wa X->(At X b7 0 (Iz x.now)/\At X b7 1 (Iz x.last)/\At X b7 2 (Vz i1 x.sh.tg.length j1)/\At X b7 3 (Vz i2 x.sh.bs.length j2)/\At X b7 4 (Sy gx ox x.bs.length j3)/\At X b7 5 (Vz i4 x.ds.length j4))/\At X b3 1 (Iz h.last)/\At X gx (ox+h.bs.length*6) (Tz y.nm)/\At X gx (ox+h.bs.length*6+1) (Sy p q y.ps.length c)/\At X gx (ox+h.bs.length*6+2) (Sy g r y.sl.length d)/\At X gx (ox+h.bs.length*6+3) (Tz y.ad)/\At X gx (ox+h.bs.length*6+4) (Iz y.si)/\At X gx (ox+h.bs.length*6+5) (Iz y.st)/\At X rb ro (Tz (I0 ps))):=λX hX=>by
    have h7:=(J8.up hX).k7.c6;have h3:=(J8.up hX).k3.c6;obtain⟨u0,u1,u2,u3,u4,u5⟩:=h6;exact⟨h7,h3.2.1,(hX.cell (p:=⟨gx,ox+h.bs.length*6,none⟩) b2).trans u0,(hX.cell (p:=⟨gx,ox+h.bs.length*6+1,none⟩) b2).trans u1,(hX.cell (p:=⟨gx,ox+h.bs.length*6+2,none⟩) b2).trans u2,(hX.cell (p:=⟨gx,ox+h.bs.length*6+3,none⟩) b2).trans u3,(hX.cell (p:=⟨gx,ox+h.bs.length*6+4,none⟩) b2).trans u4,(hX.cell (p:=⟨gx,ox+h.bs.length*6+5,none⟩) b2).trans u5,(hX.cell (p:=⟨rb,ro,none⟩) d0).trans c0⟩
   have q1:((x.bs.length:Nat):Int)=(h.bs.length:Int)+1:=by omega
   have q2:h.last+1=y.st:=g2.symm;have l7:IntKind.i64.wrap y.st=y.st:=by rw[IntKind.wrap_i64,g2];omega
   have q3:((G8 y (I0 ps)).length:Int)=(sl.length:Int):=by omega
   have q4:pB (F6 x)=true:=L9 hx;have q5:(h.bs.length:Int)<(x.bs.length:Int):=by omega
   have q6:h.bs.length<x.bs.length:=by omega
   have q7:(h.bs.length:Int)<(h.bs.length:Int)+1:=by omega
   have Hold:Hid (∀(i:Nat)(z:Rb),h.bs[i]?=some z->0<=z.si->x.bs[i]?=some z):=d3;have Hl:Hid (S9 x.bs=S9 h.bs+AC ps (I0 ps)):=b6;have Hh:Hid (F6 h):=hh;have Hx:Hid (F6 x):=hx;have Hat:Hid (El wa gx ox x.bs):=c5;obtain⟨-,-,-,-,e4,-⟩:=J8.k3.c6;clear h6 h8 hh hx d3 b6 c5 hy g2 k6 g1 h4 b1 c0;go_upto_region 11 with fail;clear e4;go_cut [120] (λv120 wd=>v120=.bool false/\Up wa wd)
   case first =>
    have hB:Up wa wa.drew:=(A5 _ _).drew;have a0:=Mk.out _ hB;refine F5 99 (λw'=>(At w' b7 0 (Iz x.now)/\At w' b7 1 (Iz x.last)/\At w' b7 2 (Vz i1 x.sh.tg.length j1)/\At w' b7 3 (Vz i2 x.sh.bs.length j2)/\At w' b7 4 (Sy gx ox x.bs.length j3)/\At w' b7 5 (Vz i4 x.ds.length j4))/\At w' b3 1 (Iz h.last)/\At w' gx (ox+h.bs.length*6) (Tz y.nm)/\At w' gx (ox+h.bs.length*6+1) (Sy p q y.ps.length c)/\At w' gx (ox+h.bs.length*6+2) (Sy g r y.sl.length d)/\At w' gx (ox+h.bs.length*6+3) (Tz y.ad)/\At w' gx (ox+h.bs.length*6+4) (Iz y.si)/\At w' gx (ox+h.bs.length*6+5) (Iz y.st)/\At w' rb ro (Tz (I0 ps))) (by kernel_rfl) ?_;generalize wa.drew=X1 at hB a0 ⊢
    refine D6 0 rfl a0 ?_;refine D6 1 rfl a0 ?_;refine D6 2 rfl a0 ?_;refine D6 3 rfl a0 ?_;refine D6 4 rfl a0 ?_;refine D6 (v:=.bool false) 5 rfl a0 ?_;refine D6 (v:=.bool false) 6 rfl a0 ?_;refine D6 7 rfl a0 ?_;refine D6 8 rfl a0 ?_;refine D6 9 rfl a0 ?_;refine D6 10 rfl a0 ?_;refine D6 11 rfl a0 ?_;refine D6 12 rfl a0 ?_;refine D6 13 rfl a0 ?_;refine D6 (v:=.bool false) 14 rfl a0 ?_;refine D6 (v:=.bool false) 15 rfl a0 ?_;refine D6 (v:=.bool false) 16 rfl a0 ?_;refine D6 17 rfl a0 ?_;refine D6 18 rfl a0 ?_;refine D6 19 rfl a0 ?_;refine D6 20 rfl a0 ?_;refine D6 21 rfl a0 ?_;refine D6 22 rfl a0 ?_;refine D6 23 rfl a0 ?_;refine D6 24 rfl a0 ?_;refine D6 25 rfl a0 ?_;refine D6 (v:=.bool false) 26 rfl a0 ?_;refine D6 (v:=.bool false) 27 rfl a0 ?_;refine D6 (v:=.bool false) 28 rfl a0 ?_;refine D6 29 rfl a0 ?_;refine D6 30 rfl a0 ?_;refine D6 31 rfl a0 ?_;refine D6 32 rfl a0 ?_;refine D6 33 rfl a0 ?_;refine D6 34 rfl a0 ?_;refine D6 35 rfl a0 ?_;refine D6 36 rfl a0 ?_;refine D6 37 rfl a0 ?_;refine D6 40 rfl a0 ?_;refine D6 41 rfl a0 ?_;refine E7 38 rfl (λK hK=>?_);go_simp;go_wp2_with (go_at_call 10;refine (He y _ _ (I0 ps) _ (J8.up hB).E (Hvy.out.up hB)).mono ?_;rintro e w9 ⟨⟨u,rfl,hu⟩,a8⟩;obtain⟨au,cu,rfl⟩:=I7 hu)
    have b0:=D5 hB a8;have a5:=Mk.out _ b0;clear a8 hu;refine E6 hK a5 ?_;clear hK K;refine D6 39 rfl a5 ?_;refine D6 (v:=.bool false) 42 rfl a5 ?_;refine D6 (v:=.bool false) 43 rfl a5 ?_;refine D6 (v:=.bool false) 44 rfl a5 ?_;refine D6 45 rfl a5 ?_;refine E7 46 rfl (λK hK=>?_);go_simp;go_wp2_with (go_at_call 8;refine (Eu x _ _ _ _ _ (J8.up b0).E (J8.up b0).X).mono ?_;rintro e wb ⟨rfl,d7⟩)
    have d5:=D5 b0 d7;have b5:=Mk.out _ d5;clear d7;refine E6 hK b5 ?_;clear hK K;refine D6 (v:=.bool false) 47 rfl b5 ?_;refine E7 48 rfl (λK hK=>?_);go_simp;refine E6 hK b5 ?_;clear hK K;refine F0 (by kernel_rfl) ?_ _;clear a0 a5 b5 Mk;go_wp2_with fail;go_meet
    case rel=>exact⟨rfl,d5⟩
   case rest =>
    obtain⟨rfl,b8⟩:=hcut;have J9:=J8.up b8;have b0:=D5 b4 b8;have Hat9:Hid (El wc gx ox x.bs):=Hat.out.up b8 b2;have a7:gx<wc.heap.size:=A2 b2 b8.size;clear J8 b4 Mk Hvy b8 q1 q2 q3 q4 q5 q6 q7 l5 l6 l7 Hat b2 b1 d0 l0;obtain⟨_,_,ee,-,h9⟩:=J9.H.x;simp only[Value.slice.injEq,true_and] at ee;obtain⟨rfl,rfl⟩:=ee;have z3:=J9.k3.2.2;have z7:=J9.k7.2.2;have m3:=J9.k3.c6.2.2.2.2.1;have m7:=J9.k7.c6.2.2.2.2.1;go_wp2_with fail;(try dsimp only[Iz,Sz,Sy,Nz,Vz,Tz,Ez,Pz]);go_loopw [12] (λi w'=>∃k:Nat,k<=h.bs.length/\i=.int .i64 k/\Up wc w') (λi _=>h.bs.length-(intOf i).toNat)
    case atStart=>exact⟨0,by omega,rfl,A5 _ _⟩
    case round =>
     obtain⟨k,hk,rfl,hB⟩:=hrel;by_cases hp:k<h.bs.length
     ·obtain⟨gh,oh,ee,d4,c7⟩:=h9 (by omega);subst ee;obtain⟨p,q,c,g,r,d,d9,i0⟩:=(d4.at hp).open;have Hk:Hid (0<=(h.bs[k]).si->x.bs[k]?=some h.bs[k]):=Hold.out k _ (A0 hp);generalize h.bs[k]=z at *;have Hvz:Hid (T1 wc z (Sy p q z.ps.length c) (Sy g r z.sl.length d)):=i0;clear i0 d4;by_cases hs:0<=z.si
      ·have g5:=Hk.out hs;have m0:k<x.bs.length:=(A3.1 g5).1;have l8:(k:Int)<(x.bs.length:Int):=by omega
       obtain⟨p',q',c',g',r',d',i5,i6⟩:=(Hat9.out k z g5).open;have Hvw:Hid (T1 wc z (Sy p' q' z.ps.length c') (Sy g' r' z.sl.length d')):=i6
       have Mk:Hid (∀X,Up wc X->At X b3 4 (Sy gh oh h.bs.length c3)/\At X b7 4 (Sy gx ox x.bs.length j3)/\At X gh (oh+k*6) (Tz z.nm)/\At X gh (oh+k*6+1) (Sy p q z.ps.length c)/\At X gh (oh+k*6+2) (Sy g r z.sl.length d)/\At X gh (oh+k*6+3) (Tz z.ad)/\At X gh (oh+k*6+4) (Iz z.si)/\At X gh (oh+k*6+5) (Iz z.st)/\At X gx (ox+k*6) (Tz z.nm)/\At X gx (ox+k*6+1) (Sy p' q' z.ps.length c')/\At X gx (ox+k*6+2) (Sy g' r' z.sl.length d')/\At X gx (ox+k*6+3) (Tz z.ad)/\At X gx (ox+k*6+4) (Iz z.si)/\At X gx (ox+k*6+5) (Iz z.st)):=λX hX=>by
        obtain⟨u0,u1,u2,u3,u4,u5⟩:=d9;obtain⟨v0,v1,v2,v3,v4,v5⟩:=i5;exact⟨(hX.cell (p:=⟨b3,4,none⟩) z3).trans m3,(hX.cell (p:=⟨b7,4,none⟩) z7).trans m7,(hX.cell (p:=⟨gh,oh+k*6,none⟩) c7).trans u0,(hX.cell (p:=⟨gh,oh+k*6+1,none⟩) c7).trans u1,(hX.cell (p:=⟨gh,oh+k*6+2,none⟩) c7).trans u2,(hX.cell (p:=⟨gh,oh+k*6+3,none⟩) c7).trans u3,(hX.cell (p:=⟨gh,oh+k*6+4,none⟩) c7).trans u4,(hX.cell (p:=⟨gh,oh+k*6+5,none⟩) c7).trans u5,(hX.cell (p:=⟨gx,ox+k*6,none⟩) a7).trans v0,(hX.cell (p:=⟨gx,ox+k*6+1,none⟩) a7).trans v1,(hX.cell (p:=⟨gx,ox+k*6+2,none⟩) a7).trans v2,(hX.cell (p:=⟨gx,ox+k*6+3,none⟩) a7).trans v3,(hX.cell (p:=⟨gx,ox+k*6+4,none⟩) a7).trans v4,(hX.cell (p:=⟨gx,ox+k*6+5,none⟩) a7).trans v5⟩
       clear d9 i5 i6 Hk g5;go_upto_region 16 with fail;go_cut [146] (λv146 we=>v146=.bool false/\Up wr we)
       case first =>
        have hC:Up wr wr.drew:=(A5 _ _).drew;have a0:=Mk.out _ (D5 hB hC);refine F5 99 (λw'=>At w' b3 4 (Sy gh oh h.bs.length c3)/\At w' b7 4 (Sy gx ox x.bs.length j3)/\At w' gh (oh+k*6) (Tz z.nm)/\At w' gh (oh+k*6+1) (Sy p q z.ps.length c)/\At w' gh (oh+k*6+2) (Sy g r z.sl.length d)/\At w' gh (oh+k*6+3) (Tz z.ad)/\At w' gh (oh+k*6+4) (Iz z.si)/\At w' gh (oh+k*6+5) (Iz z.st)/\At w' gx (ox+k*6) (Tz z.nm)/\At w' gx (ox+k*6+1) (Sy p' q' z.ps.length c')/\At w' gx (ox+k*6+2) (Sy g' r' z.sl.length d')/\At w' gx (ox+k*6+3) (Tz z.ad)/\At w' gx (ox+k*6+4) (Iz z.si)/\At w' gx (ox+k*6+5) (Iz z.st)) (by kernel_rfl) ?_;generalize wr.drew=X1 at hC a0 ⊢
        refine D6 0 rfl a0 ?_;refine D6 1 rfl a0 ?_;refine D6 2 rfl a0 ?_;refine D6 3 rfl a0 ?_;refine D6 4 rfl a0 ?_;refine D6 5 rfl a0 ?_;refine D6 (v:=.bool true) 6 rfl a0 ?_;refine D6 (v:=.bool true) 7 rfl a0 ?_;refine D6 8 rfl a0 ?_;refine D6 9 rfl a0 ?_;refine D6 10 rfl a0 ?_;refine D6 11 rfl a0 ?_;refine D6 12 rfl a0 ?_;refine D6 13 rfl a0 ?_;refine D6 14 rfl a0 ?_;refine D6 15 rfl a0 ?_;refine D6 16 rfl a0 ?_;refine D6 17 rfl a0 ?_;refine E7 18 rfl (λK hK=>?_);go_simp;go_wp2_with (go_at_call 11;refine (KN z p q c g r d p' q' c' g' r' d' _ (Hvz.out.up (D5 hB hC)) (Hvw.out.up (D5 hB hC))).mono ?_;rintro e w9 ⟨rfl,a8⟩)
        have c9:=D5 hC a8;have a5:=Mk.out _ (D5 hB c9);clear a8;refine E6 hK a5 ?_;clear hK K;refine D6 (v:=.bool false) 19 rfl a5 ?_;refine E7 20 rfl (λK hK=>?_);go_simp;refine E6 hK a5 ?_;clear hK K;refine F0 (by kernel_rfl) ?_ _;clear a0 a5 Mk;go_wp2_with fail;go_meet
        case rel=>exact⟨rfl,c9⟩
       case rest =>
        obtain⟨rfl,g3⟩:=hcut;go_wp2_with fail;go_roundw
        case rel=>exact⟨k+1,by omega,by go_num,D5 hB g3⟩
        case measure=>simp[intOf];omega
      ·have Mk:Hid (∀X,Up wc X->At X b3 4 (Sy gh oh h.bs.length c3)/\At X gh (oh+k*6+4) (Iz z.si)):=λX hX=>by
        obtain⟨u0,u1,u2,u3,u4,u5⟩:=d9;exact⟨(hX.cell (p:=⟨b3,4,none⟩) z3).trans m3,(hX.cell (p:=⟨gh,oh+k*6+4,none⟩) c7).trans u4⟩
       clear d9 Hk;go_upto_region 16 with fail;go_cut [146] (λv146 we=>v146=.bool false/\Up wr we)
       case first =>
        have hC:Up wr wr.drew:=(A5 _ _).drew;have a0:=Mk.out _ (D5 hB hC);refine F5 99 (λw'=>At w' b3 4 (Sy gh oh h.bs.length c3)/\At w' gh (oh+k*6+4) (Iz z.si)) (by kernel_rfl) ?_;generalize wr.drew=X1 at hC a0 ⊢
        refine D6 0 rfl a0 ?_;refine D6 1 rfl a0 ?_;refine D6 2 rfl a0 ?_;refine D6 3 rfl a0 ?_;refine D6 4 rfl a0 ?_;refine D6 5 rfl a0 ?_;refine D6 (v:=.bool false) 6 rfl a0 ?_;refine D6 (v:=.bool false) 7 rfl a0 ?_;refine K9 8 rfl a0 ?_;refine K9 9 rfl a0 ?_;refine K9 10 rfl a0 ?_;refine K9 11 rfl a0 ?_;refine K9 12 rfl a0 ?_;refine K9 13 rfl a0 ?_;refine K9 14 rfl a0 ?_;refine K9 15 rfl a0 ?_;refine K9 16 rfl a0 ?_;refine K9 17 rfl a0 ?_;refine K9 18 rfl a0 ?_;refine K9 19 rfl a0 ?_;refine E7 20 rfl (λK hK=>?_);go_simp;refine E6 hK a0 ?_;clear hK K;refine F0 (by kernel_rfl) ?_ _;clear a0 Mk;go_wp2_with fail;go_meet
        case rel=>exact⟨rfl,hC⟩
       case rest =>
        obtain⟨rfl,g3⟩:=hcut;go_wp2_with fail;go_roundw
        case rel=>exact⟨k+1,by omega,by go_num,D5 hB g3⟩
        case measure=>simp[intOf];omega
     ·have J10:=J9.up hB;have g6:=D5 b0 hB;clear J9 b0 h9 m3 m7 z3 z7 Hat9 a7 Hold;obtain⟨b1,d0,-⟩:=J10.R.openW (x:=L3 h y.nm ps sl);have b1:M2 wr rb ro ps:=b1
      have c0:At wr rb ro (Tz (I0 ps)):=by
       have:=(b1.cells 0 e8).1;rw[show ro+0*8=ro by omega,← BL e8] at this;exact this
      have e1:Do x=Do h+AC ps (I0 ps):=by
       unfold Do;rw[if_pos (L9 Hx.out),if_pos (L9 Hh.out)];exact Hl.out
      have d1:=Xl h;have d2:=Km h2 (I0 ps);have e2:IntKind.i64.wrap (Do h+AC ps (I0 ps))=Do x:=by rw[IntKind.wrap_i64,e1];omega
      have e3:=J10.R.zp;have e3:Dd ps:=e3;obtain⟨_,_,k8,ee,-,-,e4,e5⟩:=J10.R.r;have ee:Value.slice (some ⟨rb,ro,none⟩) ps.length rc=Vz _ ps.length k8:=ee;simp only[Value.slice.injEq] at ee;obtain⟨-,-,rfl⟩:=ee;have e4:ps.length<=rc:=e4;have Mk:Hid (∀X,Up wr X->(At X b3 0 (Iz h.now)/\At X b3 1 (Iz h.last)/\At X b3 2 (Vz a1 h.sh.tg.length c1)/\At X b3 3 (Vz a2 h.sh.bs.length c2)/\At X b3 4 (Vz a3 h.bs.length c3)/\At X b3 5 (Vz a4 h.ds.length c4))/\(At X b7 0 (Iz x.now)/\At X b7 1 (Iz x.last)/\At X b7 2 (Vz i1 x.sh.tg.length j1)/\At X b7 3 (Vz i2 x.sh.bs.length j2)/\At X b7 4 (Sy gx ox x.bs.length j3)/\At X b7 5 (Vz i4 x.ds.length j4))/\At X rb ro (Tz (I0 ps))):=λX hX=>⟨(J10.up hX).k3.c6,(J10.up hX).k7.c6,(hX.cell (p:=⟨rb,ro,none⟩) d0).trans c0⟩;clear c0;go_upto_region 18 with fail;have hC:Up wr wr.drew:=(A5 _ _).drew;have a0:=Mk.out _ hC;refine F5 12 (λw'=>(At w' b3 0 (Iz h.now)/\At w' b3 1 (Iz h.last)/\At w' b3 2 (Vz a1 h.sh.tg.length c1)/\At w' b3 3 (Vz a2 h.sh.bs.length c2)/\At w' b3 4 (Vz a3 h.bs.length c3)/\At w' b3 5 (Vz a4 h.ds.length c4))/\(At w' b7 0 (Iz x.now)/\At w' b7 1 (Iz x.last)/\At w' b7 2 (Vz i1 x.sh.tg.length j1)/\At w' b7 3 (Vz i2 x.sh.bs.length j2)/\At w' b7 4 (Sy gx ox x.bs.length j3)/\At w' b7 5 (Vz i4 x.ds.length j4))/\At w' rb ro (Tz (I0 ps))) (by kernel_rfl) ?_;generalize wr.drew=X1 at hC a0 ⊢
      refine D6 0 rfl a0 ?_;refine D6 2 rfl a0 ?_;refine D6 4 rfl a0 ?_;refine D6 5 rfl a0 ?_;refine D6 6 rfl a0 ?_;refine D6 7 rfl a0 ?_;refine D6 8 rfl a0 ?_;refine E7 1 rfl (λK hK=>?_);go_simp;go_wp2_with (go_at_call 12;refine (NI x _ _ _ _ _ (J10.up hC).E (J10.up hC).X).mono ?_;rintro e w9 ⟨rfl,a8⟩)
      have c9:=D5 hC a8;have a5:=Mk.out _ c9;clear a8 a0;refine E6 hK a5 ?_;clear hK K;refine E7 3 rfl (λK hK=>?_);go_simp;go_wp2_with (go_at_call 12;refine (NI h _ _ _ _ _ (J10.up c9).E (J10.up c9).H).mono ?_;rintro e wb ⟨rfl,k0⟩)
      have d6:=D5 c9 k0;have j0:=Mk.out _ d6;clear k0 a5;refine E6 hK j0 ?_;clear hK K;refine E7 9 rfl (λK hK=>?_);go_simp;go_wp2_with (go_at_call 13;refine (Kl ps rb ro rc (I0 ps) _ (J10.up d6).E (b1.up d6 d0) (A2 d0 d6.size) e3 e4 e5).mono ?_;rintro e wd ⟨rfl,b8⟩)
      have j5:=D5 d6 b8;have e9:=Mk.out _ j5;clear b8 j0;refine E6 hK e9 ?_;clear hK K;refine D6 10 rfl e9 ?_;refine D6 11 rfl e9 ?_;refine E7 12 rfl (λK hK=>?_);go_simp;refine Bf hK ?_;clear hK K;refine F0 (by kernel_rfl) ?_ _;clear e9 Mk;go_wp2_with fail;go_ret;exact⟨rfl,D5 g6 j5⟩
end Go.Proofs.YtmonodehegcfhaaGreatDoor
