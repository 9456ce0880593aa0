/- The program's chapter 23: runAllAsk. -/
import Derived.Test.YtmonodehegcfhaaGreatDoorJ43
import Derived.Test.YtmonodehegcfhaaGreatDoorJ37
import Derived.Test.YtmonodehegcfhaaGreatDoorJ31
import Derived.Test.YtmonodehegcfhaaGreatDoorJ15
set_option maxRecDepth 20000
set_option maxHeartbeats 8000000
namespace Go.Proofs.YtmonodehegcfhaaGreatDoor
open Go.Proofs.Tryz
open Go.RowKit
variable{h:House}{ps:List Rv}{xs:List Value}{y:Nat}{a4:Option Addr}{k11:Option Nat}{k6 k9:Option Value}{bu du tu v xu:Value}{W1 X X' w w':World}
theorem Tm(h:House)(y:Nat)(u:FrameMode)(w0 w:World)(hB0:Up w0 w)(hE:P2 w0)(hT:BD w0)(H:PH w w0.heap.size y h)(hsi:∀x∈h.bs,-1<=x.si):
  CallsD prog 73 #[Pz y 0] u w λe u' w'=>u'=u/\(e=.returned (.tuple #[])/\PH w' w0.heap.size y (Z4 h h.bs.length)/\Up w0 w'):=by
 obtain⟨tv,bv,xv,dv,kA,HH⟩:=H;obtain⟨-,-,-,-,a3,c3,-,-,-,-,rfl,-⟩:=HH.v.shapes
 have g6:h.bs.length<=9223372036854775807:=by
  obtain⟨ps,hw,he⟩:=HH.x;have:=EF hw.1.1;rw[← he,B5];unfold maxLen at this;omega
 have Hsi:Hid (∀x∈h.bs,-1<=x.si):=hsi;clear hsi;go_enter_d func73,ntmps73
 obtain⟨-,-,-,-,e4,-⟩:=(D7 kA).c6;go_upto_region 1 with fail;clear e4;(try dsimp only[Iz,Sz,Sy,Nz,Vz,Tz,Ez,Pz]);go_loopw [13] (λi w'=>∃(k:Nat)(tu bu:Value),k<=h.bs.length/\i=.int .i64 k/\w'.ownsRow w0.heap.size 30 6 (Sz y 1 1) 1 [Iz h.now,Iz h.last,tu,bu,Vz a3 h.bs.length c3,dv]/\HP w' w0.heap.size (Z4 h k) tu bu (Vz a3 h.bs.length c3) dv/\Up w0 w') (λi _=>h.bs.length-(intOf i).toNat)
 case atStart=>exact⟨0,tv,bv,by omega,rfl,kA,HH,hB0⟩
 case round =>
  clear kA HH hB0;obtain⟨k,tu,bu,g2,rfl,kA,HH,hB⟩:=hrel;have Hz4:Hid ((Z4 h k).bs.length=h.bs.length):=(FI h k).2.2.2;have Hsk:Hid (∀x∈(Z4 h k).bs,-1<=x.si):=PZ Hsi.out k;have HN:Hid (Z4 h (k+1)=Es (Z4 h k) k):=rfl;have Hnow:Hid ((Z4 h k).now=h.now/\(Z4 h k).last=h.last):=⟨(FI h k).1,(FI h k).2.1⟩;have HE:Hid (k=h.bs.length->Z4 h h.bs.length=Z4 h k):=λe=>by rw[e]
  generalize Z4 h k=hk at *;obtain⟨-,-,e2,e3,e4,-⟩:=(D7 kA).c6;by_cases hp:k<h.bs.length
  ·obtain⟨ps,hW,hm⟩:=HH.x;have d8:ps.length=h.bs.length:=by have:=congrArg List.length hm;rw[B5,Hz4.out] at this;exact this
   obtain⟨g,g5,eg⟩:=I6 hW.1.1 (by omega);simp only[Value.slice.injEq] at eg;obtain⟨rfl,-,rfl⟩:=eg;have a2:=hW.1.1;rw[d8] at a2;obtain⟨⟨x0,ru,su⟩,b6⟩:∃p,ps[k]?=some p:=⟨ps[k]'(by omega),A0 _⟩;have Hpk:Hid (ps[k]?=some (x0,ru,su)):=b6;have Hx0:Hid (hk.bs[k]?=some x0):=by show _=_;rw[← hm,B1,b6];rfl
   have c4:=hW.1.2 _ (A7 b6);have e6:NN ru:=c4.nr;have e7:NN su:=c4.ns;obtain⟨g3,n3,m3,rfl⟩:=e6;obtain⟨g4,n4,m4,rfl⟩:=e7;have b4:=V2 S6 a2 b6;have q0:At wr g (k*6) (Tz x0.nm):=b4 0 _ rfl;have q1:At wr g (k*6+1) (Sz g3 n3 m3):=b4 1 _ rfl;have q2:At wr g (k*6+2) (Sz g4 n4 m4):=b4 2 _ rfl;have q3:At wr g (k*6+3) (Tz x0.ad):=b4 3 _ rfl;have q4:At wr g (k*6+4) (Iz x0.si):=b4 4 _ rfl;have q5:At wr g (k*6+5) (Iz x0.st):=b4 5 _ rfl;have hv:T1 wr x0 (Sz g3 n3 m3) (Sz g4 n4 m4):=c4.v;have a1:g<wr.heap.size:=(a2.lt g rfl).2;have b5:y<wr.heap.size:=(kA.lt y rfl).2;have e8:-1<=x0.si:=Hsk.out x0 (A7 Hx0.out);clear b4 c4 hm b6 d8;by_cases hsi:0<=x0.si
   ·have HA:Hid (Es hk k=hk):=by show _=_;rw[KF Hx0.out,if_pos hsi]
    have f7:¬x0.si=-1:=by omega
    clear hv a2 hW;go_wp2_with (go_at_call 94;refine (Lx _ _ _ _ _ _ _ _ _ _ _ f7).mono ?_;rintro e w3 ⟨rfl,a6⟩)
    go_roundw
    case rel=>exact⟨k+1,tu,bu,by omega,by go_num,E4 kA a6,by rw[HN.out,HA.out];exact HH.up a6,D5 hB a6⟩
    case measure=>simp[intOf];omega
   ·have d4:x0.si=-1:=by omega
    have HA:Hid (Es hk k=if Fw hk.sh x0.nm (K7 x0)=0 then {hk with sh:=CG hk.sh x0.nm (K7 x0),bs:=hk.bs.set k {x0 with si:=0}} else hk):=by show _=_;rw[KF Hx0.out,if_neg hsi]
    rw[d4] at q4;go_upto_region 6 with (go_at_call 94;refine (Jr _ _ _ _ _ _ _ _ _ _).mono ?_;rintro e w3 ⟨rfl,a6⟩)
    rw[← d4] at q4
    have mk:∀w',Up w3 w'->At w' y 2 tu/\At w' y 3 bu/\At w' g (k*6) (Tz x0.nm)/\At w' g (k*6+1) (Sz g3 n3 m3)/\At w' g (k*6+2) (Sz g4 n4 m4)/\At w' g (k*6+3) (Tz x0.ad)/\At w' g (k*6+4) (Iz x0.si)/\At w' g (k*6+5) (Iz x0.st):=λw' hb'=>by
     have hb:=D5 a6 hb';exact⟨(hb.cell (p:=⟨y,2,none⟩) b5).trans e2,(hb.cell (p:=⟨y,3,none⟩) b5).trans e3,(hb.cell (p:=⟨g,k*6,none⟩) a1).trans q0,(hb.cell (p:=⟨g,k*6+1,none⟩) a1).trans q1,(hb.cell (p:=⟨g,k*6+2,none⟩) a1).trans q2,(hb.cell (p:=⟨g,k*6+3,none⟩) a1).trans q3,(hb.cell (p:=⟨g,k*6+4,none⟩) a1).trans q4,(hb.cell (p:=⟨g,k*6+5,none⟩) a1).trans q5⟩
    have Mk:Hid (∀w',Up w3 w'->At w' y 2 tu/\At w' y 3 bu/\At w' g (k*6) (Tz x0.nm)/\At w' g (k*6+1) (Sz g3 n3 m3)/\At w' g (k*6+2) (Sz g4 n4 m4)/\At w' g (k*6+3) (Tz x0.ad)/\At w' g (k*6+4) (Iz x0.si)/\At w' g (k*6+5) (Iz x0.st)):=mk;have HB3:=HH.up a6;have d9:=E4 kA a6;have b0:=E4 a2 a6;have b9:=D5 hB a6;have HB:Hid (Q6 w3 (.agg #[tu,bu]) hk.sh):=HB3.k.bk HB3.z;have d5:=hE.up b9;have c5:=hT.up b9;replace hv:=hv.up a6;have f8:=b9.size;clear mk q0 q1 q2 q3 q4 q5 e2 e3 e4 kA HH hB a2 a6 b5 a1 d4 e8 hsi hW;go_cut [6,7] (λv6 v7 wc=>∃(Y:Nat)(tw bw:Value),v6=Pz Y 0/\v7=.int .i64 (Fw hk.sh x0.nm (K7 x0))/\Up w3 wc/\S4 wc w3.heap.size (.agg #[tw,bw]) (CG hk.sh x0.nm (K7 x0))/\CB wc Y [tw,bw])
    case first =>
     have hC:AQ w3 hk x0 w3.drew none none none:=(YU w3 hk x0).up (A5 _ _).drew;refine F5 99 (λw'=>At w' y 2 tu/\At w' y 3 bu/\At w' g (k*6) (Tz x0.nm)/\At w' g (k*6+1) (Sz g3 n3 m3)/\At w' g (k*6+2) (Sz g4 n4 m4)/\At w' g (k*6+3) (Tz x0.ad)/\At w' g (k*6+4) (Iz x0.si)/\At w' g (k*6+5) (Iz x0.st)) (by kernel_rfl) ?_;generalize w3.drew=X1 at hC ⊢
     have a4:=Mk.out _ hC.B;refine D6 0 rfl a4 ?_;refine D6 1 rfl a4 ?_;refine D6 2 rfl a4 ?_;refine D6 3 rfl a4 ?_;refine D6 4 rfl a4 ?_;refine D6 5 rfl a4 ?_;refine D6 6 rfl a4 ?_;refine D6 7 rfl a4 ?_;refine D6 8 rfl a4 ?_;refine D6 9 rfl a4 ?_;refine D6 10 rfl a4 ?_;clear a4;refine R4 (i:=11) (j:=16) (by kernel_rfl) rfl rfl (λK hK=>?_) (λK hK=>?_)
     ·(go_simp;go_wp2_with (go_at_call 95;refine (Ll x0 _ _ _ (d5.up hC.B) (hv.up hC.B)).mono ?_;rintro e X2 ⟨⟨u1,rfl,hu⟩,c1⟩;replace hC:=hC.own c1 hu.lst;obtain⟨a9,c9,rfl⟩:=hu.lst.shape;clear c1 hu);refine E6 hK (Mk.out _ hC.B) ?_;clear hK K)
      refine R4 (i:=12) (j:=16) (by kernel_rfl) rfl rfl (λK hK=>?_) (λK hK=>?_)
      ·(go_simp;go_wp2_with (go_at_call 129;refine (Lw hk.sh _ x0.nm _ (K7 x0) _ (HB.out.up hC.B) ((hC.s11 _ rfl).ls (Ah hv)) (c5.up hC.B)).mono ?_;rintro e X3 ⟨⟨v8,rfl,a7⟩,b3⟩;replace hC:=hC.ask b3 a7;obtain⟨t1,d1,t2,d2,rfl⟩:=a7.shape;clear a7 b3);refine E6 hK (Mk.out _ hC.B) ?_;clear hK K;(refine D6 13 rfl (Mk.out _ hC.B) ?_);(refine D6 14 rfl (Mk.out _ hC.B) ?_);(refine D6 15 rfl (Mk.out _ hC.B) ?_))
       refine E7 16 rfl (λK hK=>?_)
       (go_simp;replace hC:=hC.new;refine E6 hK (Mk.out _ hC.B) ?_;clear hK K;generalize World.alloc _ (Kz [Nz,Nz] 26)=X4 at hC ⊢)
       (have kY:=D7 (hC.s16 _ rfl);obtain⟨⟨j0,j1⟩,m0,m1⟩:=kY.c2;have hF:=hC.fin;refine E7 17 rfl (λK hK=>?_);go_simp;refine E6 hK (Mk.out _ hF.1) ?_;clear hK K j0 j1 m0 m1 kY;refine E7 18 rfl (λK hK=>?_);go_simp;refine E6 hK (Mk.out _ hF.1) ?_;clear hK K;refine F0 (by kernel_rfl) ?_ _;go_wp2_with fail;go_meet;exact⟨_,_,_,rfl,rfl,hF⟩)
      ·(go_simp;replace hC:=hC.new;refine E6 hK (Mk.out _ hC.B) ?_;clear hK K;generalize World.alloc _ (Kz [Nz,Nz] 26)=X4 at hC ⊢)
       refine E7 12 rfl (λK hK=>?_)
       (go_simp;go_wp2_with (go_at_call 129;refine (Lw hk.sh _ x0.nm _ (K7 x0) _ (HB.out.up hC.B) ((hC.s11 _ rfl).ls (Ah hv)) (c5.up hC.B)).mono ?_;rintro e X3 ⟨⟨v8,rfl,a7⟩,b3⟩;replace hC:=hC.ask b3 a7;obtain⟨t1,d1,t2,d2,rfl⟩:=a7.shape;clear a7 b3);refine E6 hK (Mk.out _ hC.B) ?_;clear hK K;(refine D6 13 rfl (Mk.out _ hC.B) ?_);(refine D6 14 rfl (Mk.out _ hC.B) ?_);(refine D6 15 rfl (Mk.out _ hC.B) ?_))
       (have kY:=D7 (hC.s16 _ rfl);obtain⟨⟨j0,j1⟩,m0,m1⟩:=kY.c2;have hF:=hC.fin;refine E7 17 rfl (λK hK=>?_);go_simp;refine E6 hK (Mk.out _ hF.1) ?_;clear hK K j0 j1 m0 m1 kY;refine E7 18 rfl (λK hK=>?_);go_simp;refine E6 hK (Mk.out _ hF.1) ?_;clear hK K;refine F0 (by kernel_rfl) ?_ _;go_wp2_with fail;go_meet;exact⟨_,_,_,rfl,rfl,hF⟩)
     ·(go_simp;replace hC:=hC.new;refine E6 hK (Mk.out _ hC.B) ?_;clear hK K;generalize World.alloc _ (Kz [Nz,Nz] 26)=X4 at hC ⊢)
      refine E7 11 rfl (λK hK=>?_)
      (go_simp;go_wp2_with (go_at_call 95;refine (Ll x0 _ _ _ (d5.up hC.B) (hv.up hC.B)).mono ?_;rintro e X2 ⟨⟨u1,rfl,hu⟩,c1⟩;replace hC:=hC.own c1 hu.lst;obtain⟨a9,c9,rfl⟩:=hu.lst.shape;clear c1 hu);refine E6 hK (Mk.out _ hC.B) ?_;clear hK K)
      refine E7 12 rfl (λK hK=>?_)
      (go_simp;go_wp2_with (go_at_call 129;refine (Lw hk.sh _ x0.nm _ (K7 x0) _ (HB.out.up hC.B) ((hC.s11 _ rfl).ls (Ah hv)) (c5.up hC.B)).mono ?_;rintro e X3 ⟨⟨v8,rfl,a7⟩,b3⟩;replace hC:=hC.ask b3 a7;obtain⟨t1,d1,t2,d2,rfl⟩:=a7.shape;clear a7 b3);refine E6 hK (Mk.out _ hC.B) ?_;clear hK K;(refine D6 13 rfl (Mk.out _ hC.B) ?_);(refine D6 14 rfl (Mk.out _ hC.B) ?_);(refine D6 15 rfl (Mk.out _ hC.B) ?_))
      (have kY:=D7 (hC.s16 _ rfl);obtain⟨⟨j0,j1⟩,m0,m1⟩:=kY.c2;have hF:=hC.fin;refine E7 17 rfl (λK hK=>?_);go_simp;refine E6 hK (Mk.out _ hF.1) ?_;clear hK K j0 j1 m0 m1 kY;refine E7 18 rfl (λK hK=>?_);go_simp;refine E6 hK (Mk.out _ hF.1) ?_;clear hK K;refine F0 (by kernel_rfl) ?_ _;go_wp2_with fail;go_meet;exact⟨_,_,_,rfl,rfl,hF⟩)
    case rest =>
     obtain⟨Y,tw,bw,rfl,rfl,b7,c8,kY⟩:=hcut;have HHc:=HB3.up b7;have a8:=E4 d9 b7;have a5:=E4 b0 b7;have c7:=D5 b9 b7;have Hz:Hid (Y0 (CG hk.sh x0.nm (K7 x0))):=WX HB3.z (Ah hv);clear Mk HB b0 HB3 d9 hv d5 c5 b9;by_cases hcd:Fw hk.sh x0.nm (K7 x0)=0
     ·have HA2:Hid (Z4 h (k+1)={hk with sh:=CG hk.sh x0.nm (K7 x0),bs:=hk.bs.set k {x0 with si:=0}}):=by show _=_;rw[HN.out,HA.out,if_pos hcd]
      rw[hcd];clear hcd;obtain⟨t1,d1,t2,d2,e9⟩:=c8.shape;simp only[Value.agg.injEq,Array.mk.injEq,List.cons.injEq,and_true] at e9;obtain⟨rfl,rfl⟩:=e9;generalize CG hk.sh x0.nm (K7 x0)=b' at *;obtain⟨v0,v1⟩:=kY.c2';obtain⟨e0,e1,e2,e3,e4,e5⟩:=(D7 a8).c6;obtain⟨f0,f1,f2,f3,f4,f5⟩:=(D7 a8).f6;have b1:=Y5 (j:=2) a8 (Vz t1 b'.tg.length d1);have b2:=Y5 (j:=3) b1.1 (Vz t2 b'.bs.length d2);have c0:wc.grownBy ((wc.setCell ⟨y,2,none⟩ (Vz t1 b'.tg.length d1)).setCell ⟨y,3,none⟩ (Vz t2 b'.bs.length d2)) (Vz (some ⟨y,0,none⟩) 1 1).ownBlock:=E0 b1.2 b2.2
      obtain⟨W7,d7,d0,a0,HH7,b8,d3⟩:∃W7,(wc.setCell ⟨y,2,none⟩ (Vz t1 b'.tg.length d1)).setCell ⟨y,3,none⟩ (Vz t2 b'.bs.length d2)=W7/\W7.ownsRow w0.heap.size 30 6 (Sz y 1 1) 1 [Iz h.now,Iz h.last,Vz t1 b'.tg.length d1,Vz t2 b'.bs.length d2,Sz g h.bs.length c3,dv]/\W7.ownsRow w0.heap.size 40 6 (Sz g h.bs.length c3) h.bs.length (F8 Q7 ps)/\HP W7 w0.heap.size hk tu bu (Sz g h.bs.length c3) dv/\S4 W7 w0.heap.size (.agg #[Vz t1 b'.tg.length d1,Vz t2 b'.bs.length d2]) b'/\Up w0 W7 :=
       ⟨_,rfl,b2.1,E5 a5 c0 (E9 a5 a8 (by decide)),HHc.box a8 c0,(c8.step a8 (by decide) (by decide) c0).low f8,L5 c7 c7.size a8 c0 (A4 _)⟩
      go_upto_region 9 with fail;try rw[d7]
      clear d7 e0 e1 e2 e3 e4 e5 f0 f1 f2 f3 f4 f5 v0 v1 b1 b2 c0 a8 a5 HHc c8 kY b7 c7;have q4:World.cell? W7 ⟨g,k*6+4,none⟩=(F8 Q7 ps)[k*6+4]?:=a0.cellAt (k*6+4) (by omega);rw[EI S6 ps k _ Hpk.out 4 (Iz x0.si) rfl] at q4;have f4:=a0.frozenAt (k*6+4);have d6:W7.grownBy (W7.setCell ⟨g,k*6+4,none⟩ (Iz 0)) (Vz (some ⟨g,0,none⟩) h.bs.length c3).ownBlock:=(B4 a0 _ _).2;have HH8:=HH7.since Hx0.out b8 Hz.out 0;have f9:=E5 d0 d6 (E9 d0 a0 (by decide));have g0:=L5 d3 d3.size a0 d6 (A4 _);clear HH7 b8 d0 d3 a0 d6;go_wp2_with fail;go_roundw
      case rel=>exact⟨k+1,_,_,by omega,by go_num,f9,by rw[HA2.out];exact HH8,g0⟩
      case measure=>simp[intOf];omega
     ·have HA2:Hid (Z4 h (k+1)=hk):=by show _=_;rw[HN.out,HA.out,if_neg hcd]
      have g1:(Fw hk.sh x0.nm (K7 x0)==0)=false:=by simpa using hcd
      go_wp2_with fail;go_roundw
      case rel=>exact⟨k+1,_,_,by omega,by go_num,a8,by rw[HA2.out];exact HHc,c7⟩
      case measure=>simp[intOf];omega
  ·have HF:Hid (Z4 h h.bs.length=hk):=HE.out (by omega);clear e2 e3 e4;go_wp2_with fail;go_end0
   exact⟨rfl,by rw[HF.out];exact⟨_,_,_,_,by rw[Hnow.out.1,Hnow.out.2];exact kA,HH⟩,hB⟩
structure CP (W1:World) (h:House) (X:World) (k6 k9:Option Value) (k11:Option Nat):Prop where
 B:Up W1 X
 s6:∀v,k6=some v->S4 X W1.heap.size v h.sh
 s9:∀v,k9=some v->X.ownsRow W1.heap.size 74 3 v h.ds.length (F8 K0.cells h.ds)
 s11:∀y,k11=some y->X.ownsRow W1.heap.size 30 6 (.slice (some ⟨y,0,none⟩) 1 1) 1 [.int .i64 0,.int .i64 0,.slice none 0 0,.slice none 0 0,.slice none 0 0,.slice none 0 0]
theorem YY(W1:World)(h:House):CP W1 h W1 none none none:=⟨A5 _ _,λ_ h=>(by cases h),λ_ h=>(by cases h),λ_ h=>(by cases h)⟩
theorem CP.up(H:CP W1 h X k6 k9 k11)(hb:Up X X'):CP W1 h X' k6 k9 k11 :=
 ⟨D5 H.B hb,λv e=>(H.s6 v e).up hb,λv e=>E4 (H.s9 v e) hb,λy e=>E4 (H.s11 y e) hb⟩
theorem CP.call(H:CP W1 h X k6 k9 k11)(hb:Up X X')(hv:S4 X' X.heap.size v h.sh):CP W1 h X' (some v) k9 k11 :=
 {H.up hb with s6:=λu e=>by cases e;exact hv.low H.B.size}
theorem CP.list(H:CP W1 h X k6 k9 k11)(hb:Up X X')(hv:X'.ownsRow X.heap.size 74 3 v h.ds.length (F8 K0.cells h.ds)):CP W1 h X' k6 (some v) k11 :=
 {H.up hb with s9:=λu e=>by cases e;exact I8 hv H.B.size}
theorem CP.new(H:CP W1 h X k6 k9 k11):CP W1 h (X.alloc (Kz [Iz 0,Iz 0,Nz,Nz,Nz,Nz] 30)) k6 k9 (some X.heap.size) :=
 {H.up ((A5 _ _).alloc (A4 _) _) with s11:=λu e=>by cases e;exact C0 X _ 1 H.B.size (by unfold maxLen;omega) rfl}
structure CY (W1:World) (h:House) (X:World) (y:Nat) (tu bu xu du:Value):Prop where
 B:Up W1 X
 k:S4 X W1.heap.size (.agg #[tu,bu]) h.sh
 d:X.ownsRow W1.heap.size 74 3 du h.ds.length (F8 K0.cells h.ds)
 y:X.ownsRow W1.heap.size 30 6 (.slice (some ⟨y,0,none⟩) 1 1) 1 [.int .i64 h.now,.int .i64 h.last,tu,bu,xu,du]
theorem CY.up(H:CY W1 h X y tu bu xu du)(hb:Up X X'):CY W1 h X' y tu bu xu du :=
 ⟨D5 H.B hb,H.k.up hb,E4 H.d hb,E4 H.y hb⟩
theorem CY.row{n:Nat}(H:CY W1 h X y tu bu xu du)(hrow:X.ownsRow W1.heap.size 40 6 v n xs)(hg:X.grownBy X' v.ownBlock):CY W1 h X' y tu bu xu du :=
 ⟨L5 H.B H.B.size hrow hg (A4 _),H.k.step hrow (by decide) (by decide) hg,E5 H.d hg (E9 H.d hrow (by decide)),E5 H.y hg (E9 H.y hrow (by decide))⟩
theorem CY.put(H:CY W1 h X y tu bu xu du)(u:Value):CY W1 h (X.setCell ⟨y,4,none⟩ u) y tu bu u du:=by
 obtain⟨h1,h2⟩:=B4 H.y 4 u;have hg:X.grownBy (X.setCell ⟨y,4,none⟩ u) (Vz (some ⟨y,0,none⟩) 1 1).ownBlock:=h2;exact⟨L5 H.B H.B.size H.y hg (A4 _),H.k.step H.y (by decide) (by decide) hg,E5 H.d hg (E9 H.d H.y (by decide)),h1⟩
theorem CZ.off{base j:Nat}{u:Value}(H:CY W1 h X y tu bu xu du)(hr:CZ X base v ps):CZ (X.setCell ⟨y,j,none⟩ u) base v ps:=by
 have hg:X.grownBy (X.setCell ⟨y,j,none⟩ u) (Vz (some ⟨y,0,none⟩) 1 1).ownBlock:=(B4 H.y j u).2;exact hr.step H.y (by decide) (by decide) (by decide) hg
theorem CP.fin(H:CP W1 h X (some (.agg #[tu,bu])) (some du) (some y)):CY W1 h ((((((X.setCell ⟨y,0,none⟩ (Iz h.now)).setCell ⟨y,1,none⟩ (Iz h.last)).setCell ⟨y,2,none⟩ tu).setCell ⟨y,3,none⟩ bu).setCell ⟨y,4,none⟩ (Nz)).setCell ⟨y,5,none⟩ du) y tu bu (Nz) du:=by
 have a0:=H.s11 y rfl;have h1:=B4 a0 0 (Iz h.now);have h2:=B4 h1.1 1 (Iz h.last);have h3:=B4 h2.1 2 tu;have h4:=B4 h3.1 3 bu;have h5:=B4 h4.1 4 (Nz);have h6:=B4 h5.1 5 du;have hg:X.grownBy ((((((X.setCell ⟨y,0,none⟩ (Iz h.now)).setCell ⟨y,1,none⟩ (Iz h.last)).setCell ⟨y,2,none⟩ tu).setCell ⟨y,3,none⟩ bu).setCell ⟨y,4,none⟩ (Nz)).setCell ⟨y,5,none⟩ du) (Vz (some ⟨y,0,none⟩) 1 1).ownBlock:=E0 (E0 (E0 (E0 (E0 h1.2 h2.2) h3.2) h4.2) h5.2) h6.2;exact⟨L5 H.B H.B.size a0 hg (A4 _),(H.s6 _ rfl).step a0 (by decide) (by decide) hg,E5 (H.s9 _ rfl) hg (E9 (H.s9 _ rfl) a0 (by decide)),h6.1⟩
theorem Tn{ds:List K0}(h:0<ds.length->∃b o,a4=some ⟨b,o,none⟩/\GE w b o ds/\b<w.heap.size)(hb:Up w w')(hp:0<ds.length):∃b o,a4=some ⟨b,o,none⟩/\∀(i:Nat)(d:K0),ds[i]?=some d->w'.rangeAt b (o+i*3) (K0.cells d):=by
 obtain⟨b,o,rfl,hD,a0⟩:=h hp;refine⟨b,o,rfl,λi d hd j u hu=>?_⟩;rw[hb.cell (p:=⟨b,o+i*3+j,none⟩) a0];exact (hD i d hd).1 j u hu
theorem VA(h:House)(tv bv xv dv:Value)(w:World)(H:HV w h tv bv xv dv)(hz1:h.sh.tg.length<=100)(hz2:h.sh.bs.length<=100)(hz3:∀y∈h.sh.bs,y.has.length<=100/\y.nj.length<=100)(hnb:h.bs.length<=1048576)(hnd:h.ds.length<=1048576)(hpos:∀x∈h.bs,0<x.ps.length/\0<x.sl.length):
  Calls prog 123 #[.agg #[Iz h.now,Iz h.last,tv,bv,xv,dv]] w λe w'=>(∃tu bu xu du,e=.returned (.agg #[Iz h.now,Iz h.last,tu,bu,xu,du])/\HP w' w.heap.size h tu bu xu du)/\Up w w':=by
 have Hsz:=H.book.szb;obtain⟨a1,c1,a2,c2,a3,c3,a4,c4,rfl,rfl,rfl,rfl⟩:=H.shapes;obtain⟨W1,g1,kA,kR,g2,h7⟩:=cbE2 w (Hcz h a1 c1 a2 c2 a3 c3 a4 c4) 30 [Iz 0,Iz 0,Nz,Nz,Nz,Nz] 30;go_in;go_upto_region 1 with fail;try rw[g1]
 clear g1;have g5:w.heap.size<W1.heap.size:=by omega
 have g6:w.heap.size+1<W1.heap.size:=by omega
 have h9:w.heap.size<=W1.heap.size:=by omega
 clear h7;have H1:=H.up g2;have HB:Hid (Q6 W1 (.agg #[Vz a1 h.sh.tg.length c1,Vz a2 h.sh.bs.length c2]) h.sh):=H1.book
 have d6:Hid (0<h.ds.length->∃b o,a4=some ⟨b,o,none⟩/\GE W1 b o h.ds/\b<W1.heap.size):=by
  obtain⟨a,c,e,-,h2⟩:=H1.d;simp only[Value.slice.injEq] at e;obtain⟨rfl,-,-⟩:=e;exact h2
 have mk:∀w',Up W1 w'->Up W1 w'/\At w' w.heap.size 0 (Iz h.now)/\At w' w.heap.size 1 (Iz h.last)/\At w' w.heap.size 2 (Vz a1 h.sh.tg.length c1)/\At w' w.heap.size 3 (Vz a2 h.sh.bs.length c2)/\At w' w.heap.size 4 (Vz a3 h.bs.length c3)/\At w' w.heap.size 5 (Vz a4 h.ds.length c4):=λw' hb'=>by
  obtain⟨e0,e1,e2,e3,e4,e5⟩:=(kA.up hb' g5).c6;exact⟨hb',e0,e1,e2,e3,e4,e5⟩
 have Mk:Hid (∀w',Up W1 w'->Up W1 w'/\At w' w.heap.size 0 (Iz h.now)/\At w' w.heap.size 1 (Iz h.last)/\At w' w.heap.size 2 (Vz a1 h.sh.tg.length c1)/\At w' w.heap.size 3 (Vz a2 h.sh.bs.length c2)/\At w' w.heap.size 4 (Vz a3 h.bs.length c3)/\At w' w.heap.size 5 (Vz a4 h.ds.length c4)):=mk;clear mk;go_cut [3] (λv3 wc=>∃(Y:Nat)(tu bu du:Value),v3=Pz Y 0/\CY W1 h wc Y tu bu (Nz) du)
 case first =>
  have hC:CP W1 h W1.drew none none none:=(YY W1 h).up (A5 _ _).drew;refine F5 99 (λw'=>Up W1 w'/\At w' w.heap.size 0 (Iz h.now)/\At w' w.heap.size 1 (Iz h.last)/\At w' w.heap.size 2 (Vz a1 h.sh.tg.length c1)/\At w' w.heap.size 3 (Vz a2 h.sh.bs.length c2)/\At w' w.heap.size 4 (Vz a3 h.bs.length c3)/\At w' w.heap.size 5 (Vz a4 h.ds.length c4)) (by kernel_rfl) ?_;generalize W1.drew=X1 at hC ⊢
  have b2:=Mk.out _ hC.B;refine D6 0 rfl b2 ?_;refine D6 1 rfl b2 ?_;refine D6 2 rfl b2 ?_;refine D6 3 rfl b2 ?_;refine D6 4 rfl b2 ?_;refine D6 5 rfl b2 ?_;refine D6 7 rfl b2 ?_;refine D6 8 rfl b2 ?_;refine R4 (i:=6) (j:=11) (by kernel_rfl) rfl rfl (λK hK=>?_) (λK hK=>?_)
  ·(go_simp;go_wp2_with (go_at_call 161;refine (Fn h.sh _ _ (HB.out.up hC.B) hz1 hz2 hz3).mono ?_;rintro e X2 ⟨⟨t1,d1,t2,d2,g0,rfl,d0,d3,d4⟩,d5⟩;replace hC:=hC.call d5 ⟨t1,d1,t2,d2,g0,rfl,d0,d3,d4⟩;clear d0 d3 d4 d5);refine E6 hK (Mk.out _ hC.B) ?_;clear hK K)
   refine R4 (i:=9) (j:=11) (by kernel_rfl) rfl rfl (λK hK=>?_) (λK hK=>?_)
   ·(go_simp;go_wp2_with (go_at_call 162;refine (MI h.ds a4 c4 _ hnd (λhp=>Tn d6.out hC.B hp)).mono ?_;rintro e X3 ⟨⟨v9,rfl,a6⟩,b3⟩;replace hC:=hC.list b3 a6;obtain⟨a9,c9,rfl⟩:=I7 a6;clear a6 b3);refine E6 hK (Mk.out _ hC.B) ?_;clear hK K)
    refine D6 10 rfl (Mk.out _ hC.B) ?_;refine E7 11 rfl (λK hK=>?_)
    (go_simp;replace hC:=hC.new;refine E6 hK (Mk.out _ hC.B) ?_;clear hK K;generalize World.alloc _ (Kz [Iz 0,Iz 0,Nz,Nz,Nz,Nz] 30)=X4 at hC ⊢)
    (have kY:=O8 (hC.s11 _ rfl);obtain⟨j0,j1,j2,j3,j4,j5⟩:=kY.c6;obtain⟨m0,m1,m2,m3,m4,m5⟩:=kY.f6;replace hC:=hC.fin;refine E7 12 rfl (λK hK=>?_);go_simp;refine E6 hK (Mk.out _ hC.B) ?_;clear hK K j0 j1 j2 j3 j4 j5 m0 m1 m2 m3 m4 m5 kY;refine F0 (by kernel_rfl) ?_ _;go_wp2_with fail;go_meet;exact⟨_,_,_,_,rfl,hC⟩)
   ·(go_simp;replace hC:=hC.new;refine E6 hK (Mk.out _ hC.B) ?_;clear hK K;generalize World.alloc _ (Kz [Iz 0,Iz 0,Nz,Nz,Nz,Nz] 30)=X4 at hC ⊢)
    refine E7 9 rfl (λK hK=>?_)
    (go_simp;go_wp2_with (go_at_call 162;refine (MI h.ds a4 c4 _ hnd (λhp=>Tn d6.out hC.B hp)).mono ?_;rintro e X3 ⟨⟨v9,rfl,a6⟩,b3⟩;replace hC:=hC.list b3 a6;obtain⟨a9,c9,rfl⟩:=I7 a6;clear a6 b3);refine E6 hK (Mk.out _ hC.B) ?_;clear hK K)
    refine D6 10 rfl (Mk.out _ hC.B) ?_
    (have kY:=O8 (hC.s11 _ rfl);obtain⟨j0,j1,j2,j3,j4,j5⟩:=kY.c6;obtain⟨m0,m1,m2,m3,m4,m5⟩:=kY.f6;replace hC:=hC.fin;refine E7 12 rfl (λK hK=>?_);go_simp;refine E6 hK (Mk.out _ hC.B) ?_;clear hK K j0 j1 j2 j3 j4 j5 m0 m1 m2 m3 m4 m5 kY;refine F0 (by kernel_rfl) ?_ _;go_wp2_with fail;go_meet;exact⟨_,_,_,_,rfl,hC⟩)
  ·(go_simp;replace hC:=hC.new;refine E6 hK (Mk.out _ hC.B) ?_;clear hK K;generalize World.alloc _ (Kz [Iz 0,Iz 0,Nz,Nz,Nz,Nz] 30)=X4 at hC ⊢)
   refine E7 6 rfl (λK hK=>?_)
   (go_simp;go_wp2_with (go_at_call 161;refine (Fn h.sh _ _ (HB.out.up hC.B) hz1 hz2 hz3).mono ?_;rintro e X2 ⟨⟨t1,d1,t2,d2,g0,rfl,d0,d3,d4⟩,d5⟩;replace hC:=hC.call d5 ⟨t1,d1,t2,d2,g0,rfl,d0,d3,d4⟩;clear d0 d3 d4 d5);refine E6 hK (Mk.out _ hC.B) ?_;clear hK K)
   refine E7 9 rfl (λK hK=>?_)
   (go_simp;go_wp2_with (go_at_call 162;refine (MI h.ds a4 c4 _ hnd (λhp=>Tn d6.out hC.B hp)).mono ?_;rintro e X3 ⟨⟨v9,rfl,a6⟩,b3⟩;replace hC:=hC.list b3 a6;obtain⟨a9,c9,rfl⟩:=I7 a6;clear a6 b3);refine E6 hK (Mk.out _ hC.B) ?_;clear hK K)
   refine D6 10 rfl (Mk.out _ hC.B) ?_
   (have kY:=O8 (hC.s11 _ rfl);obtain⟨j0,j1,j2,j3,j4,j5⟩:=kY.c6;obtain⟨m0,m1,m2,m3,m4,m5⟩:=kY.f6;replace hC:=hC.fin;refine E7 12 rfl (λK hK=>?_);go_simp;refine E6 hK (Mk.out _ hC.B) ?_;clear hK K j0 j1 j2 j3 j4 j5 m0 m1 m2 m3 m4 m5 kY;refine F0 (by kernel_rfl) ?_ _;go_wp2_with fail;go_meet;exact⟨_,_,_,_,rfl,hC⟩)
 case rest =>
  obtain⟨Y,tu,bu,du,rfl,hX⟩:=hcut;clear Mk HB d6
  have i0:Hid (0<h.bs.length->∃b o,a3=some ⟨b,o,none⟩/\El W1 b o h.bs/\b<W1.heap.size):=by
   obtain⟨a,c,e,-,h2⟩:=H1.x;simp only[Value.slice.injEq] at e;obtain⟨rfl,-,-⟩:=e;exact h2
  have Hz:Hid (Y0 h.sh):=Hsz;have Hpos:Hid (∀x∈h.bs,0<x.ps.length/\0<x.sl.length):=hpos;have Hdz:Hid (∀d∈h.ds,d.nm.size<=maxLen):=H1.d.sized;clear H H1 Hsz hnd hz1 hz2 hz3 hpos;obtain⟨h8,d8,r0,r1,r2⟩:=info_parts Ij;obtain⟨e0,e1,e2,e3,e4,e5⟩:=(kA.up hX.B g5).c6;go_upto_region 3 with fail;clear e0 e1 e2 e3 e4 e5;(try dsimp only[Iz,Sz,Sy,Nz,Vz,Tz,Ez,Pz]);go_loopw [20] (λi w'=>∃(k:Nat)(ps:List Rv)(xu:Value),k<=h.bs.length/\i=.int .i64 k/\ps.map (·.1)=h.bs.take k/\CY W1 h w' Y tu bu xu du/\CZ w' W1.heap.size xu ps) (λi _=>h.bs.length-(intOf i).toNat)
  case atStart=>exact⟨0,[],Nz,by omega,rfl,by simp,hX,⟨B9 _ _ _ _,λp hp=>by simp at hp⟩,by simp,by simp⟩
  case round =>
   clear hX;obtain⟨k,ps,xu,hk,rfl,d9,hX,hW⟩:=hrel;have Hps:Hid (ps.map (·.1)=h.bs.take k):=d9;have g7:ps.length=k:=by have:=congrArg List.length d9;simp at this;omega
   clear d9;by_cases hp:k<h.bs.length
   ·obtain⟨bb,o,rfl,hS,hb⟩:=i0.out (by omega);obtain⟨p,q,c,g,r,d,⟨q0,q1,q2,q3,q4,q5⟩,hv⟩:=((hS.at hp).up hX.B hb).open;have HX:Hid (h.bs.take (k+1)=h.bs.take k++[h.bs[k]]):=A8 hp;have g8:=Hpos.out _ (List.getElem_mem hp);have i3:=hX.B.size;generalize h.bs[k]=x0 at *;have HltN:Hid (∀g,xu.ownBlock=some g->g<wr.heap.size):=λg e=>(hW.1.1.lt g e).2;go_upto_region 5 with fail;clear q0 q1 q2 q3 q4 q5;obtain⟨V,hV,kB,e6⟩:∃V,wr.alloc (Kz [Tz x0.nm,Sy p q x0.ps.length c,Sy g r x0.sl.length d,Tz x0.ad,Iz x0.si,Iz x0.st] 40)=V/\CB V wr.heap.size [Tz x0.nm,Sy p q x0.ps.length c,Sy g r x0.sl.length d,Tz x0.ad,Iz x0.si,Iz x0.st]/\Up wr V:=⟨_,rfl,F3 wr _ _,(A5 _ _).alloc (A4 _) _⟩;try rw[hV]
    have g9:=hX.up e6;have b7:=hW.up e6;have h0:=hv.up e6;clear hV hX hW hv;generalize hN:wr.heap.size=N at *;have i4:N<V.heap.size:=kB.2.2;have b8:CY W1 h V.drew Y tu bu xu du:=g9.up (A5 _ _).drew;have b9:=b7.up (A5 _ _).drew;have e7:=h0.up (A5 _ _).drew;have a7:=kB.up (A5 _ _).drew kB.2.2;have c0:At V.drew N 0 (Tz x0.nm)/\At V.drew N 1 (Sy p q x0.ps.length c)/\At V.drew N 2 (Sy g r x0.sl.length d)/\At V.drew N 3 (Tz x0.ad)/\At V.drew N 4 (Iz x0.si)/\At V.drew N 5 (Iz x0.st)/\At V.drew Y 4 xu:=⟨a7.c6.1,a7.c6.2.1,a7.c6.2.2.1,a7.c6.2.2.2.1,a7.c6.2.2.2.2.1,a7.c6.2.2.2.2.2,(O8 b8.y).c6.2.2.2.2.1⟩;refine F5 7 (λw'=>At w' N 0 (Tz x0.nm)/\At w' N 1 (Sy p q x0.ps.length c)/\At w' N 2 (Sy g r x0.sl.length d)/\At w' N 3 (Tz x0.ad)/\At w' N 4 (Iz x0.si)/\At w' N 5 (Iz x0.st)/\At w' Y 4 xu) (by kernel_rfl) ?_;clear g9 b7 h0 kB;generalize V.drew=X1 at b8 b9 e7 a7 c0 ⊢
    refine D6 0 rfl c0 ?_;refine D6 1 rfl c0 ?_;refine D6 2 rfl c0 ?_;refine E7 3 rfl (λK hK=>?_);go_simp;go_wp2_with (go_at_call 74;refine (Nt x0 _ _ _ e7 g8.1 g8.2).mono ?_;rintro e X3 ⟨⟨ru,su,rfl,b6⟩,d7⟩)
    have e8:=b8.up d7;have h1:=b9.up d7;have a8:=a7.up d7 a7.2.2;have h3:At X3 N 0 (Tz x0.nm)/\At X3 N 1 (Sy p q x0.ps.length c)/\At X3 N 2 (Sy g r x0.sl.length d)/\At X3 N 3 (Tz x0.ad)/\At X3 N 4 (Iz x0.si)/\At X3 N 5 (Iz x0.st)/\At X3 Y 4 xu:=⟨a8.c6.1,a8.c6.2.1,a8.c6.2.2.1,a8.c6.2.2.2.1,a8.c6.2.2.2.2.1,a8.c6.2.2.2.2.2,(O8 e8.y).c6.2.2.2.2.1⟩;have c5:=b6.low b8.B.size
    have Hap1:Hid (∀v∈ps.map (·.2.1),Ap v ru):=λv hv=>by
     obtain⟨y,hy,rfl⟩:=List.mem_map.1 hv;exact Mm (b9.1.2 y hy).r b6.r (A4 _)
    have Hap2:Hid (∀v∈ps.map (·.2.2),Ap v su):=λv hv=>by
     obtain⟨y,hy,rfl⟩:=List.mem_map.1 hv;exact Mm (b9.1.2 y hy).s b6.s (A4 _)
    obtain⟨g3,n3,m3,ee⟩:NN ru:=b6.nr;obtain⟨g4,n4,m4,ef⟩:NN su:=b6.ns;subst ee ef;clear b8 b9 e7 a7 c0 b6;refine E6 hK h3 ?_;clear hK K;have a0:Up X3 (X3.alloc (Kz [Tz x0.nm,Sz g3 n3 m3,Sz g4 n4 m4,Tz x0.ad,Iz x0.si,Iz x0.st] 40)):=(A5 _ _).alloc (A4 _) _;have c7:=e8.up a0;have b4:=h1.up a0;have b0:=c5.up a0;have b1:=a8.up a0 a8.2.2;have f7:World.cell? (X3.alloc (Kz [Tz x0.nm,Sz g3 n3 m3,Sz g4 n4 m4,Tz x0.ad,Iz x0.si,Iz x0.st] 40)) ⟨N,0,none⟩=some (Tz x0.nm)/\World.cell? (X3.alloc (Kz [Tz x0.nm,Sz g3 n3 m3,Sz g4 n4 m4,Tz x0.ad,Iz x0.si,Iz x0.st] 40)) ⟨N,1,none⟩=some (Sy p q x0.ps.length c)/\World.cell? (X3.alloc (Kz [Tz x0.nm,Sz g3 n3 m3,Sz g4 n4 m4,Tz x0.ad,Iz x0.si,Iz x0.st] 40)) ⟨N,2,none⟩=some (Sy g r x0.sl.length d)/\World.cell? (X3.alloc (Kz [Tz x0.nm,Sz g3 n3 m3,Sz g4 n4 m4,Tz x0.ad,Iz x0.si,Iz x0.st] 40)) ⟨N,3,none⟩=some (Tz x0.ad)/\World.cell? (X3.alloc (Kz [Tz x0.nm,Sz g3 n3 m3,Sz g4 n4 m4,Tz x0.ad,Iz x0.si,Iz x0.st] 40)) ⟨N,4,none⟩=some (Iz x0.si)/\World.cell? (X3.alloc (Kz [Tz x0.nm,Sz g3 n3 m3,Sz g4 n4 m4,Tz x0.ad,Iz x0.si,Iz x0.st] 40)) ⟨N,5,none⟩=some (Iz x0.st)/\World.cell? (X3.alloc (Kz [Tz x0.nm,Sz g3 n3 m3,Sz g4 n4 m4,Tz x0.ad,Iz x0.si,Iz x0.st] 40)) ⟨Y,4,none⟩=some xu:=⟨b1.c6.1,b1.c6.2.1,b1.c6.2.2.1,b1.c6.2.2.2.1,b1.c6.2.2.2.2.1,b1.c6.2.2.2.2.2,(O8 c7.y).c6.2.2.2.2.1⟩;have a5:∀(j:Nat)(u:Value),(Q7 (x0,Sz g3 n3 m3,Sz g4 n4 m4))[j]?=some u->(X3.alloc (Kz [Tz x0.nm,Sz g3 n3 m3,Sz g4 n4 m4,Tz x0.ad,Iz x0.si,Iz x0.st] 40)).cell? ((⟨X3.heap.size,0,none⟩:Addr).add j)=some u:=λj u hj=>Oh _ _ _ _ _ _ _ _ hj;clear e8 h1 c5 h3 a8;refine E7 4 rfl (λK hK=>?_);go_simp;refine E6 hK f7 ?_;clear hK K;clear a0;generalize X3.alloc (Kz [Tz x0.nm,Sz g3 n3 m3,Sz g4 n4 m4,Tz x0.ad,Iz x0.si,Iz x0.st] 40)=X4 at c7 b4 b0 f7 a5 b1 ⊢
    refine E7 5 rfl (λK hK=>?_);refine J0 rfl _ _ 27 rfl W1.heap.size 40 h8 _ 6 96 underlying27 d8 r0 r1 r2 rfl (by decide) xu _ _ rfl b4.1.1 ⟨X3.heap.size,0,none⟩ 1 1 (Q7 (x0,Sz g3 n3 m3,Sz g4 n4 m4)) rfl rfl a5 (Gi b0) (by unfold maxLen;omega) (by omega) c7.B.size ?_;intro v5 X5 hown5 hgr5;have c8:=c7.row b4.1.1 hgr5;have h4:CZ X5 W1.heap.size v5 (ps++[(x0,Sz g3 n3 m3,Sz g4 n4 m4)]):=⟨b4.1.app b0 hgr5 hown5,by rw[List.map_append];exact KD b4.2.1 Hap1.out,by rw[List.map_append];exact KD b4.2.2 Hap2.out⟩;have b5:=b1.kept hgr5 (λe=>by have:=HltN.out N e.symm;omega);have f8:At X5 N 0 (Tz x0.nm)/\At X5 N 1 (Sy p q x0.ps.length c)/\At X5 N 2 (Sy g r x0.sl.length d)/\At X5 N 3 (Tz x0.ad)/\At X5 N 4 (Iz x0.si)/\At X5 N 5 (Iz x0.st)/\At X5 Y 4 xu:=⟨b5.c6.1,b5.c6.2.1,b5.c6.2.2.1,b5.c6.2.2.2.1,b5.c6.2.2.2.2.1,b5.c6.2.2.2.2.2,(O8 c8.y).c6.2.2.2.2.1⟩;obtain⟨gg,cc,rfl⟩:=I6 hown5 (by omega);clear hown5 hgr5 c7 b4 b0 f7 a5 b1 b5;refine E6 hK f8 ?_;clear hK K;refine D6 6 rfl f8 ?_;have h5:=c8.put (Sz gg (ps.length+1) cc);have h6:=CZ.off (j:=4) (u:=Sz gg (ps.length+1) cc) c8 h4;have kY:=O8 c8.y;obtain⟨j0,j1,j2,j3,j4,j5⟩:=kY.c6;obtain⟨l0,l1,l2,l3,l4,l5⟩:=kY.f6;refine E7 7 rfl (λK hK=>?_);go_simp;refine Bf hK ?_;clear hK K;refine F0 (by kernel_rfl) ?_ _
    have HM:Hid ((ps++[((x0,Sz g3 n3 m3,Sz g4 n4 m4):Rv)]).map (·.1)=h.bs.take (k+1)):=by
     show _=_
     rw[HX.out,List.map_append,Hps.out];rfl
    clear c8 h4 f8 kY j0 j1 j2 j3 j4 j5 l0 l1 l2 l3 l4 l5 hS d7;go_wp2_with fail;go_roundw
    case rel =>
     rw[g7] at h5 h6;exact⟨k+1,_,_,by omega,by go_num,HM.out,h5,h6⟩
    case measure=>simp[intOf];omega
   ·obtain rfl:k=h.bs.length:=by omega
    have f9:=kR.up hX.B g6;obtain⟨y0,y1,y2,y3,y4,y5⟩:=f9.c6;obtain⟨f0,f1,f2,f3,f4,f5⟩:=f9.f6;have kY:=O8 hX.y;obtain⟨j0,j1,j2,j3,j4,j5⟩:=kY.c6;have Hps2:Hid (ps.map (·.1)=h.bs):=by show _=_;rw[Hps.out,List.take_length]
    have i1:=D5 g2 (hX.B.mono (A4 _));obtain⟨t1,d1,t2,d2,e9⟩:=hX.k.shape;simp only[Value.agg.injEq,Array.mk.injEq,List.cons.injEq,and_true] at e9;obtain⟨rfl,rfl⟩:=e9;obtain⟨ax,cx,rfl⟩:=I7 hW.1.1;obtain⟨ad,cd,rfl⟩:=I7 hX.d;clear g7;go_wp2_with fail;refine N8 results123 underlying30 rfl G6 f9 rfl ?_;have i2:=G3 wr (w.heap.size+1) (Iz h.now) (Iz h.last) (Vz t1 h.sh.tg.length d1) (Vz t2 h.sh.bs.length d2) (Vz ax ps.length cx) (Vz ad h.ds.length cd);refine⟨⟨_,_,_,_,rfl,?_⟩,I9 i1 (by omega) _ _ _ _ _ _⟩;exact ((⟨hX.k,Hz.out,⟨ps,hW,Hps2.out⟩,hX.d,Hdz.out⟩:HP wr W1.heap.size h _ _ _ _).gr i2 g6).low h9
end Go.Proofs.YtmonodehegcfhaaGreatDoor
