/- The specification's RunSay (chapter 23). -/
import Derived.Test.YtmonodehegcfhaaGreatDoorJ34
namespace Go.Proofs.YtmonodehegcfhaaGreatDoor
open Go.Proofs.Tryz
open Go.RowKit
variable{nm:BA}{h:House}{bs:List Rb}{base:Nat}{W w:World}
theorem Vb(h:E3 (K1 bs) nm=true):∃(k:Nat)(x:Rb),bs[k]?=some x/\T5 (K1 bs) nm=(k:Int):=by
 have h0:T5 (K1 bs) nm=((K1 bs).findIdx λx=>x.toList==nm.toList:Nat):=by rw[T5,if_pos h]
 have h1:((K1 bs).findIdx λx=>x.toList==nm.toList)<(K1 bs).length:=by
  rw[List.findIdx_lt_length];unfold E3 at h;rw[List.any_eq_true] at h;exact h
 rw[AK] at h1;exact⟨_,bs[_]'h1,A0 h1,h0⟩
def Lr(p:Ph)(well:Bool):BA:=if well=true then p.t else p.e
def Mi(x:Rb)(p:Ph)(well:Bool):Prop:=x.si<0∨(well=true/\p.k=3/\x.si<p.n)
def Jj(h:House)(nm:BA)(well:Bool)(cd:Int)(h':House):Prop :=
 (¬F6 h/\cd=1/\h'=N9)∨(F6 h/\E3 (K1 h.bs) nm=false/\cd=3/\h'=h)∨
 ∃(k:Nat)(x:Rb),F6 h/\h.bs[k]?=some x/\T5 (K1 h.bs) nm=(k:Int)/\((Mi x (AF x.ps x.ad) well/\cd=6/\h'=h)∨
  (¬Mi x (AF x.ps x.ad) well/\cd=0/\S3 (AB h k (Lr (AF x.ps x.ad) well)) (AB h k (Lr (AF x.ps x.ad) well)).bs.length h'))
theorem Jk{tv bv xv dv:Value}(H:HW W base h tv bv xv dv)(kR:W.ownsRow w.heap.size 30 6 (Sz (w.heap.size+1) 1 1) 1 [Iz 0,Iz 0,Nz,Nz,Nz,Nz])(hb:w.heap.size<=base)(y0 y1:Value):HX ((((((W.setCell ⟨w.heap.size+1,0,none⟩ y0).setCell ⟨w.heap.size+1,1,none⟩ y1).setCell ⟨w.heap.size+1,2,none⟩ tv).setCell ⟨w.heap.size+1,3,none⟩ bv).setCell ⟨w.heap.size+1,4,none⟩ xv).setCell ⟨w.heap.size+1,5,none⟩ dv) w.heap.size h tv bv xv dv :=
 .inl ((H.box kR (G3 W (w.heap.size+1) y0 y1 tv bv xv dv)).low hb)
set_option maxRecDepth 20000 in
set_option maxHeartbeats 8000000 in
theorem WR(h:House)(tv bv xv dv:Value)(nm:BA)(well:Bool)(w:World)(H:HV w h tv bv xv dv):
  Calls prog 155 #[.agg #[Iz h.now,Iz h.last,tv,bv,xv,dv],Tz nm,.bool well] w λe w'=>(∃h' tu bu xu du cd,e=.returned (.tuple #[.agg #[Iz h'.now,Iz h'.last,tu,bu,xu,du],Iz cd])/\Jj h nm well cd h'/\Gl h'/\HX w' w.heap.size h' tu bu xu du)/\Up w w':=by
 obtain⟨a1,c1,a2,c2,a3,c3,a4,c4,rfl,rfl,rfl,rfl⟩:=H.shapes;obtain⟨W1,i6,kA,kR,f7⟩:∃W1,(w.alloc (.cells (Hcz h a1 c1 a2 c2 a3 c3 a4 c4).toArray 30)).alloc (Kz [Iz 0,Iz 0,Nz,Nz,Nz,Nz] 30)=W1/\W1.ownsRow w.heap.size 30 6 (Sz w.heap.size 1 1) 1 (Hcz h a1 c1 a2 c2 a3 c3 a4 c4)/\W1.ownsRow w.heap.size 30 6 (Sz (w.heap.size+1) 1 1) 1 [Iz 0,Iz 0,Nz,Nz,Nz,Nz]/\Up w W1:=⟨_,rfl,DM w (Hcz h a1 c1 a2 c2 a3 c3 a4 c4) [Iz 0,Iz 0,Nz,Nz,Nz,Nz] rfl rfl⟩;go_in;go_upto_region 1 with fail;try rw[i6]
 clear i6;have H1:=H.up f7;obtain⟨e0,e1,e2,e3,e4,e5⟩:=(D7 kA).c6;have a5:=Ep h _ _ _ _ W1 H1;by_cases hk:F6 h
 case neg =>
  rw[I5 hk] at a5;have HI:Hid (Jj h nm well 1 N9):=.inl ⟨hk,rfl,rfl⟩;go_upto_region 2 with (go_at_call 9;refine a5.mono ?_;rintro e w2 ⟨rfl,a6⟩)
  have b8:=E4 kR a6;obtain⟨y0,y1,y2,y3,y4,y5⟩:=(D7 b8).c6;obtain⟨f0,f1,f2,f3,f4,f5⟩:=(D7 b8).f6;have g1:=D5 f7 a6;clear a5 a6;go_wp2_with fail;refine R7 results155 underlying30 rfl G6 (D7 b8) rfl rfl ?_;exact⟨⟨N9,_,_,_,_,1,rfl,HI.out,Ln,MH _ _⟩,I9 g1 (by omega) _ _ _ _ _ _⟩
 have HK:Hid (F6 h):=hk;obtain⟨c7,m9,g4⟩:=hk.tiny;rw[L9 hk] at a5;clear hk;go_upto_region 3 with (go_at_call 9;refine a5.mono ?_;rintro e w2 ⟨rfl,a6⟩)
 have h0:=E4 kA a6;have b8:=E4 kR a6;have g1:=D5 f7 a6;have H2:=H1.up a6;clear a5 a6 e0 e1 e2 e3 e4 e5 kA kR H1 H f7;obtain⟨e0,e1,e2,e3,e4,e5⟩:=(D7 h0).c6;have b1:=Cv h _ _ _ _ w2 H2 (by have:=c7.1;omega) (by have:=c7.2.1;omega) (λy hy=>by have:=c7.2.2 y hy;omega) (by omega) (by omega);go_upto_region 4 with (go_at_call 25;refine b1.mono ?_;rintro e w3 ⟨⟨tu,bu,xu,du,rfl,H3⟩,i3⟩;obtain⟨p1,q1,p2,q2,p3,q3,p4,q4,rfl,rfl,rfl,rfl⟩:=H3.v.shapes)
 obtain⟨W4,i7,kX,f8⟩:∃W4,w3.alloc (.cells (Hcz h p1 q1 p2 q2 p3 q3 p4 q4).toArray 30)=W4/\W4.ownsRow w3.heap.size 30 6 (Sz w3.heap.size 1 1) 1 (Hcz h p1 q1 p2 q2 p3 q3 p4 q4)/\Up w3 W4:=⟨_,rfl,C0 w3 _ 1 (A4 _) (by unfold maxLen;omega) rfl,(A5 _ _).alloc (A4 _) _⟩;try rw[i7]
 have a8:=D5 i3 f8;have H4:=H3.up f8;have h4:=E4 h0 a8;have h5:=E4 b8 a8;have h7:=D5 g1 a8;have n1:w.heap.size+1<w2.heap.size:=(b8.lt _ rfl).2;have n2:=i3.size;have n3:=f8.size;have Hv4:=H2.up a8;clear i7 b1 e0 e1 e2 e3 e4 e5 H3 H2 i3 f8 a8 h0 b8 g1;obtain⟨e0,e1,e2,e3,e4,e5⟩:=(D7 h4).c6;have d0:=Pr h _ _ _ _ nm W4 Hv4;cases hme:E3 (K1 h.bs) nm
 ·rw[AN hme] at d0;have HI:Hid (Jj h nm well 3 h):=.inr (.inl ⟨HK.out,hme,rfl,rfl⟩);go_upto_region 6 with (go_at_call 45;refine d0.mono ?_;rintro e W5 ⟨rfl,a0⟩)
  have a7:=E4 h5 a0;have g2:=E4 kX a0;have H5:=H4.up a0;have b2:=D5 h7 a0;clear d0 e0 e1 e2 e3 e4 e5 a0;obtain⟨i8,i9,j8,j9,k0,k1⟩:=(D7 g2).c6;obtain⟨y0,y1,y2,y3,y4,y5⟩:=(D7 a7).c6;obtain⟨f0,f1,f2,f3,f4,f5⟩:=(D7 a7).f6;go_wp2_with fail;refine R7 results155 underlying30 rfl G6 (D7 a7) rfl rfl ?_
  exact⟨⟨h,_,_,_,_,3,rfl,HI.out,⟨c7,by omega,by omega⟩,Jk H5 a7 (by omega) _ _⟩,I9 b2 (by omega) _ _ _ _ _ _⟩
 obtain⟨k,x0,g5,b3⟩:=Vb hme;have HID:Hid (T5 (K1 h.bs) nm=(k:Int)):=b3;rw[b3] at d0;clear b3 hme;have Hx0:Hid (h.bs[k]?=some x0):=g5;have k5:k<h.bs.length:=(A3.1 g5).1;clear g5;go_upto_region 7 with (go_at_call 45;refine d0.mono ?_;rintro e W5 ⟨rfl,a0⟩)
 have k6:=E4 h4 a0;have a7:=E4 h5 a0;have g2:=E4 kX a0;have H5:=H4.up a0;have Hv5:=Hv4.up a0;have b2:=D5 h7 a0;have d1:=a0.size;clear d0 e0 e1 e2 e3 e4 e5 a0 h4 h5 kX H4 Hv4 h7;obtain⟨-,d6⟩:=Hv5.x.inv rfl;obtain⟨bb,ob,rfl,k2,n0⟩:=d6 (by omega);obtain⟨b,o,c,gs,qs,d,⟨q0,l0,l1,l2,l3,l5⟩,hv⟩:=(k2 k x0 Hx0.out).open;obtain⟨-,-,-,-,e4,-⟩:=(D7 k6).c6;have h8:=HK.out.batch Hx0.out;have h9:=h8.2.1;obtain⟨j,hj,g6⟩:=EH h8.2.2.2.2.1;have Hph:Hid (AF x0.ps x0.ad=x0.ps[j]):=EB hj g6;have np:=hv.np;have i0:=λW (hW:M2 W b o x0.ps)=>Bb x0.ps b o c x0.ad W hW np;rw[g6] at i0;have Hat:Hid (∀W,M2 W b o x0.ps->Calls prog 77 #[Sy b o x0.ps.length c,Tz x0.ad] W λe w'=>e=.returned (Iz (j:Int))/\w'=W):=i0;obtain⟨b9,o9,c9,e9,hr,hb,-,-⟩:=hv.r;simp only[Value.slice.injEq,Option.some.injEq,Addr.mk.injEq,and_true,true_and] at e9;obtain⟨⟨rfl,rfl⟩,rfl⟩:=e9;clear i0 g6 h8 k2 d6;go_upto_region 8 with fail;obtain⟨W2,k3,kL,a9⟩:∃W2,W5.alloc (Kz [Tz x0.nm,Sy b o x0.ps.length c,Sy gs qs x0.sl.length d,Tz x0.ad,Iz x0.si,Iz x0.st] 40)=W2/\CB W2 W5.heap.size [Tz x0.nm,Sy b o x0.ps.length c,Sy gs qs x0.sl.length d,Tz x0.ad,Iz x0.si,Iz x0.st]/\Up W5 W2:=⟨_,rfl,F3 W5 _ _,(A5 _ _).alloc (A4 _) _⟩;try rw[k3]
 clear k3 q0 l0 l1 l2 l3 l5 e4;have Hr:Hid (M2 W2 b o x0.ps):=hr.up a9 hb;have a6:b<W2.heap.size:=A2 hb a9.size;have d8:W5.heap.size<W2.heap.size:=kL.2.2;obtain⟨r0,r1,r2,r3,r4,r5,r6,r7⟩:=Hr.out.cells j hj;generalize x0.ps[j]=p at *
 have mk:∀w',Up W2 w'->Up W2 w'/\At w' W5.heap.size 1 (Sy b o x0.ps.length c)/\At w' W5.heap.size 3 (Tz x0.ad)/\At w' b (o+j*8) (Tz p.nm)/\At w' b (o+j*8+1) (Iz p.k)/\At w' b (o+j*8+2) (Tz p.a)/\At w' b (o+j*8+3) (Tz p.b)/\At w' b (o+j*8+4) (Iz p.n)/\At w' b (o+j*8+5) (Iz p.wi)/\At w' b (o+j*8+6) (Tz p.t)/\At w' b (o+j*8+7) (Tz p.e):=λw' hb'=>by
  obtain⟨z0,z1,z2,z3,z4,z5⟩:=(kL.up hb' d8).c6;exact⟨hb',z1,z3,(hb'.cell (p:=⟨b,o+j*8,none⟩) a6).trans r0,(hb'.cell (p:=⟨b,o+j*8+1,none⟩) a6).trans r1,(hb'.cell (p:=⟨b,o+j*8+2,none⟩) a6).trans r2,(hb'.cell (p:=⟨b,o+j*8+3,none⟩) a6).trans r3,(hb'.cell (p:=⟨b,o+j*8+4,none⟩) a6).trans r4,(hb'.cell (p:=⟨b,o+j*8+5,none⟩) a6).trans r5,(hb'.cell (p:=⟨b,o+j*8+6,none⟩) a6).trans r6,(hb'.cell (p:=⟨b,o+j*8+7,none⟩) a6).trans r7⟩
 have Mk:Hid (∀w',Up W2 w'->Up W2 w'/\At w' W5.heap.size 1 (Sy b o x0.ps.length c)/\At w' W5.heap.size 3 (Tz x0.ad)/\At w' b (o+j*8) (Tz p.nm)/\At w' b (o+j*8+1) (Iz p.k)/\At w' b (o+j*8+2) (Tz p.a)/\At w' b (o+j*8+3) (Tz p.b)/\At w' b (o+j*8+4) (Iz p.n)/\At w' b (o+j*8+5) (Iz p.wi)/\At w' b (o+j*8+6) (Tz p.t)/\At w' b (o+j*8+7) (Tz p.e)):=mk;clear mk r0 r1 r2 r3 r4 r5 r6 r7;go_cut [11] (λv11 wc=>∃Y:Nat,v11=Pz Y 0/\CB wc Y [Tz p.nm,Iz p.k,Tz p.a,Tz p.b,Iz p.n,Iz p.wi,Tz p.t,Tz p.e]/\Up W2 wc)
 case first =>
  have hC:Up W2 W2.drew:=(A5 _ _).drew;refine F5 99 (λw'=>Up W2 w'/\At w' W5.heap.size 1 (Sy b o x0.ps.length c)/\At w' W5.heap.size 3 (Tz x0.ad)/\At w' b (o+j*8) (Tz p.nm)/\At w' b (o+j*8+1) (Iz p.k)/\At w' b (o+j*8+2) (Tz p.a)/\At w' b (o+j*8+3) (Tz p.b)/\At w' b (o+j*8+4) (Iz p.n)/\At w' b (o+j*8+5) (Iz p.wi)/\At w' b (o+j*8+6) (Tz p.t)/\At w' b (o+j*8+7) (Tz p.e)) (by kernel_rfl) ?_;generalize W2.drew=X1 at hC ⊢
  have hX:W2.heap.size<=X1.heap.size:=hC.size;have c0:=Mk.out _ hC;refine D6 0 rfl c0 ?_;refine D6 1 rfl c0 ?_;refine D6 2 rfl c0 ?_;refine D6 3 rfl c0 ?_;refine D6 4 rfl c0 ?_;refine D6 5 rfl c0 ?_;clear c0;refine R4 (i:=6) (j:=9) (by kernel_rfl) rfl rfl (λK hK=>?_) (λK hK=>?_)
  ·(go_simp;go_wp2_with (go_at_call 77;refine (Hat.out _ (Hr.out.up hC a6)).mono ?_;rintro e X2 ⟨rfl,hw⟩;obtain rfl:=hw.symm;clear hw);refine E6 hK (Mk.out _ hC) ?_;clear hK K;(refine D6 7 rfl (Mk.out _ hC) ?_);(refine D6 8 rfl (Mk.out _ hC) ?_))
   refine E7 9 rfl (λK hK=>?_)
   (go_simp;have kY:=F3 X1 [Ez,Iz 0,Ez,Ez,Iz 0,Iz 0,Ez,Ez] 43;replace hC:Up W2 (X1.alloc (Kz [Ez,Iz 0,Ez,Ez,Iz 0,Iz 0,Ez,Ez] 43)):=hC.alloc hC.size _;have hy:=hX;refine E6 hK (Mk.out _ hC) ?_;clear hK K;have kY:CB (X1.alloc (Kz [Ez,Iz 0,Ez,Ez,Iz 0,Iz 0,Ez,Ez] 43)) X1.heap.size [Ez,Iz 0,Ez,Ez,Iz 0,Iz 0,Ez,Ez]:=kY;generalize X1.alloc (Kz [Ez,Iz 0,Ez,Ez,Iz 0,Iz 0,Ez,Ez] 43)=X4 at hC kY ⊢)
   (obtain⟨⟨j0,j1,j2,j3,j4,j5,j6,j7⟩,m0,m1,m2,m3,m4,m5,m6,m7⟩:=kY.c8;have kF:=kY.copy8 (Tz p.nm) (Iz p.k) (Tz p.a) (Tz p.b) (Iz p.n) (Iz p.wi) (Tz p.t) (Tz p.e);have hF:=Db hC hy (Tz p.nm) (Iz p.k) (Tz p.a) (Tz p.b) (Iz p.n) (Iz p.wi) (Tz p.t) (Tz p.e);refine E7 10 rfl (λK hK=>?_);go_simp;refine E6 hK (Mk.out _ hF) ?_;clear hK K j0 j1 j2 j3 j4 j5 j6 j7 m0 m1 m2 m3 m4 m5 m6 m7 kY;(try simp only[Act.put,List.setIfInBounds_toArray,List.set_cons_zero,List.set_cons_succ]);refine F0 (by kernel_rfl) ?_ _;go_wp2_with fail;go_meet;exact⟨_,rfl,kF,hF⟩)
  ·(go_simp;have kY:=F3 X1 [Ez,Iz 0,Ez,Ez,Iz 0,Iz 0,Ez,Ez] 43;replace hC:Up W2 (X1.alloc (Kz [Ez,Iz 0,Ez,Ez,Iz 0,Iz 0,Ez,Ez] 43)):=hC.alloc hC.size _;have hy:=hX;refine E6 hK (Mk.out _ hC) ?_;clear hK K;have kY:CB (X1.alloc (Kz [Ez,Iz 0,Ez,Ez,Iz 0,Iz 0,Ez,Ez] 43)) X1.heap.size [Ez,Iz 0,Ez,Ez,Iz 0,Iz 0,Ez,Ez]:=kY;generalize X1.alloc (Kz [Ez,Iz 0,Ez,Ez,Iz 0,Iz 0,Ez,Ez] 43)=X4 at hC kY ⊢)
   refine E7 6 rfl (λK hK=>?_)
   (go_simp;go_wp2_with (go_at_call 77;refine (Hat.out _ (Hr.out.up hC a6)).mono ?_;rintro e X2 ⟨rfl,hw⟩;obtain rfl:=hw.symm;clear hw);refine E6 hK (Mk.out _ hC) ?_;clear hK K;(refine D6 7 rfl (Mk.out _ hC) ?_);(refine D6 8 rfl (Mk.out _ hC) ?_))
   (obtain⟨⟨j0,j1,j2,j3,j4,j5,j6,j7⟩,m0,m1,m2,m3,m4,m5,m6,m7⟩:=kY.c8;have kF:=kY.copy8 (Tz p.nm) (Iz p.k) (Tz p.a) (Tz p.b) (Iz p.n) (Iz p.wi) (Tz p.t) (Tz p.e);have hF:=Db hC hy (Tz p.nm) (Iz p.k) (Tz p.a) (Tz p.b) (Iz p.n) (Iz p.wi) (Tz p.t) (Tz p.e);refine E7 10 rfl (λK hK=>?_);go_simp;refine E6 hK (Mk.out _ hF) ?_;clear hK K j0 j1 j2 j3 j4 j5 j6 j7 m0 m1 m2 m3 m4 m5 m6 m7 kY;(try simp only[Act.put,List.setIfInBounds_toArray,List.set_cons_zero,List.set_cons_succ]);refine F0 (by kernel_rfl) ?_ _;go_wp2_with fail;go_meet;exact⟨_,rfl,kF,hF⟩)
 case rest =>
  obtain⟨Y,rfl,kY,g7⟩:=hcut;have d2:=D5 a9 g7;have d3:=E4 a7 d2;have k7:=E4 g2 d2;have Hc:=H5.up d2;have g3:=D5 b2 d2;have n4:=d2.size;obtain⟨-,-,-,-,l4,-⟩:=(kL.up g7 d8).c6;obtain⟨⟨-,z1,-,-,z4,-,z6,z7⟩,-⟩:=kY.c8;have n5:k<h.bs.length:=k5;clear Mk Hat Hr kL g7 a9 H5 k6 a7 g2 hr hv kY b2 Hv5 d2;go_upto_region 9 with fail;go_cut [56] (λv56 wd=>∃cb:Bool,v56=.bool cb/\(cb=true->Mi x0 p well)/\(cb=false->¬Mi x0 p well)/\wd=wc)
  case first =>
   by_cases hsi:x0.si<0
   ·go_wp2_with fail;go_meet
    case rel=>exact⟨true,rfl,λ_=>.inl hsi,λh=>(by cases h),rfl⟩
   ·cases well
    ·go_wp2_with fail;go_meet
     case rel=>exact⟨false,rfl,λh=>(by cases h),λ_ hc=>hc.elim (λh=>by omega) (λh=>by cases h.1),rfl⟩
    ·by_cases hk3:p.k=3
     ·by_cases hn:x0.si<p.n
      ·go_wp2_with fail;go_meet
       case rel=>exact⟨true,rfl,λ_=>.inr ⟨rfl,hk3,hn⟩,λh=>(by cases h),rfl⟩
      ·go_wp2_with fail;go_meet
       case rel=>exact⟨false,rfl,λh=>(by cases h),λ_ hc=>hc.elim (λh=>by omega) (λh=>by omega),rfl⟩
     ·go_wp2_with fail;go_meet
      case rel=>exact⟨false,rfl,λh=>(by cases h),λ_ hc=>hc.elim (λh=>by omega) (λh=>by omega),rfl⟩
  case rest =>
   obtain⟨cb,rfl,l6,l7,rfl⟩:=hcut;cases cb
   case true =>
    have HI:Hid (Jj h nm well 6 h):=.inr (.inr ⟨k,x0,HK.out,Hx0.out,HID.out,.inl ⟨by rw[Hph.out];exact l6 rfl,rfl,rfl⟩⟩);obtain⟨i8,i9,j8,j9,k0,k1⟩:=(D7 k7).c6;obtain⟨y0,y1,y2,y3,y4,y5⟩:=(D7 d3).c6;obtain⟨f0,f1,f2,f3,f4,f5⟩:=(D7 d3).f6;go_wp2_with fail;refine R7 results155 underlying30 rfl G6 (D7 d3) rfl rfl ?_
    exact⟨⟨h,_,_,_,_,6,rfl,HI.out,⟨c7,by omega,by omega⟩,Jk Hc d3 (by omega) _ _⟩,I9 g3 (by omega) _ _ _ _ _ _⟩
   case false =>
    have m8:=l7 rfl;obtain⟨f9,g0,k4,-,l8,-⟩:=Lp (h:=h) (k:=k) (nm:=Lr p well) k5;have d4:=PJ h _ _ _ _ w2.heap.size k x0 (Lr p well) wc Hc (by omega) c7 Hx0.out h9 (by omega) (by omega);have HTI:Hid (∀h',S3 (AB h k (Lr p well)) (AB h k (Lr p well)).bs.length h'->Jj h nm well 0 h'):=λh' ha=>.inr (.inr ⟨k,x0,HK.out,Hx0.out,HID.out,.inr ⟨by rw[Hph.out];exact m8,rfl,by rw[Hph.out];exact ha⟩⟩);generalize AB h k (Lr p well)=L at *;have k8:L.ds.length<=20:=k4 g4
    have HAsk:Hid (∀(w5:World)(t5 b5 x5 d5:Value),HW w5 w2.heap.size L t5 b5 x5 d5->w2.heap.size<=w5.heap.size->T8 L.sh->Calls prog 32 #[.agg #[Iz h.now,Iz h.last,t5,b5,x5,d5]] w5 λe w'=>(∃h' tu bu,e=.returned (.agg #[Iz h.now,Iz h.last,tu,bu,x5,d5])/\S3 L L.bs.length h'/\T8 h'.sh/\HW w' w2.heap.size h' tu bu x5 d5)/\w5.grownBy w' x5.ownBlock):=λw5 t5 b5 x5 d5 h1 h2 h3=>by
     have:=Jg L t5 b5 x5 d5 w2.heap.size w5 h1 h2 h3;rw[f9,g0] at this;exact this
    have HCop:Hid (∀(w6:World)(h':House)(t5 b5 x5 d5:Value),HV w6 h' t5 b5 x5 d5->S3 L L.bs.length h'->T8 h'.sh->Gl h'/\Calls prog 25 #[.agg #[Iz h.now,Iz h.last,t5,b5,x5,d5]] w6 λe w'=>(∃tu bu xu du,e=.returned (.agg #[Iz h'.now,Iz h'.last,tu,bu,xu,du])/\HW w' w6.heap.size h' tu bu xu du)/\Up w6 w'):=λw6 h' t5 b5 x5 d5 h1 h2 h3=>by
     obtain⟨s1,s2,s3,s4⟩:=h2.same;have hd:h'.ds.length<=20:=by rw[s3];exact k8
     refine⟨⟨h3,by omega,by omega⟩,?_⟩;have:=Cv h' t5 b5 x5 d5 w6 h1 (by have:=h3.1;omega) (by have:=h3.2.1;omega) (λy hy=>by have:=h3.2.2 y hy;omega) (by omega) (by omega);rw[s1,s2,f9,g0] at this;rw[s1,s2,f9,g0];exact this
    obtain⟨ps,hW,-⟩:=Hc.x;have Hrow:Hid (wc.ownsRow w2.heap.size 40 6 (Vz p3 h.bs.length q3) ps.length (F8 Q7 ps)):=hW.1;have Hd:Hid (Aq wc w2.heap.size (Vz p4 h.ds.length q4) h.ds):=Hc.d;have Hxb:Hid _:=Hc.xb;have Hdb:Hid _:=Hc.db;have hz:=g3.size;have k9:w2.heap.size<=wc.heap.size:=by omega
    obtain⟨i8,i9,j8,j9,k0,k1⟩:=(D7 k7).c6;clear hW f9 g0 k4 l8 k8;cases well
    case false =>
     have d4:Calls prog 187 #[.agg (Hcz h p1 q1 p2 q2 p3 q3 p4 q4).toArray,Iz k,Tz p.e] wc _:=d4
     (go_wp2_with (first|(go_at_call 187;refine d4.mono ?_;rintro e w5 ⟨⟨t5,b5,x5,d5,rfl,i4,H5,-,-⟩,c5⟩;have a7:=Kh d3 c5 Hrow.out Hd.out (by decide) (by decide);have b2:=g3.trans (c5.below hz (λk e=>by have:=Hxb.out k e;omega) (λk e=>by have:=Hdb.out k e;omega));have d1:=c5.size)|(go_at_call 32;refine (HAsk.out w5 t5 b5 x5 d5 H5 (B3 k9 d1) i4).mono ?_;rintro e w6 ⟨⟨h6,t6,b6,rfl,e6,i5,H6⟩,e7⟩;obtain⟨l9,g8,-⟩:=H5.x;have i1:=E5 a7 e7 (E9 a7 g8.1 (by decide));have d9:=b2.trans (Gm e7 (B3 hz d1) (λk e=>by have:=H5.xb k e;omega)))|(go_at_call 25;obtain⟨b4,g9⟩:=HCop.out w6 h6 t6 b6 x5 d5 H6.v e6 i5;refine g9.mono ?_;rintro e w7 ⟨⟨t7,b7,x7,d7,rfl,H7⟩,e8⟩;have b0:=E4 i1 e8;have i2:=D5 d9 e8;obtain⟨u1,v1,u2,v2,u3,v3,u4,v4,rfl,rfl,rfl,rfl⟩:=H7.v.shapes;obtain⟨y0,y1,y2,y3,y4,y5⟩:=(D7 b0).c6;obtain⟨f0,f1,f2,f3,f4,f5⟩:=(D7 b0).f6));refine R7 results155 underlying30 rfl G6 (D7 b0) rfl rfl ?_;exact⟨⟨h6,_,_,_,_,0,rfl,HTI.out h6 e6,b4,Jk H7 b0 d9.size _ _⟩,I9 i2 (by omega) _ _ _ _ _ _⟩)
    case true =>
     have d4:Calls prog 187 #[.agg (Hcz h p1 q1 p2 q2 p3 q3 p4 q4).toArray,Iz k,Tz p.t] wc _:=d4
     (go_wp2_with (first|(go_at_call 187;refine d4.mono ?_;rintro e w5 ⟨⟨t5,b5,x5,d5,rfl,i4,H5,-,-⟩,c5⟩;have a7:=Kh d3 c5 Hrow.out Hd.out (by decide) (by decide);have b2:=g3.trans (c5.below hz (λk e=>by have:=Hxb.out k e;omega) (λk e=>by have:=Hdb.out k e;omega));have d1:=c5.size)|(go_at_call 32;refine (HAsk.out w5 t5 b5 x5 d5 H5 (B3 k9 d1) i4).mono ?_;rintro e w6 ⟨⟨h6,t6,b6,rfl,e6,i5,H6⟩,e7⟩;obtain⟨l9,g8,-⟩:=H5.x;have i1:=E5 a7 e7 (E9 a7 g8.1 (by decide));have d9:=b2.trans (Gm e7 (B3 hz d1) (λk e=>by have:=H5.xb k e;omega)))|(go_at_call 25;obtain⟨b4,g9⟩:=HCop.out w6 h6 t6 b6 x5 d5 H6.v e6 i5;refine g9.mono ?_;rintro e w7 ⟨⟨t7,b7,x7,d7,rfl,H7⟩,e8⟩;have b0:=E4 i1 e8;have i2:=D5 d9 e8;obtain⟨u1,v1,u2,v2,u3,v3,u4,v4,rfl,rfl,rfl,rfl⟩:=H7.v.shapes;obtain⟨y0,y1,y2,y3,y4,y5⟩:=(D7 b0).c6;obtain⟨f0,f1,f2,f3,f4,f5⟩:=(D7 b0).f6));refine R7 results155 underlying30 rfl G6 (D7 b0) rfl rfl ?_;exact⟨⟨h6,_,_,_,_,0,rfl,HTI.out h6 e6,b4,Jk H7 b0 d9.size _ _⟩,I9 i2 (by omega) _ _ _ _ _ _⟩)
end Go.Proofs.YtmonodehegcfhaaGreatDoor
