/- Drawing for the share: what happens: its walk. -/
import Derived.Test.YtcgkgmmclfeohaaGreatDoorDn5
namespace Go.Proofs.YtcgkgmmclfeohaaGreatDoor
open Go.Proofs.Tryz
open Go.RowKit
def QI:List BA:=[⟨#[]⟩,⟨#[65]⟩,⟨#[122,122]⟩]
def Iv:List BA:=[⟨#[]⟩,⟨#[97]⟩,⟨#[122,122]⟩,⟨#[116,117,110]⟩]
theorem Mv:(prog.info? 31).map (·.size)=some 3:=by kernel_rfl
set_option maxRecDepth 20000 in
set_option maxHeartbeats 4000000 in
theorem WM(rb len N B:Nat)(v bkv:Value)(b:Bk)(w:World)(hR:Rd w rb v len N)(hN:N<=800000)(hD:Jb w B bkv b)(hB:rb<B):
  Calls prog 22 #[Pz rb 0,bkv] w
   λe w'=>(∃(kd:Int)(nm:BA)(al:Option Addr)(cl:Nat)(list:List BA),e=.returned (.agg #[Iz kd,Tz nm,Vz al list.length cl])/\G3 w' w.heap.size (Vz al list.length cl) list/\nm.size<=maxLen/\(∀s∈list,s.size<=maxLen)/\list.length<=100)/\Rd w' rb v len (N+200)/\w.grownBy w' (some rb):=by
 have a3:=hR.lt;obtain⟨a1,c1,a2,c2,ps,rfl,x1,x2,x3⟩:=hD.1.parts;have k7:=hD.2.1;have k8:=hD.2.2;obtain⟨is,h9,i0,i1,i2⟩:=info_parts Bg;go_in;go_upto_region 1 with fail;obtain⟨W1,f3,kA,kR,e4,i3⟩:=cbE2 w [Vz a1 b.tg.length c1,Vz a2 b.bs.length c2] 26 [Iz 0,Ez,Nz] 31;rw[f3];have J1:DJ w W1 rb len N v (Vz a1 b.tg.length c1) (Vz a2 b.bs.length c2):=⟨kA,kR,hR.kept e4,Bm e4⟩;clear f3 kA kR e4 hR i3;go_wp2_with fail;refine (FR W1).mono ?_;rintro e w' ⟨rfl,rfl⟩;go_wp2_with fail;have i7:=J1.rd.lt;refine (FC rb len N v AC 5 _ 0 _ _ rfl (J1.rd.alloc _) (by omega) (BR W1 AC 9) (by omega) (by omega) (by omega)).mono ?_;rintro e w2 ⟨⟨s,hs,rfl⟩,g8,g9⟩;have J2:=(J1.alloc (.cells (AC.map Value.string).toArray 9)).gr a3 g9 g8;have i8:s.size<=maxLen:=GX (ss:=AC) (by decide) s hs;clear J1 hs g9 g8;go_upto_region 2 with fail;obtain⟨W3,f4,kD,f5,i4⟩:=cbE1 w2 [Iz 2,Tz s,Nz] 31;rw[f4];have Q3:DQ w W3 rb len (N+1) w2.heap.size v (Vz a1 b.tg.length c1) (Vz a2 b.bs.length c2) 2 s (Nz) []:=⟨J2.up f5,kD,B9 _ _ _ _,J2.size,i8,λs hs=>by simp at hs,by simp⟩;clear f4 kD f5 i4 J2;generalize w2.heap.size=q at *;go_cut [20] (λc20 wc=>∃(M:Nat)(c:Bool),c20=.bool c/\M<=N+10/\(c=true->0<b.bs.length)/\DQ w wc rb len M q v (Vz a1 b.tg.length c1) (Vz a2 b.bs.length c2) 2 s (Nz) [])
 case first =>
  obtain⟨z0,z1⟩:=Q3.j.a.c2';by_cases h0:b.bs.length=0
  ·have i9:¬(0:Int)<(b.bs.length:Int):=by omega
   clear h0;go_wp2_with fail;go_meet
   case rel=>exact⟨N+1,false,rfl,by omega,λh=>(by cases h),Q3⟩
  ·have i9:(0:Int)<(b.bs.length:Int):=by omega
   have Hp0:Hid (0<b.bs.length):=(by omega:0<b.bs.length);clear h0;go_wp2_with fail;refine (Cn rb len _ v 8 _ Q3.j.rd (by omega)).mono ?_;rintro e w4 ⟨⟨x,rfl,-,-⟩,h1,h2⟩;have Q4:=Q3.gr a3 h2 h1;clear Q3 h1 h2 z0 z1;go_wp2_with fail;go_meet
   case rel=>exact⟨_,_,rfl,by omega,λ_=>Hp0.out,Q4⟩
 case rest =>
  obtain⟨M,c,rfl,hM,hc,Q4⟩:=hcut;clear Q3;go_upto_if 20 with fail
  go_cut [] (λwc=>∃(M:Nat)(nm':BA),M<=N+20/\DQ w wc rb len M q v (Vz a1 b.tg.length c1) (Vz a2 b.bs.length c2) 2 nm' (Nz) [])
  case first =>
   cases c
   ·go_wp2_with fail;go_meet
    case rel=>exact⟨M,s,by omega,Q4⟩
   ·have g3:=hc rfl;obtain⟨z0,z1⟩:=Q4.j.a.c2';have d8:=(hD.gr Q4.j.g hB).bk.bsOf;obtain⟨-,b9⟩:=d8.at;obtain⟨bb,o,rfl,-,-⟩:=b9 g3;have b8:At wc.drew w.heap.size 1 (Sy bb o b.bs.length c2):=z1;have j3:some w.heap.size≠some rb:=by simp;omega
    clear z0 z1 d8 b9 hc;go_wp2_with fail;refine T9 11 (λw'=>At w' w.heap.size 1 (Sy bb o b.bs.length c2)) (by kernel_rfl) ?_;refine V7 (i:=0) (v:=?_) rfl (by kernel_rfl) (by kernel_rfl) (by kernel_rfl) (by kernel_rfl) (λ_ _ _ h=>h) (by rfl) b8 ?_ ?_;rotate_left;focus (intro w hSw;(try dsimp only at hSw);go_simp;try with_reducible rfl);(try simp only[Act.put,List.setIfInBounds_toArray,List.set_cons_zero,List.set_cons_succ])
    refine V7 (i:=1) (v:=?_) rfl (by kernel_rfl) (by kernel_rfl) (by kernel_rfl) (by kernel_rfl) (λ_ _ _ h=>h) (by rfl) b8 ?_ ?_;rotate_left;focus (intro w hSw;(try dsimp only at hSw);go_simp;try with_reducible rfl);(try simp only[Act.put,List.setIfInBounds_toArray,List.set_cons_zero,List.set_cons_succ])
    refine V7 (i:=2) (v:=?_) rfl (by kernel_rfl) (by kernel_rfl) (by kernel_rfl) (by kernel_rfl) (λ_ _ _ h=>h) (by rfl) b8 ?_ ?_;rotate_left;focus (intro w hSw;(try dsimp only at hSw);go_simp;try with_reducible rfl);(try simp only[Act.put,List.setIfInBounds_toArray,List.set_cons_zero,List.set_cons_succ])
    refine V7 (i:=3) (v:=?_) rfl (by kernel_rfl) (by kernel_rfl) (by kernel_rfl) (by kernel_rfl) (λ_ _ _ h=>h) (by rfl) b8 ?_ ?_;rotate_left;focus (intro w hSw;(try dsimp only at hSw);go_simp;try with_reducible rfl);(try simp only[Act.put,List.setIfInBounds_toArray,List.set_cons_zero,List.set_cons_succ])
    refine V7 (i:=4) (v:=?_) rfl (by kernel_rfl) (by kernel_rfl) (by kernel_rfl) (by kernel_rfl) (λ_ _ _ h=>h) (by rfl) b8 ?_ ?_;rotate_left;focus (intro w hSw;(try dsimp only at hSw);go_simp;try with_reducible rfl);(try simp only[Act.put,List.setIfInBounds_toArray,List.set_cons_zero,List.set_cons_succ])
    refine V7 (i:=5) (v:=?_) rfl (by kernel_rfl) (by kernel_rfl) (by kernel_rfl) (by kernel_rfl) (λ_ _ _ h=>h) (by rfl) b8 ?_ ?_;rotate_left;focus (intro w hSw;(try dsimp only at hSw);go_simp;try with_reducible rfl);(try simp only[Act.put,List.setIfInBounds_toArray,List.set_cons_zero,List.set_cons_succ])
    refine T0 6 rfl (λK hK=>?_);go_simp;go_wp2_with (go_at_call 21;refine (Cn rb len _ v _ _ Q4.drew.j.rd (by omega)).mono ?_;rintro e w5 ⟨⟨y,rfl,l6,e3⟩,h3,f2⟩;have Q5:=Q4.drew.gr a3 f2 h3;have d6:At w5 w.heap.size 1 (Sy bb o b.bs.length c2):=f2.cell b8 j3)
    have k9:=e3 (by omega);obtain⟨k,rfl⟩:∃k:Nat,y=(k:Int):=⟨y.toNat,by omega⟩;have hk:k<b.bs.length:=by omega
    have d9:=(hD.gr Q5.j.g hB).bk.bsOf;obtain⟨-,b9⟩:=d9.at;obtain⟨k0,o',f6,f7,-⟩:=b9 g3;obtain⟨rfl,rfl,-⟩:=Addr.mk.inj (A5 f6);obtain⟨_,_,_,_,cN,-,-,-,-,d2⟩:=(f7.at hk).cells;generalize (b.bs[k]).nm=c7 at *;clear e3 d9 b9 f6 f7 Q4 f2 h3;refine Y1 hK d6 ?_;clear hK K;(try simp only[Act.put,List.setIfInBounds_toArray,List.set_cons_zero,List.set_cons_succ]);obtain⟨⟨j0,j1,j2⟩,m0,m1,m2⟩:=Q5.d.c3;refine T0 7 rfl (λK hK=>?_);go_simp;refine Y1 hK d6 ?_;clear hK K;(try simp only[Act.put,List.setIfInBounds_toArray,List.set_cons_zero,List.set_cons_succ]);refine T0 8 rfl (λK hK=>?_);go_simp;refine Y1 hK d6 ?_;clear hK K;(try simp only[Act.put,List.setIfInBounds_toArray,List.set_cons_zero,List.set_cons_succ]);refine T0 9 rfl (λK hK=>?_);go_simp;refine Y1 hK d6 ?_;clear hK K;(try simp only[Act.put,List.setIfInBounds_toArray,List.set_cons_zero,List.set_cons_succ]);refine T0 10 rfl (λK hK=>?_);go_simp;refine Y1 hK d6 ?_;clear hK K;(try simp only[Act.put,List.setIfInBounds_toArray,List.set_cons_zero,List.set_cons_succ]);refine T0 11 rfl (λK hK=>?_);go_simp;refine GU hK ?_;clear hK K;refine Y2 (by kernel_rfl) ?_ _;have Q6:=Q5.set1 a3 c7 d2;clear j0 j1 j2 m0 m1 m2 b8 d6 Q5 cN;go_wp2_with fail;go_meet
    case rel=>exact⟨_,c7,by omega,Q6⟩
  case rest =>
   obtain⟨M5,c7,k1,Q5⟩:=hcut;clear Q4 hc;obtain⟨z0,z1⟩:=Q5.j.a.c2';obtain⟨⟨j0,j1,j2⟩,-⟩:=Q5.d.c3;go_wp2_with fail;refine (GY b _ c7 _ (hD.gr Q5.j.g hB).bk).mono ?_;rintro e w6 ⟨rfl,h4⟩;have Q6:=Q5.up h4;clear Q5 h4 z0 z1 j0 j1 j2;obtain⟨z0,z1⟩:=Q6.j.a.c2';have Hth:Hid (∀X,w.grownBy X (some rb)->G3 X B (Vz a1 b.tg.length c1) b.tg):=λX hg=>J0 x1 hg hB;have c8:=hD.2.1;have c4:=hD.2.2;go_upto_if 39 with fail
   go_cut [6,7] (λ_ v7 wc=>∃(M:Nat)(an:Option Addr)(cn:Nat)(nl:List BA),v7=Vz an nl.length cn/\M<=N+30/\nl.length<=50/\(∀s∈nl,s.size<=maxLen)/\Hid (∀X,w.grownBy X (some rb)->G3 X B (Vz an nl.length cn) nl)/\DQ w wc rb len M q v (Vz a1 b.tg.length c1) (Vz a2 b.bs.length c2) 2 c7 (Nz) [])
   case first =>
    cases hm:D7 (I3 b.bs) c7
    ·rw[Cd hm];go_wp2_with fail;go_meet
     case rel=>exact⟨M5,a1,c1,b.tg,rfl,by omega,c4.1,c8.1,Hth,Q6⟩
    ·obtain⟨d7,k2⟩:=BI hm;rw[d7];generalize F3 b c7=k at *;have j4:ps.length=b.bs.length:=by rw[← x3,B5]
     obtain⟨pv,e5⟩:∃pv,ps[k]?=some pv:=⟨_,A0 (by omega)⟩;have g4:=A6 e5;have g5:pv.1∈b.bs:=by rw[← x3];exact List.mem_map_of_mem g4
     have d0:=J0 x2.1 Q6.j.g hB;rw[j4] at d0;obtain⟨gr,cr,f8⟩:=U5 d0 (by omega);obtain⟨rfl,-,rfl⟩:=Value.slice.inj f8;have cN:=(d0.cellAt (k*3+2) (by omega)).trans (Bh ps k pv e5 2 _ rfl);have e7:=(x2.2 pv g4).2.1;obtain⟨an,cn,f9⟩:=e7.lst.shape;rw[f9] at cN e7;have HN:Hid (∀X,w.grownBy X (some rb)->G3 X B (Vz an pv.1.nd.length cn) pv.1.nd):=λX hg=>J0 e7 hg hB;clear d7 hm f8 f9 e5;go_wp2_with fail;go_meet
     case rel=>exact⟨M5,an,cn,pv.1.nd,rfl,by omega,(c4.2.2 _ g5).2,(c8.2 _ g5).2,HN,Q6⟩
   case rest =>
    obtain⟨M7,an,cn,nl,rfl,k3,d3,d2,HN,Q7⟩:=hcut;clear Q6 z0 z1;go_upto_region 8 with fail;go_cut [47] (λv47 wc=>∃(M:Nat)(x:Int),v47=.int .i64 x/\0<=x/\M<=N+31/\DQ w wc rb len M q v (Vz a1 b.tg.length c1) (Vz a2 b.bs.length c2) 2 c7 (Nz) [])
    case first =>
     go_wp2_with fail;refine (Cn rb len _ v 9 _ Q7.j.rd (by omega)).mono ?_;rintro e w8 ⟨⟨x,rfl,e6,-⟩,h5,h6⟩;have Q8:=Q7.gr a3 h6 h5;clear Q7 h5 h6;go_wp2_with fail;go_meet
     case rel=>exact⟨_,x,rfl,e6,by omega,Q8⟩
    case rest =>
     obtain⟨M8,x,rfl,e6,k4,Q8⟩:=hcut;clear Q7;apply_assumption
     go_cut [52,66,73] (λ_ _ _ wc=>∃(M:Nat)(kd:Int)(nm:BA)(al:Option Addr)(cl:Nat)(list:List BA),M<=N+100/\list.length<=60/\DQ w wc rb len M q v (Vz a1 b.tg.length c1) (Vz a2 b.bs.length c2) kd nm (Vz al list.length cl) list)
     case first =>
      rcases (by omega:x=0∨x=1∨x=2∨x=3∨x=4∨5<=x) with hx|hx|hx|hx|hx|hx
      ·subst hx;obtain⟨⟨j0,j1,j2⟩,m0,m1,m2⟩:=Q8.d.c3;obtain⟨z0,z1⟩:=Q8.j.a.c2';go_upto_region 14 with fail;have Q9:=Q8.set0 a3 1;clear Q8 j0 j1 j2 m0 m1 m2 z0 z1;generalize wc.setCell ⟨q,0,none⟩ (Iz 1)=w9 at *;have c9:=Q9.qz;have e0:=Q9.j.rd.lt;go_wp2_with fail;refine (FR w9).mono ?_;rintro e w' ⟨rfl,rfl⟩;go_wp2_with fail;refine (FC rb len _ v AC 5 _ 0 _ _ rfl (Q9.j.rd.alloc _) (by omega) (BR w9 AC 9) (by omega) (by omega) (by omega)).mono ?_;rintro e wN ⟨⟨s9,b3,rfl⟩,b4,a9⟩;have QN:=(Q9.alloc (.cells (AC.map Value.string).toArray 9)).gr a3 a9 b4;have a6:s9.size<=maxLen:=GX (ss:=AC) (by decide) s9 b3;clear Q9 b3 a9 b4;obtain⟨⟨j0,j1,j2⟩,m0,m1,m2⟩:=QN.d.c3;go_upto_region 15 with fail;have QM:=QN.set1 a3 s9 a6;clear QN j0 j1 j2 m0 m1 m2 a6;generalize wN.setCell ⟨q,1,none⟩ (Tz s9)=wM at *;obtain⟨z0,z1⟩:=QM.j.a.c2';have a7:=Hth.out _ QM.j.g;have b0:=a7.lst.ls c8.1;go_wp2_with fail
       refine (Fg rb len _ v _ 2 b.tg _ QM.j.rd (by omega) b0 c4.1 (λa m c e=>by
        have hb:=a7.lt a.block (by rw[e];rfl);omega)).mono ?_
       rintro e wS ⟨⟨u,ss,rfl,a4,a8,b5⟩,b6,b7⟩;have b1:=QM.lt;have QS:=QM.gr a3 b7 b6;have a4:=N1 a4 b1;have a5:∀s∈ss,s.size<=maxLen:=λs hs=>c8.1 s (b5 s hs);obtain⟨au,cu,rfl⟩:=L9 a4;clear a7 b0 z0 z1 QM b6 b7 b5 b1;obtain⟨⟨j0,j1,j2⟩,m0,m1,m2⟩:=QS.d.c3;have c5:ss.length<=60:=B4 a8 (B4 c4.1 (by decide));have QE:=QS.set2 a3 _ ss a4 a5 (B4 a8 (B4 c4.1 (by decide)));clear QS a4 a5 a8;go_wp2_with fail;go_meet
       case rel=>exact⟨_,_,_,_,_,ss,by omega,c5,QE⟩
      ·subst hx;obtain⟨⟨j0,j1,j2⟩,m0,m1,m2⟩:=Q8.d.c3;obtain⟨z0,z1⟩:=Q8.j.a.c2';go_upto_region 14 with fail;have Q9:=Q8.set0 a3 1;clear Q8 j0 j1 j2 m0 m1 m2 z0 z1;generalize wc.setCell ⟨q,0,none⟩ (Iz 1)=w9 at *;have c9:=Q9.qz;have e0:=Q9.j.rd.lt;go_wp2_with fail;refine (FR w9).mono ?_;rintro e w' ⟨rfl,rfl⟩;go_wp2_with fail;refine (FC rb len _ v AC 5 _ 0 _ _ rfl (Q9.j.rd.alloc _) (by omega) (BR w9 AC 9) (by omega) (by omega) (by omega)).mono ?_;rintro e wN ⟨⟨s9,b3,rfl⟩,b4,a9⟩;have QN:=(Q9.alloc (.cells (AC.map Value.string).toArray 9)).gr a3 a9 b4;have a6:s9.size<=maxLen:=GX (ss:=AC) (by decide) s9 b3;clear Q9 b3 a9 b4;obtain⟨⟨j0,j1,j2⟩,m0,m1,m2⟩:=QN.d.c3;go_upto_region 15 with fail;have QM:=QN.set1 a3 s9 a6;clear QN j0 j1 j2 m0 m1 m2 a6;generalize wN.setCell ⟨q,1,none⟩ (Tz s9)=wM at *;obtain⟨z0,z1⟩:=QM.j.a.c2';have a7:=Hth.out _ QM.j.g;have b0:=a7.lst.ls c8.1;go_wp2_with fail
       refine (Fg rb len _ v _ 2 b.tg _ QM.j.rd (by omega) b0 c4.1 (λa m c e=>by
        have hb:=a7.lt a.block (by rw[e];rfl);omega)).mono ?_
       rintro e wS ⟨⟨u,ss,rfl,a4,a8,b5⟩,b6,b7⟩;have b1:=QM.lt;have QS:=QM.gr a3 b7 b6;have a4:=N1 a4 b1;have a5:∀s∈ss,s.size<=maxLen:=λs hs=>c8.1 s (b5 s hs);obtain⟨au,cu,rfl⟩:=L9 a4;clear a7 b0 z0 z1 QM b6 b7 b5 b1;obtain⟨⟨j0,j1,j2⟩,m0,m1,m2⟩:=QS.d.c3;have c5:ss.length<=60:=B4 a8 (B4 c4.1 (by decide));have QE:=QS.set2 a3 _ ss a4 a5 (B4 a8 (B4 c4.1 (by decide)));clear QS a4 a5 a8;go_wp2_with fail;go_meet
       case rel=>exact⟨_,_,_,_,_,ss,by omega,c5,QE⟩
      ·subst hx;obtain⟨⟨j0,j1,j2⟩,m0,m1,m2⟩:=Q8.d.c3;obtain⟨z0,z1⟩:=Q8.j.a.c2';go_upto_region 14 with fail;have Q9:=Q8.set0 a3 1;clear Q8 j0 j1 j2 m0 m1 m2 z0 z1;generalize wc.setCell ⟨q,0,none⟩ (Iz 1)=w9 at *;have c9:=Q9.qz;have e0:=Q9.j.rd.lt;go_wp2_with fail;refine (FR w9).mono ?_;rintro e w' ⟨rfl,rfl⟩;go_wp2_with fail;refine (FC rb len _ v AC 5 _ 0 _ _ rfl (Q9.j.rd.alloc _) (by omega) (BR w9 AC 9) (by omega) (by omega) (by omega)).mono ?_;rintro e wN ⟨⟨s9,b3,rfl⟩,b4,a9⟩;have QN:=(Q9.alloc (.cells (AC.map Value.string).toArray 9)).gr a3 a9 b4;have a6:s9.size<=maxLen:=GX (ss:=AC) (by decide) s9 b3;clear Q9 b3 a9 b4;obtain⟨⟨j0,j1,j2⟩,m0,m1,m2⟩:=QN.d.c3;go_upto_region 15 with fail;have QM:=QN.set1 a3 s9 a6;clear QN j0 j1 j2 m0 m1 m2 a6;generalize wN.setCell ⟨q,1,none⟩ (Tz s9)=wM at *;obtain⟨z0,z1⟩:=QM.j.a.c2';have a7:=Hth.out _ QM.j.g;have b0:=a7.lst.ls c8.1;go_wp2_with fail
       refine (Fg rb len _ v _ 2 b.tg _ QM.j.rd (by omega) b0 c4.1 (λa m c e=>by
        have hb:=a7.lt a.block (by rw[e];rfl);omega)).mono ?_
       rintro e wS ⟨⟨u,ss,rfl,a4,a8,b5⟩,b6,b7⟩;have b1:=QM.lt;have QS:=QM.gr a3 b7 b6;have a4:=N1 a4 b1;have a5:∀s∈ss,s.size<=maxLen:=λs hs=>c8.1 s (b5 s hs);obtain⟨au,cu,rfl⟩:=L9 a4;clear a7 b0 z0 z1 QM b6 b7 b5 b1;obtain⟨⟨j0,j1,j2⟩,m0,m1,m2⟩:=QS.d.c3;have c5:ss.length<=60:=B4 a8 (B4 c4.1 (by decide));have QE:=QS.set2 a3 _ ss a4 a5 (B4 a8 (B4 c4.1 (by decide)));clear QS a4 a5 a8;go_wp2_with fail;go_meet
       case rel=>exact⟨_,_,_,_,_,ss,by omega,c5,QE⟩
      ·subst hx;obtain⟨⟨j0,j1,j2⟩,m0,m1,m2⟩:=Q8.d.c3;obtain⟨z0,z1⟩:=Q8.j.a.c2';go_upto_region 18 with fail;have Q9:=Q8.set0 a3 3;clear Q8 j0 j1 j2 m0 m1 m2 z0 z1;generalize wc.setCell ⟨q,0,none⟩ (Iz 3)=w9 at *;obtain⟨z0,z1⟩:=Q9.j.a.c2';have a7:=HN.out _ Q9.j.g;have b0:=a7.lst.ls d2;go_wp2_with fail
       refine (Fg rb len _ v _ 2 nl _ Q9.j.rd (by omega) b0 d3 (λa m c e=>by
        have hb:=a7.lt a.block (by rw[e];rfl);omega)).mono ?_
       rintro e wS ⟨⟨u,ss,rfl,a4,a8,b5⟩,b6,b7⟩;have b1:=Q9.lt;have QS:=Q9.gr a3 b7 b6;have a4:=N1 a4 b1;have a5:∀s∈ss,s.size<=maxLen:=λs hs=>d2 s (b5 s hs);obtain⟨au,cu,rfl⟩:=L9 a4;clear a7 b0 z0 z1 Q9 b6 b7 b5 b1;obtain⟨⟨j0,j1,j2⟩,m0,m1,m2⟩:=QS.d.c3;have c5:ss.length<=60:=B4 a8 (B4 d3 (by decide));have QE:=QS.set2 a3 _ ss a4 a5 (B4 a8 (B4 d3 (by decide)));clear QS a4 a5 a8;go_wp2_with fail;go_meet
       case rel=>exact⟨_,_,_,_,_,ss,by omega,c5,QE⟩
      ·subst hx;obtain⟨⟨j0,j1,j2⟩,m0,m1,m2⟩:=Q8.d.c3;obtain⟨z0,z1⟩:=Q8.j.a.c2';have QE:=Q8.set0 a3 4;go_wp2_with fail;go_meet
       case rel=>exact⟨_,_,_,none,0,[],by omega,by simp,QE⟩
      ·have l0:(x==0)=false:=by simp;omega
       have l1:(x==1)=false:=by simp;omega
       have l2:(x==2)=false:=by simp;omega
       have l3:(x==3)=false:=by simp;omega
       have l4:(x==4)=false:=by simp;omega
       clear hx;obtain⟨z0,z1⟩:=Q8.j.a.c2';have a7:=HN.out _ Q8.j.g;have b0:=a7.lst.ls d2;go_wp2_with fail
       refine (Fg rb len _ v _ 2 nl _ Q8.j.rd (by omega) b0 d3 (λa m c e=>by
        have hb:=a7.lt a.block (by rw[e];rfl);omega)).mono ?_
       rintro e wS ⟨⟨u,ss,rfl,a4,a8,b5⟩,b6,b7⟩;have b1:=Q8.lt;have QS:=Q8.gr a3 b7 b6;have a4:=N1 a4 b1;have a5:∀s∈ss,s.size<=maxLen:=λs hs=>d2 s (b5 s hs);obtain⟨au,cu,rfl⟩:=L9 a4;clear a7 b0 z0 z1 Q8 b6 b7 b5 b1;obtain⟨⟨j0,j1,j2⟩,m0,m1,m2⟩:=QS.d.c3;have c5:ss.length<=60:=B4 a8 (B4 d3 (by decide));have QE:=QS.set2 a3 _ ss a4 a5 (B4 a8 (B4 d3 (by decide)));clear QS a4 a5 a8;go_wp2_with fail;go_meet
       case rel=>exact⟨_,_,_,_,_,ss,by omega,c5,QE⟩
     case rest =>
      obtain⟨M9,i5,i6,d4,d5,a0,k5,k6,QF⟩:=hcut;clear Q8 e6;go_wp2_with fail;refine (Cn rb len _ v 24 _ QF.j.rd (by omega)).mono ?_;rintro e wF ⟨⟨y,rfl,-,-⟩,h7,h8⟩;have QG:=QF.gr a3 h8 h7;clear QF h7 h8;by_cases hy:y=0
      ·subst hy;obtain⟨⟨j0,j1,j2⟩,m0,m1,m2⟩:=QG.d.c3;have e8:=QG.j.rd.lt;have j5:=QG.lt;have c9:=QG.qz;have b8:At wF.drew q 2 (Vz d4 a0.length d5):=j2;have j6:Up wF (wF.drew.alloc (.cells (Iv.map Value.string).toArray 9)):=(A4 _ _).drew.alloc (A3 _) _;have QA:=QG.drew.alloc (.cells (Iv.map Value.string).toArray 9);have e9:World.cell? (wF.drew.alloc (.cells (Iv.map Value.string).toArray 9)) ⟨q,2,none⟩=some (Vz d4 a0.length d5):=(j6.cell (p:=⟨q,2,none⟩) j5).trans j2;have e1:N3 (wF.drew.alloc (.cells (Iv.map Value.string).toArray 9)) wF.heap.size 0 Iv:=BR wF.drew Iv 9;have j7:some q≠some rb:=by simp;omega
       clear j0 j1 j2 m0 m1 m2;go_wp2_with fail;refine T9 8 (λw'=>At w' q 2 (Vz d4 a0.length d5)) (by kernel_rfl) ?_;refine V7 (i:=0) (v:=?_) rfl (by kernel_rfl) (by kernel_rfl) (by kernel_rfl) (by kernel_rfl) (λ_ _ _ h=>h) (by rfl) b8 ?_ ?_;rotate_left;focus (intro w hSw;(try dsimp only at hSw);go_simp;try with_reducible rfl);(try simp only[Act.put,List.setIfInBounds_toArray,List.set_cons_zero,List.set_cons_succ])
       refine V7 (i:=1) (v:=?_) rfl (by kernel_rfl) (by kernel_rfl) (by kernel_rfl) (by kernel_rfl) (λ_ _ _ h=>h) (by rfl) b8 ?_ ?_;rotate_left;focus (intro w hSw;(try dsimp only at hSw);go_simp;try with_reducible rfl);(try simp only[Act.put,List.setIfInBounds_toArray,List.set_cons_zero,List.set_cons_succ])
       refine V7 (i:=2) (v:=?_) rfl (by kernel_rfl) (by kernel_rfl) (by kernel_rfl) (by kernel_rfl) (λ_ _ _ h=>h) (by rfl) b8 ?_ ?_;rotate_left;focus (intro w hSw;(try dsimp only at hSw);go_simp;try with_reducible rfl);(try simp only[Act.put,List.setIfInBounds_toArray,List.set_cons_zero,List.set_cons_succ])
       refine T0 3 rfl (λK hK=>?_);go_simp;refine Y1 hK e9 ?_;clear hK K;(try simp only[Act.put,List.setIfInBounds_toArray,List.set_cons_zero,List.set_cons_succ]);refine T0 4 rfl (λK hK=>?_);go_simp;go_wp2_with (go_at_call 45;refine (FC rb len _ v Iv 4 wF.heap.size 0 4 _ rfl QA.j.rd (by omega) e1 (by omega) (by omega) (by omega)).mono ?_;rintro e wN ⟨⟨s9,b3,rfl⟩,b4,a9⟩;have QN:=QA.gr a3 a9 b4;have a6:s9.size<=maxLen:=GX (ss:=Iv) (by decide) s9 b3;have g6:At wN q 2 (Vz d4 a0.length d5):=a9.cell e9 j7)
       clear QA QG a9 b4 e1 b3;refine Y1 hK g6 ?_;clear hK K;(try simp only[Act.put,List.setIfInBounds_toArray,List.set_cons_zero,List.set_cons_succ]);have QB:=QN.alloc (Kz [Tz s9] 9);have g7:At (wN.alloc (Kz [Tz s9] 9)) q 2 (Vz d4 a0.length d5):=QB.d.c3.1.2.2;have b2:=QB.l;have j8:q+1<=(wN.alloc (Kz [Tz s9] 9)).heap.size:=QB.lt;refine T0 5 rfl (λK hK=>?_);go_simp;refine Y1 hK g7 ?_;clear hK K;(try simp only[Act.put,List.setIfInBounds_toArray,List.set_cons_zero,List.set_cons_succ]);refine T0 6 rfl (λK hK=>?_);refine O3 rfl _ _ 23 rfl (q+1) 9 is _ 1 16 underlying23 h9 i0 i1 i2 rfl (by decide) _ _ _ rfl b2 ⟨wN.heap.size,0,none⟩ 1 1 [Tz s9] rfl rfl (BZ _ _ _) (Gk s9) (by unfold maxLen;omega) (by omega) j8 ?_;intro v' wP hownP hgrP;have hO:G3 wP (q+1) v' (a0++[s9]):=by unfold G3;simpa using hownP
       have JP:=QB.j.own a3 b2 hgrP (by omega);have dP:=QB.d.kept hgrP (Af b2 (by omega));have f0:At wP q 2 (Vz d4 a0.length d5):=dP.c3.1.2.2;obtain⟨aP,cP,rfl⟩:=L9 hownP;obtain⟨⟨j0,j1,j2⟩,m0,m1,m2⟩:=dP.c3
       have e2:∀s∈a0++[s9],s.size<=maxLen:=λs hs=>by
        rcases C9.1 hs with h|h
        ·exact QB.lz s h
        ·obtain rfl:s=s9:=by simpa using h
         exact a6
       have f1:=QB.nz;clear QN QB b2 hgrP hownP g6 g7;refine Y1 hK f0 ?_;clear hK K;(try simp only[Act.put,List.setIfInBounds_toArray]);refine V7 (i:=7) (v:=?_) rfl (by kernel_rfl) (by kernel_rfl) (by kernel_rfl) (by kernel_rfl) (λ_ _ _ h=>h) (by rfl) f0 ?_ ?_;rotate_left;focus (intro w hSw;(try dsimp only at hSw);go_simp;try with_reducible rfl);(try simp only[Act.put,List.setIfInBounds_toArray,List.set_cons_zero,List.set_cons_succ])
       refine T0 8 rfl (λK hK=>?_);go_simp;refine GU hK ?_;clear hK K;refine Y2 (by kernel_rfl) ?_ _;have c6:(a0++[s9]).length=a0.length+1:=by simp
       have QT:DQ w (wP.setCell ⟨q,2,none⟩ (Vz aP (a0.length+1) cP)) rb len (M9+1+1) q v (Vz a1 b.tg.length c1) (Vz a2 b.bs.length c2) i5 i6 (Vz aP (a0.length+1) cP) (a0++[s9]) :=
        ⟨JP.set a3 c9 _ _,dP.set (j:=2) (by simp),J0 hO (E6 (F4 _ _) _) (by omega),c9,f1,e2,by rw[c6];omega⟩
       have HLEN:Hid ((a0++[s9]).length=a0.length+1):=c6;rw[← c6] at QT ⊢
       clear c6 b8 e9 f0 j0 j1 j2 m0 m1 m2 JP dP hO e2;generalize wP.setCell ⟨q,2,none⟩ (Vz aP (a0++[s9]).length cP)=wT at *;have kR:=QT.j.r;have c9:=QT.qz;obtain⟨⟨j0,j1,j2⟩,-⟩:=QT.d.c3;obtain⟨⟨y0,y1,y2⟩,g0,g1,g2⟩:=kR.c3;go_wp2_with fail;refine Om results22 underlying31 rfl Mv kR rfl ?_;have d1:=QT.fin (M:=N+200) a3 (by omega);first|exact d1|(rw[HLEN.out] at d1;exact d1)
      ·have l5:(y==0)=false:=by simpa using hy
       by_cases e3:y=1
       ·subst e3;have e8:=QG.j.rd.lt;go_wp2_with fail;refine (FC rb len _ v QI 3 _ 0 _ _ rfl (QG.j.rd.alloc _) (by omega) (BR wF QI 9) (by omega) (by omega) (by omega)).mono ?_;rintro e wN ⟨⟨s9,b3,rfl⟩,b4,a9⟩;have QN:=(QG.alloc (.cells (QI.map Value.string).toArray 9)).gr a3 a9 b4;have a6:s9.size<=maxLen:=GX (ss:=QI) (by decide) s9 b3;clear QG b3 a9 b4;obtain⟨⟨j0,j1,j2⟩,m0,m1,m2⟩:=QN.d.c3;go_upto_region 26 with fail;have QM:=QN.set1 a3 s9 a6;clear QN j0 j1 j2 m0 m1 m2 a6;generalize wN.setCell ⟨q,1,none⟩ (Tz s9)=wM at *;have kR:=QM.j.r;have c9:=QM.qz;obtain⟨⟨j0,j1,j2⟩,-⟩:=QM.d.c3;obtain⟨⟨y0,y1,y2⟩,g0,g1,g2⟩:=kR.c3;go_wp2_with fail;refine Om results22 underlying31 rfl Mv kR rfl ?_;exact QM.fin a3 (by omega)
       ·have j9:(y==1)=false:=by simpa using e3
        have kR:=QG.j.r;have c9:=QG.qz;obtain⟨⟨j0,j1,j2⟩,-⟩:=QG.d.c3;obtain⟨⟨y0,y1,y2⟩,g0,g1,g2⟩:=kR.c3;go_wp2_with fail;refine Om results22 underlying31 rfl Mv kR rfl ?_;exact QG.fin a3 (by omega)
end Go.Proofs.YtcgkgmmclfeohaaGreatDoor
