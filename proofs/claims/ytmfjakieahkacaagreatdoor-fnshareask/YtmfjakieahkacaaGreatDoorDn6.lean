/- Drawing for the share: what happens: its walk. -/
import Derived.Test.YtmfjakieahkacaaGreatDoorDn5
namespace Go.Proofs.YtmfjakieahkacaaGreatDoor
open Go.RowKit
def Og:List ByteArray:=[⟨#[]⟩,⟨#[65]⟩,⟨#[122,122]⟩]
def Gk:List ByteArray:=[⟨#[]⟩,⟨#[97]⟩,⟨#[122,122]⟩,⟨#[116,117,110]⟩]
theorem Kv:(Tryz.prog.info? 69).map (·.size)=some 3:=by kernel_rfl
set_option maxRecDepth 20000 in
set_option maxHeartbeats 4000000 in
theorem Lq(rb len N B:Nat)(v bkv:Value)(b:Bk)(w:World)(hR:Rd w rb v len N)(hN:N<=800000)(hD:Ec w B bkv b)(hB:rb<B):
  Calls Tryz.prog 36 #[.pointer (some ⟨rb,0,none⟩),bkv] w
   λe w'=>(∃(kd:Int)(nm:ByteArray)(al:Option Addr)(cl:Nat)(list:List ByteArray),e=.returned (.agg #[.int .i64 kd,.string nm,.slice al list.length cl])/\E5 w' w.heap.size (.slice al list.length cl) list/\nm.size<=maxLen/\(∀s∈list,s.size<=maxLen)/\list.length<=100)/\Rd w' rb v len (N+200)/\w.grownBy w' (some rb):=by
 have hrl:=hR.lt;obtain⟨a1,c1,a2,c2,ps,rfl,x1,x2,x3⟩:=hD.1.parts;have hzb:=hD.2.1;have htn:=hD.2.2;obtain⟨is,his,js0,js1,js2⟩:=info_parts Z0;go_enter Tryz.func36,Tryz.ntmps36;go_upto_region 1 with fail;obtain⟨W1,hW1,kA,kR,hB1,hs1⟩:=cbE2 w [.slice a1 b.tg.length c1,.slice a2 b.bs.length c2] 26 [.int .i64 0,.string ⟨#[]⟩,.slice none 0 0] 69;rw[hW1];have J1:DJ w W1 rb len N v (.slice a1 b.tg.length c1) (.slice a2 b.bs.length c2):=⟨kA,kR,hR.kept hB1,O2 hB1⟩;clear hW1 kA kR hB1 hR hs1;go_wp2_with fail;refine (Dx W1).mono ?_;rintro e w' ⟨rfl,rfl⟩;go_wp2_with fail;have hlt1:=J1.rd.lt;refine (Ca rb len N v P0 5 _ 0 _ _ rfl (J1.rd.alloc _) (by omega) (T8 W1 P0 9) (by omega) (by omega) (by omega)).mono ?_;rintro e w2 ⟨⟨s,hs,rfl⟩,hR2,hg2⟩;have J2:=(J1.alloc (.cells (P0.map Value.string).toArray 9)).gr hrl hg2 hR2;have hsz:s.size<=maxLen:=Cy (ss:=P0) (by decide) s hs;clear J1 hs hg2 hR2;go_upto_region 2 with fail;obtain⟨W3,hW3,kD,hb3,hs3⟩:=cbE1 w2 [.int .i64 2,.string s,.slice none 0 0] 69;rw[hW3];have Q3:DQ w W3 rb len (N+1) w2.heap.size v (.slice a1 b.tg.length c1) (.slice a2 b.bs.length c2) 2 s (.slice none 0 0) []:=⟨J2.up hb3,kD,B9 _ _ _ _,J2.size,hsz,λs hs=>by simp at hs,by simp⟩;clear hW3 kD hb3 hs3 J2;generalize w2.heap.size=q at *;go_cut [20] (λc20 wc=>∃(M:Nat)(c:Bool),c20=.bool c/\M<=N+10/\(c=true->0<b.bs.length)/\DQ w wc rb len M q v (.slice a1 b.tg.length c1) (.slice a2 b.bs.length c2) 2 s (.slice none 0 0) [])
 case first =>
  obtain⟨z0,z1⟩:=Q3.j.a.c2';by_cases h0:b.bs.length=0
  ·have h0':¬(0:Int)<(b.bs.length:Int):=by omega
   clear h0;go_wp2_with fail;go_meet
   case rel=>exact⟨N+1,false,rfl,by omega,λh=>(by cases h),Q3⟩
  ·have h0':(0:Int)<(b.bs.length:Int):=by omega
   have Hp0:Hid (0<b.bs.length):=(by omega:0<b.bs.length);clear h0;go_wp2_with fail;refine (T0 rb len _ v 8 _ Q3.j.rd (by omega)).mono ?_;rintro e w4 ⟨⟨x,rfl,-,-⟩,hR4,hg4⟩;have Q4:=Q3.gr hrl hg4 hR4;clear Q3 hR4 hg4 z0 z1;go_wp2_with fail;go_meet
   case rel=>exact⟨_,_,rfl,by omega,λ_=>Hp0.out,Q4⟩
 case rest =>
  obtain⟨M,c,rfl,hM,hc,Q4⟩:=hcut;clear Q3;go_upto_if 20 with fail
  go_cut [] (λwc=>∃(M:Nat)(nm':ByteArray),M<=N+20/\DQ w wc rb len M q v (.slice a1 b.tg.length c1) (.slice a2 b.bs.length c2) 2 nm' (.slice none 0 0) [])
  case first =>
   cases c
   ·go_wp2_with fail;go_meet
    case rel=>exact⟨M,s,by omega,Q4⟩
   ·have hp0:=hc rfl;obtain⟨z0,z1⟩:=Q4.j.a.c2';have hbs4:=(hD.gr Q4.j.g hB).bk.bsOf;obtain⟨-,hpos⟩:=hbs4.at;obtain⟨bb,o,rfl,-,-⟩:=hpos hp0;have hS1:World.cell? wc.drew ⟨w.heap.size,1,none⟩=some (.slice (some ⟨bb,o,none⟩) b.bs.length c2):=z1;have hAr:some w.heap.size≠some rb:=by simp;omega
    clear z0 z1 hbs4 hpos hc;go_wp2_with fail;refine M4 11 (λw'=>World.cell? w' ⟨w.heap.size,1,none⟩=some (.slice (some ⟨bb,o,none⟩) b.bs.length c2)) (by kernel_rfl) ?_;refine G3 (i:=0) (v:=?_) rfl (by kernel_rfl) (by kernel_rfl) (by kernel_rfl) (by kernel_rfl) (λ_ _ _ h=>h) (by rfl) hS1 ?_ ?_;rotate_left;focus (intro w hSw;(try dsimp only at hSw);go_simp;try with_reducible rfl);(try simp only[Act.put,List.setIfInBounds_toArray,List.set_cons_zero,List.set_cons_succ])
    refine G3 (i:=1) (v:=?_) rfl (by kernel_rfl) (by kernel_rfl) (by kernel_rfl) (by kernel_rfl) (λ_ _ _ h=>h) (by rfl) hS1 ?_ ?_;rotate_left;focus (intro w hSw;(try dsimp only at hSw);go_simp;try with_reducible rfl);(try simp only[Act.put,List.setIfInBounds_toArray,List.set_cons_zero,List.set_cons_succ])
    refine G3 (i:=2) (v:=?_) rfl (by kernel_rfl) (by kernel_rfl) (by kernel_rfl) (by kernel_rfl) (λ_ _ _ h=>h) (by rfl) hS1 ?_ ?_;rotate_left;focus (intro w hSw;(try dsimp only at hSw);go_simp;try with_reducible rfl);(try simp only[Act.put,List.setIfInBounds_toArray,List.set_cons_zero,List.set_cons_succ])
    refine G3 (i:=3) (v:=?_) rfl (by kernel_rfl) (by kernel_rfl) (by kernel_rfl) (by kernel_rfl) (λ_ _ _ h=>h) (by rfl) hS1 ?_ ?_;rotate_left;focus (intro w hSw;(try dsimp only at hSw);go_simp;try with_reducible rfl);(try simp only[Act.put,List.setIfInBounds_toArray,List.set_cons_zero,List.set_cons_succ])
    refine G3 (i:=4) (v:=?_) rfl (by kernel_rfl) (by kernel_rfl) (by kernel_rfl) (by kernel_rfl) (λ_ _ _ h=>h) (by rfl) hS1 ?_ ?_;rotate_left;focus (intro w hSw;(try dsimp only at hSw);go_simp;try with_reducible rfl);(try simp only[Act.put,List.setIfInBounds_toArray,List.set_cons_zero,List.set_cons_succ])
    refine G3 (i:=5) (v:=?_) rfl (by kernel_rfl) (by kernel_rfl) (by kernel_rfl) (by kernel_rfl) (λ_ _ _ h=>h) (by rfl) hS1 ?_ ?_;rotate_left;focus (intro w hSw;(try dsimp only at hSw);go_simp;try with_reducible rfl);(try simp only[Act.put,List.setIfInBounds_toArray,List.set_cons_zero,List.set_cons_succ])
    refine K4 6 rfl (λK hK=>?_);go_simp;go_wp2_with (go_at_call 54;refine (T0 rb len _ v _ _ Q4.drew.j.rd (by omega)).mono ?_;rintro e w5 ⟨⟨y,rfl,hy0,hy1⟩,hR5,hg5⟩;have Q5:=Q4.drew.gr hrl hg5 hR5;have hS5:World.cell? w5 ⟨w.heap.size,1,none⟩=some (.slice (some ⟨bb,o,none⟩) b.bs.length c2):=hg5.cell hS1 hAr)
    have hy2:=hy1 (by omega);obtain⟨k,rfl⟩:∃k:Nat,y=(k:Int):=⟨y.toNat,by omega⟩;have hk:k<b.bs.length:=by omega
    have hbs5:=(hD.gr Q5.j.g hB).bk.bsOf;obtain⟨-,hpos⟩:=hbs5.at;obtain⟨bb',o',hbo,hS',-⟩:=hpos hp0;obtain⟨rfl,rfl,-⟩:=Addr.mk.inj (A5 hbo);obtain⟨_,_,_,_,cN,-,-,-,-,hnz⟩:=(hS'.at hk).cells;generalize (b.bs[k]).nm=nm1 at *;clear hy1 hbs5 hpos hbo hS' Q4 hg5 hR5;refine K9 hK hS5 ?_;clear hK K;(try simp only[Act.put,List.setIfInBounds_toArray,List.set_cons_zero,List.set_cons_succ]);obtain⟨⟨j0,j1,j2⟩,m0,m1,m2⟩:=Q5.d.c3;refine K4 7 rfl (λK hK=>?_);go_simp;refine K9 hK hS5 ?_;clear hK K;(try simp only[Act.put,List.setIfInBounds_toArray,List.set_cons_zero,List.set_cons_succ]);refine K4 8 rfl (λK hK=>?_);go_simp;refine K9 hK hS5 ?_;clear hK K;(try simp only[Act.put,List.setIfInBounds_toArray,List.set_cons_zero,List.set_cons_succ]);refine K4 9 rfl (λK hK=>?_);go_simp;refine K9 hK hS5 ?_;clear hK K;(try simp only[Act.put,List.setIfInBounds_toArray,List.set_cons_zero,List.set_cons_succ]);refine K4 10 rfl (λK hK=>?_);go_simp;refine K9 hK hS5 ?_;clear hK K;(try simp only[Act.put,List.setIfInBounds_toArray,List.set_cons_zero,List.set_cons_succ]);refine K4 11 rfl (λK hK=>?_);go_simp;refine Cj hK ?_;clear hK K;refine N2 (by kernel_rfl) ?_ _;have Q6:=Q5.set1 hrl nm1 hnz;clear j0 j1 j2 m0 m1 m2 hS1 hS5 Q5 cN;go_wp2_with fail;go_meet
    case rel=>exact⟨_,nm1,by omega,Q6⟩
  case rest =>
   obtain⟨M5,nm1,hM5,Q5⟩:=hcut;clear Q4 hc;obtain⟨z0,z1⟩:=Q5.j.a.c2';obtain⟨⟨j0,j1,j2⟩,-⟩:=Q5.d.c3;go_wp2_with fail;refine (FG b _ nm1 _ (hD.gr Q5.j.g hB).bk).mono ?_;rintro e w6 ⟨rfl,hb6⟩;have Q6:=Q5.up hb6;clear Q5 hb6 z0 z1 j0 j1 j2;obtain⟨z0,z1⟩:=Q6.j.a.c2';have Hth:Hid (∀X,w.grownBy X (some rb)->E5 X B (.slice a1 b.tg.length c1) b.tg):=λX hg=>G9 x1 hg hB;have hz0:=hD.2.1;have ht0:=hD.2.2;go_upto_if 39 with fail
   go_cut [6,7] (λ_ v7 wc=>∃(M:Nat)(an:Option Addr)(cn:Nat)(nl:List ByteArray),v7=.slice an nl.length cn/\M<=N+30/\nl.length<=50/\(∀s∈nl,s.size<=maxLen)/\Hid (∀X,w.grownBy X (some rb)->E5 X B (.slice an nl.length cn) nl)/\DQ w wc rb len M q v (.slice a1 b.tg.length c1) (.slice a2 b.bs.length c2) 2 nm1 (.slice none 0 0) [])
   case first =>
    cases hm:D2 (I9 b.bs) nm1
    ·rw[BH hm];go_wp2_with fail;go_meet
     case rel=>exact⟨M5,a1,c1,b.tg,rfl,by omega,ht0.1,hz0.1,Hth,Q6⟩
    ·obtain⟨hidx,hlt⟩:=Dv hm;rw[hidx];generalize I3 b nm1=k at *;have hpl:ps.length=b.bs.length:=by rw[← x3,B5]
     obtain⟨pv,hpv⟩:∃pv,ps[k]?=some pv:=⟨_,A0 (by omega)⟩;have hpm:=A6 hpv;have hpb:pv.1∈b.bs:=by rw[← x3];exact List.mem_map_of_mem hpm
     have hrow:=G9 x2.1 Q6.j.g hB;rw[hpl] at hrow;obtain⟨gr,cr,hgr⟩:=T7 hrow (by omega);obtain⟨rfl,-,rfl⟩:=Value.slice.inj hgr;have cN:=(hrow.cellAt (k*3+2) (by omega)).trans (U5 ps k pv hpv 2 _ rfl);have hon:=(x2.2 pv hpm).2.1;obtain⟨an,cn,han⟩:=hon.lst.shape;rw[han] at cN hon;have HN:Hid (∀X,w.grownBy X (some rb)->E5 X B (.slice an pv.1.nd.length cn) pv.1.nd):=λX hg=>G9 hon hg hB;clear hidx hm hgr han hpv;go_wp2_with fail;go_meet
     case rel=>exact⟨M5,an,cn,pv.1.nd,rfl,by omega,(ht0.2.2 _ hpb).2,(hz0.2 _ hpb).2,HN,Q6⟩
   case rest =>
    obtain⟨M7,an,cn,nl,rfl,hM7,hnl,hnz,HN,Q7⟩:=hcut;clear Q6 z0 z1;go_upto_region 8 with fail;go_cut [47] (λv47 wc=>∃(M:Nat)(x:Int),v47=.int .i64 x/\0<=x/\M<=N+31/\DQ w wc rb len M q v (.slice a1 b.tg.length c1) (.slice a2 b.bs.length c2) 2 nm1 (.slice none 0 0) [])
    case first =>
     go_wp2_with fail;refine (T0 rb len _ v 9 _ Q7.j.rd (by omega)).mono ?_;rintro e w8 ⟨⟨x,rfl,hx0,-⟩,hR8,hg8⟩;have Q8:=Q7.gr hrl hg8 hR8;clear Q7 hR8 hg8;go_wp2_with fail;go_meet
     case rel=>exact⟨_,x,rfl,hx0,by omega,Q8⟩
    case rest =>
     obtain⟨M8,x,rfl,hx0,hM8,Q8⟩:=hcut;clear Q7;apply_assumption
     go_cut [52,66,73] (λ_ _ _ wc=>∃(M:Nat)(kd:Int)(nm:ByteArray)(al:Option Addr)(cl:Nat)(list:List ByteArray),M<=N+100/\list.length<=60/\DQ w wc rb len M q v (.slice a1 b.tg.length c1) (.slice a2 b.bs.length c2) kd nm (.slice al list.length cl) list)
     case first =>
      rcases (by omega:x=0∨x=1∨x=2∨x=3∨x=4∨5<=x) with hx|hx|hx|hx|hx|hx
      ·subst hx;obtain⟨⟨j0,j1,j2⟩,m0,m1,m2⟩:=Q8.d.c3;obtain⟨z0,z1⟩:=Q8.j.a.c2';go_upto_region 14 with fail;have Q9:=Q8.set0 hrl 1;clear Q8 j0 j1 j2 m0 m1 m2 z0 z1;generalize wc.setCell ⟨q,0,none⟩ (.int .i64 1)=w9 at *;have hqz:=Q9.qz;have hlt9:=Q9.j.rd.lt;go_wp2_with fail;refine (Dx w9).mono ?_;rintro e w' ⟨rfl,rfl⟩;go_wp2_with fail;refine (Ca rb len _ v P0 5 _ 0 _ _ rfl (Q9.j.rd.alloc _) (by omega) (T8 w9 P0 9) (by omega) (by omega) (by omega)).mono ?_;rintro e wN ⟨⟨s9,hs9,rfl⟩,hRN,hgN⟩;have QN:=(Q9.alloc (.cells (P0.map Value.string).toArray 9)).gr hrl hgN hRN;have hs9z:s9.size<=maxLen:=Cy (ss:=P0) (by decide) s9 hs9;clear Q9 hs9 hgN hRN;obtain⟨⟨j0,j1,j2⟩,m0,m1,m2⟩:=QN.d.c3;go_upto_region 15 with fail;have QM:=QN.set1 hrl s9 hs9z;clear QN j0 j1 j2 m0 m1 m2 hs9z;generalize wN.setCell ⟨q,1,none⟩ (.string s9)=wM at *;obtain⟨z0,z1⟩:=QM.j.a.c2';have hOl:=Hth.out _ QM.j.g;have hLl:=hOl.lst.ls hz0.1;go_wp2_with fail
       refine (Ct rb len _ v _ 2 b.tg _ QM.j.rd (by omega) hLl ht0.1 (λa m c e=>by
        have hb:=hOl.lt a.block (by rw[e];rfl);omega)).mono ?_
       rintro e wS ⟨⟨u,ss,rfl,hou,hsl,hsm⟩,hRS,hgS⟩;have hzS:=QM.lt;have QS:=QM.gr hrl hgS hRS;have hou:=N3 hou hzS;have hssz:∀s∈ss,s.size<=maxLen:=λs hs=>hz0.1 s (hsm s hs);obtain⟨au,cu,rfl⟩:=K3 hou;clear hOl hLl z0 z1 QM hRS hgS hsm hzS;obtain⟨⟨j0,j1,j2⟩,m0,m1,m2⟩:=QS.d.c3;have hlE:ss.length<=60:=B3 hsl (B3 ht0.1 (by decide));have QE:=QS.set2 hrl _ ss hou hssz (B3 hsl (B3 ht0.1 (by decide)));clear QS hou hssz hsl;go_wp2_with fail;go_meet
       case rel=>exact⟨_,_,_,_,_,ss,by omega,hlE,QE⟩
      ·subst hx;obtain⟨⟨j0,j1,j2⟩,m0,m1,m2⟩:=Q8.d.c3;obtain⟨z0,z1⟩:=Q8.j.a.c2';go_upto_region 14 with fail;have Q9:=Q8.set0 hrl 1;clear Q8 j0 j1 j2 m0 m1 m2 z0 z1;generalize wc.setCell ⟨q,0,none⟩ (.int .i64 1)=w9 at *;have hqz:=Q9.qz;have hlt9:=Q9.j.rd.lt;go_wp2_with fail;refine (Dx w9).mono ?_;rintro e w' ⟨rfl,rfl⟩;go_wp2_with fail;refine (Ca rb len _ v P0 5 _ 0 _ _ rfl (Q9.j.rd.alloc _) (by omega) (T8 w9 P0 9) (by omega) (by omega) (by omega)).mono ?_;rintro e wN ⟨⟨s9,hs9,rfl⟩,hRN,hgN⟩;have QN:=(Q9.alloc (.cells (P0.map Value.string).toArray 9)).gr hrl hgN hRN;have hs9z:s9.size<=maxLen:=Cy (ss:=P0) (by decide) s9 hs9;clear Q9 hs9 hgN hRN;obtain⟨⟨j0,j1,j2⟩,m0,m1,m2⟩:=QN.d.c3;go_upto_region 15 with fail;have QM:=QN.set1 hrl s9 hs9z;clear QN j0 j1 j2 m0 m1 m2 hs9z;generalize wN.setCell ⟨q,1,none⟩ (.string s9)=wM at *;obtain⟨z0,z1⟩:=QM.j.a.c2';have hOl:=Hth.out _ QM.j.g;have hLl:=hOl.lst.ls hz0.1;go_wp2_with fail
       refine (Ct rb len _ v _ 2 b.tg _ QM.j.rd (by omega) hLl ht0.1 (λa m c e=>by
        have hb:=hOl.lt a.block (by rw[e];rfl);omega)).mono ?_
       rintro e wS ⟨⟨u,ss,rfl,hou,hsl,hsm⟩,hRS,hgS⟩;have hzS:=QM.lt;have QS:=QM.gr hrl hgS hRS;have hou:=N3 hou hzS;have hssz:∀s∈ss,s.size<=maxLen:=λs hs=>hz0.1 s (hsm s hs);obtain⟨au,cu,rfl⟩:=K3 hou;clear hOl hLl z0 z1 QM hRS hgS hsm hzS;obtain⟨⟨j0,j1,j2⟩,m0,m1,m2⟩:=QS.d.c3;have hlE:ss.length<=60:=B3 hsl (B3 ht0.1 (by decide));have QE:=QS.set2 hrl _ ss hou hssz (B3 hsl (B3 ht0.1 (by decide)));clear QS hou hssz hsl;go_wp2_with fail;go_meet
       case rel=>exact⟨_,_,_,_,_,ss,by omega,hlE,QE⟩
      ·subst hx;obtain⟨⟨j0,j1,j2⟩,m0,m1,m2⟩:=Q8.d.c3;obtain⟨z0,z1⟩:=Q8.j.a.c2';go_upto_region 14 with fail;have Q9:=Q8.set0 hrl 1;clear Q8 j0 j1 j2 m0 m1 m2 z0 z1;generalize wc.setCell ⟨q,0,none⟩ (.int .i64 1)=w9 at *;have hqz:=Q9.qz;have hlt9:=Q9.j.rd.lt;go_wp2_with fail;refine (Dx w9).mono ?_;rintro e w' ⟨rfl,rfl⟩;go_wp2_with fail;refine (Ca rb len _ v P0 5 _ 0 _ _ rfl (Q9.j.rd.alloc _) (by omega) (T8 w9 P0 9) (by omega) (by omega) (by omega)).mono ?_;rintro e wN ⟨⟨s9,hs9,rfl⟩,hRN,hgN⟩;have QN:=(Q9.alloc (.cells (P0.map Value.string).toArray 9)).gr hrl hgN hRN;have hs9z:s9.size<=maxLen:=Cy (ss:=P0) (by decide) s9 hs9;clear Q9 hs9 hgN hRN;obtain⟨⟨j0,j1,j2⟩,m0,m1,m2⟩:=QN.d.c3;go_upto_region 15 with fail;have QM:=QN.set1 hrl s9 hs9z;clear QN j0 j1 j2 m0 m1 m2 hs9z;generalize wN.setCell ⟨q,1,none⟩ (.string s9)=wM at *;obtain⟨z0,z1⟩:=QM.j.a.c2';have hOl:=Hth.out _ QM.j.g;have hLl:=hOl.lst.ls hz0.1;go_wp2_with fail
       refine (Ct rb len _ v _ 2 b.tg _ QM.j.rd (by omega) hLl ht0.1 (λa m c e=>by
        have hb:=hOl.lt a.block (by rw[e];rfl);omega)).mono ?_
       rintro e wS ⟨⟨u,ss,rfl,hou,hsl,hsm⟩,hRS,hgS⟩;have hzS:=QM.lt;have QS:=QM.gr hrl hgS hRS;have hou:=N3 hou hzS;have hssz:∀s∈ss,s.size<=maxLen:=λs hs=>hz0.1 s (hsm s hs);obtain⟨au,cu,rfl⟩:=K3 hou;clear hOl hLl z0 z1 QM hRS hgS hsm hzS;obtain⟨⟨j0,j1,j2⟩,m0,m1,m2⟩:=QS.d.c3;have hlE:ss.length<=60:=B3 hsl (B3 ht0.1 (by decide));have QE:=QS.set2 hrl _ ss hou hssz (B3 hsl (B3 ht0.1 (by decide)));clear QS hou hssz hsl;go_wp2_with fail;go_meet
       case rel=>exact⟨_,_,_,_,_,ss,by omega,hlE,QE⟩
      ·subst hx;obtain⟨⟨j0,j1,j2⟩,m0,m1,m2⟩:=Q8.d.c3;obtain⟨z0,z1⟩:=Q8.j.a.c2';go_upto_region 18 with fail;have Q9:=Q8.set0 hrl 3;clear Q8 j0 j1 j2 m0 m1 m2 z0 z1;generalize wc.setCell ⟨q,0,none⟩ (.int .i64 3)=w9 at *;obtain⟨z0,z1⟩:=Q9.j.a.c2';have hOl:=HN.out _ Q9.j.g;have hLl:=hOl.lst.ls hnz;go_wp2_with fail
       refine (Ct rb len _ v _ 2 nl _ Q9.j.rd (by omega) hLl hnl (λa m c e=>by
        have hb:=hOl.lt a.block (by rw[e];rfl);omega)).mono ?_
       rintro e wS ⟨⟨u,ss,rfl,hou,hsl,hsm⟩,hRS,hgS⟩;have hzS:=Q9.lt;have QS:=Q9.gr hrl hgS hRS;have hou:=N3 hou hzS;have hssz:∀s∈ss,s.size<=maxLen:=λs hs=>hnz s (hsm s hs);obtain⟨au,cu,rfl⟩:=K3 hou;clear hOl hLl z0 z1 Q9 hRS hgS hsm hzS;obtain⟨⟨j0,j1,j2⟩,m0,m1,m2⟩:=QS.d.c3;have hlE:ss.length<=60:=B3 hsl (B3 hnl (by decide));have QE:=QS.set2 hrl _ ss hou hssz (B3 hsl (B3 hnl (by decide)));clear QS hou hssz hsl;go_wp2_with fail;go_meet
       case rel=>exact⟨_,_,_,_,_,ss,by omega,hlE,QE⟩
      ·subst hx;obtain⟨⟨j0,j1,j2⟩,m0,m1,m2⟩:=Q8.d.c3;obtain⟨z0,z1⟩:=Q8.j.a.c2';have QE:=Q8.set0 hrl 4;go_wp2_with fail;go_meet
       case rel=>exact⟨_,_,_,none,0,[],by omega,by simp,QE⟩
      ·have hx1:(x==0)=false:=by simp;omega
       have hx2:(x==1)=false:=by simp;omega
       have hx3:(x==2)=false:=by simp;omega
       have hx4:(x==3)=false:=by simp;omega
       have hx5:(x==4)=false:=by simp;omega
       clear hx;obtain⟨z0,z1⟩:=Q8.j.a.c2';have hOl:=HN.out _ Q8.j.g;have hLl:=hOl.lst.ls hnz;go_wp2_with fail
       refine (Ct rb len _ v _ 2 nl _ Q8.j.rd (by omega) hLl hnl (λa m c e=>by
        have hb:=hOl.lt a.block (by rw[e];rfl);omega)).mono ?_
       rintro e wS ⟨⟨u,ss,rfl,hou,hsl,hsm⟩,hRS,hgS⟩;have hzS:=Q8.lt;have QS:=Q8.gr hrl hgS hRS;have hou:=N3 hou hzS;have hssz:∀s∈ss,s.size<=maxLen:=λs hs=>hnz s (hsm s hs);obtain⟨au,cu,rfl⟩:=K3 hou;clear hOl hLl z0 z1 Q8 hRS hgS hsm hzS;obtain⟨⟨j0,j1,j2⟩,m0,m1,m2⟩:=QS.d.c3;have hlE:ss.length<=60:=B3 hsl (B3 hnl (by decide));have QE:=QS.set2 hrl _ ss hou hssz (B3 hsl (B3 hnl (by decide)));clear QS hou hssz hsl;go_wp2_with fail;go_meet
       case rel=>exact⟨_,_,_,_,_,ss,by omega,hlE,QE⟩
     case rest =>
      obtain⟨M9,kdF,nmF,alF,clF,listF,hM9,hlF,QF⟩:=hcut;clear Q8 hx0;go_wp2_with fail;refine (T0 rb len _ v 24 _ QF.j.rd (by omega)).mono ?_;rintro e wF ⟨⟨y,rfl,-,-⟩,hRF,hgF⟩;have QG:=QF.gr hrl hgF hRF;clear QF hRF hgF;by_cases hy:y=0
      ·subst hy;obtain⟨⟨j0,j1,j2⟩,m0,m1,m2⟩:=QG.d.c3;have hltG:=QG.j.rd.lt;have hqG:=QG.lt;have hqz:=QG.qz;have hS1:World.cell? wF.drew ⟨q,2,none⟩=some (.slice alF listF.length clF):=j2;have hbA:Below wF.heap.size wF (wF.drew.alloc (.cells (Gk.map Value.string).toArray 9)):=(A4 _ _).drew.alloc (A3 _) _;have QA:=QG.drew.alloc (.cells (Gk.map Value.string).toArray 9);have hSA:World.cell? (wF.drew.alloc (.cells (Gk.map Value.string).toArray 9)) ⟨q,2,none⟩=some (.slice alF listF.length clF):=(hbA.cell (p:=⟨q,2,none⟩) hqG).trans j2;have hstr:L6 (wF.drew.alloc (.cells (Gk.map Value.string).toArray 9)) wF.heap.size 0 Gk:=T8 wF.drew Gk 9;have hqr:some q≠some rb:=by simp;omega
       clear j0 j1 j2 m0 m1 m2;go_wp2_with fail;refine M4 8 (λw'=>World.cell? w' ⟨q,2,none⟩=some (.slice alF listF.length clF)) (by kernel_rfl) ?_;refine G3 (i:=0) (v:=?_) rfl (by kernel_rfl) (by kernel_rfl) (by kernel_rfl) (by kernel_rfl) (λ_ _ _ h=>h) (by rfl) hS1 ?_ ?_;rotate_left;focus (intro w hSw;(try dsimp only at hSw);go_simp;try with_reducible rfl);(try simp only[Act.put,List.setIfInBounds_toArray,List.set_cons_zero,List.set_cons_succ])
       refine G3 (i:=1) (v:=?_) rfl (by kernel_rfl) (by kernel_rfl) (by kernel_rfl) (by kernel_rfl) (λ_ _ _ h=>h) (by rfl) hS1 ?_ ?_;rotate_left;focus (intro w hSw;(try dsimp only at hSw);go_simp;try with_reducible rfl);(try simp only[Act.put,List.setIfInBounds_toArray,List.set_cons_zero,List.set_cons_succ])
       refine G3 (i:=2) (v:=?_) rfl (by kernel_rfl) (by kernel_rfl) (by kernel_rfl) (by kernel_rfl) (λ_ _ _ h=>h) (by rfl) hS1 ?_ ?_;rotate_left;focus (intro w hSw;(try dsimp only at hSw);go_simp;try with_reducible rfl);(try simp only[Act.put,List.setIfInBounds_toArray,List.set_cons_zero,List.set_cons_succ])
       refine K4 3 rfl (λK hK=>?_);go_simp;refine K9 hK hSA ?_;clear hK K;(try simp only[Act.put,List.setIfInBounds_toArray,List.set_cons_zero,List.set_cons_succ]);refine K4 4 rfl (λK hK=>?_);go_simp;go_wp2_with (go_at_call 56;refine (Ca rb len _ v Gk 4 wF.heap.size 0 4 _ rfl QA.j.rd (by omega) hstr (by omega) (by omega) (by omega)).mono ?_;rintro e wN ⟨⟨s9,hs9,rfl⟩,hRN,hgN⟩;have QN:=QA.gr hrl hgN hRN;have hs9z:s9.size<=maxLen:=Cy (ss:=Gk) (by decide) s9 hs9;have hSN:World.cell? wN ⟨q,2,none⟩=some (.slice alF listF.length clF):=hgN.cell hSA hqr)
       clear QA QG hgN hRN hstr hs9;refine K9 hK hSN ?_;clear hK K;(try simp only[Act.put,List.setIfInBounds_toArray,List.set_cons_zero,List.set_cons_succ]);have QB:=QN.alloc (.cells #[.string s9] 9);have hSB:World.cell? (wN.alloc (.cells #[.string s9] 9)) ⟨q,2,none⟩=some (.slice alF listF.length clF):=QB.d.c3.1.2.2;have hownB:=QB.l;have hwB:q+1<=(wN.alloc (.cells #[.string s9] 9)).heap.size:=QB.lt;refine K4 5 rfl (λK hK=>?_);go_simp;refine K9 hK hSB ?_;clear hK K;(try simp only[Act.put,List.setIfInBounds_toArray,List.set_cons_zero,List.set_cons_succ]);refine K4 6 rfl (λK hK=>?_);refine O0 rfl _ _ 23 rfl (q+1) 9 is _ 1 16 Tryz.underlying23 his js0 js1 js2 rfl (by decide) _ _ _ rfl hownB ⟨wN.heap.size,0,none⟩ 1 1 [.string s9] rfl rfl (Z1 _ _ _) (CJ s9) (by unfold maxLen;omega) (by omega) hwB ?_;intro v' wP hownP hgrP;have hO:E5 wP (q+1) v' (listF++[s9]):=by unfold E5;simpa using hownP
       have JP:=QB.j.own hrl hownB hgrP (by omega);have dP:=QB.d.kept hgrP (R3 hownB (by omega));have hSP:World.cell? wP ⟨q,2,none⟩=some (.slice alF listF.length clF):=dP.c3.1.2.2;obtain⟨aP,cP,rfl⟩:=K3 hownP;obtain⟨⟨j0,j1,j2⟩,m0,m1,m2⟩:=dP.c3
       have hlz9:∀s∈listF++[s9],s.size<=maxLen:=λs hs=>by
        rcases C6.1 hs with h|h
        ·exact QB.lz s h
        ·obtain rfl:s=s9:=by simpa using h
         exact hs9z
       have hnzP:=QB.nz;clear QN QB hownB hgrP hownP hSN hSB;refine K9 hK hSP ?_;clear hK K;(try simp only[Act.put,List.setIfInBounds_toArray]);refine G3 (i:=7) (v:=?_) rfl (by kernel_rfl) (by kernel_rfl) (by kernel_rfl) (by kernel_rfl) (λ_ _ _ h=>h) (by rfl) hSP ?_ ?_;rotate_left;focus (intro w hSw;(try dsimp only at hSw);go_simp;try with_reducible rfl);(try simp only[Act.put,List.setIfInBounds_toArray,List.set_cons_zero,List.set_cons_succ])
       refine K4 8 rfl (λK hK=>?_);go_simp;refine Cj hK ?_;clear hK K;refine N2 (by kernel_rfl) ?_ _;have hlen:(listF++[s9]).length=listF.length+1:=by simp
       have QT:DQ w (wP.setCell ⟨q,2,none⟩ (.slice aP (listF.length+1) cP)) rb len (M9+1+1) q v (.slice a1 b.tg.length c1) (.slice a2 b.bs.length c2) kdF nmF (.slice aP (listF.length+1) cP) (listF++[s9]) :=
        ⟨JP.set hrl hqz _ _,dP.set (j:=2) (by simp),G9 hO (E3 (F7 _ _) _) (by omega),hqz,hnzP,hlz9,by rw[hlen];omega⟩
       have HLEN:Hid ((listF++[s9]).length=listF.length+1):=hlen;rw[← hlen] at QT ⊢
       clear hlen hS1 hSA hSP j0 j1 j2 m0 m1 m2 JP dP hO hlz9;generalize wP.setCell ⟨q,2,none⟩ (.slice aP (listF++[s9]).length cP)=wT at *;have kR:=QT.j.r;have hqz:=QT.qz;obtain⟨⟨j0,j1,j2⟩,-⟩:=QT.d.c3;obtain⟨⟨y0,y1,y2⟩,g0,g1,g2⟩:=kR.c3;go_wp2_with fail;refine LY Tryz.results36 Tryz.underlying69 rfl Kv kR rfl ?_;have hfin:=QT.fin (M:=N+200) hrl (by omega);first|exact hfin|(rw[HLEN.out] at hfin;exact hfin)
      ·have hy':(y==0)=false:=by simpa using hy
       by_cases hy1:y=1
       ·subst hy1;have hltG:=QG.j.rd.lt;go_wp2_with fail;refine (Ca rb len _ v Og 3 _ 0 _ _ rfl (QG.j.rd.alloc _) (by omega) (T8 wF Og 9) (by omega) (by omega) (by omega)).mono ?_;rintro e wN ⟨⟨s9,hs9,rfl⟩,hRN,hgN⟩;have QN:=(QG.alloc (.cells (Og.map Value.string).toArray 9)).gr hrl hgN hRN;have hs9z:s9.size<=maxLen:=Cy (ss:=Og) (by decide) s9 hs9;clear QG hs9 hgN hRN;obtain⟨⟨j0,j1,j2⟩,m0,m1,m2⟩:=QN.d.c3;go_upto_region 26 with fail;have QM:=QN.set1 hrl s9 hs9z;clear QN j0 j1 j2 m0 m1 m2 hs9z;generalize wN.setCell ⟨q,1,none⟩ (.string s9)=wM at *;have kR:=QM.j.r;have hqz:=QM.qz;obtain⟨⟨j0,j1,j2⟩,-⟩:=QM.d.c3;obtain⟨⟨y0,y1,y2⟩,g0,g1,g2⟩:=kR.c3;go_wp2_with fail;refine LY Tryz.results36 Tryz.underlying69 rfl Kv kR rfl ?_;exact QM.fin hrl (by omega)
       ·have hy1':(y==1)=false:=by simpa using hy1
        have kR:=QG.j.r;have hqz:=QG.qz;obtain⟨⟨j0,j1,j2⟩,-⟩:=QG.d.c3;obtain⟨⟨y0,y1,y2⟩,g0,g1,g2⟩:=kR.c3;go_wp2_with fail;refine LY Tryz.results36 Tryz.underlying69 rfl Kv kR rfl ?_;exact QG.fin hrl (by omega)
end Go.Proofs.YtmfjakieahkacaaGreatDoor
