/- RunOwn, by the specification and by the program (chapter 21). -/
import Derived.Test.YtaffjphkobhagaaGreatDoorJ30
set_option maxRecDepth 20000
set_option maxHeartbeats 4000000
namespace Go.Proofs.YtaffjphkobhagaaGreatDoor
open Proofs.Tryz
open Go.RowKit
variable{tmps:Array Value}{R:Ending->World->Prop}{fn:Func}{rk:Nat}{p:Ph}{P:Program}{T:TypeId}{w:World}
theorem Acg(h:p.okB=true):1<=p.k/\p.k<=5:=by
 unfold Ph.okB O7 at h;simp only[Bool.and_eq_true] at h;have h1:=h.1.1.2;unfold L4 at h1;grind
theorem Aey(p:Ph):(Dm p).length<=2:=by
 unfold Dm;split
 .have:=LN [p.a] p.b;simpa using this
 .simp
theorem Ach(x:Rb)(rv sv:Value)(w:World)(h:CU w x rv sv):
  Calls prog 76 #[.agg #[Tz x.nm,rv,sv,Tz x.ad,Iz x.si,Iz x.st]] w λe w'=>(∃u,e=.returned u/\R9 w' u (R6 x))/\Up w w':=by
 have a7:=λW (hB:Up w W)=>Ak x rv sv W (h.up hB);obtain⟨b,o,c,rfl,hr,hb,b3,b8⟩:=h.r;obtain⟨g,q,d,rfl,hl,hg⟩:=h.s;have ns:=h.ns;have np:=h.np;clear h;have hC:CB (w.alloc (.cells (Rzz x b o c g q d).toArray 52)) w.heap.size (Rzz x b o c g q d):=E9 w _ _;have a2:=(A4 w.heap.size w).alloc (A3 _) (.cells (Rzz x b o c g q d).toArray 52);have HO:Hid (∀W,Up w W->Calls prog 34 #[.agg (Rzz x b o c g q d).toArray] W λe w'=>e=.returned (.bool (pB (I7 x)))/\Up W w'):=a7;clear a7;go_in;go_upto_region 1 with fail;generalize w.alloc (.cells (Rzz x b o c g q d).toArray 52)=W1 at *;obtain⟨d0,d1,d2,d3,d4,d5⟩:=hC.c6;have a8:=hC.2.2;by_cases hk:I7 x
 case neg =>
  have HN:Hid (R6 x=[]):=Mh hk;have hp:=F3 hk;go_wp2_with fail;refine (HO.out _ a2).mono ?_;rw[hp];rintro e w1 ⟨rfl,a1⟩;go_wp2_with fail;go_ret;exact⟨⟨_,rfl,by rw[HN.out];exact Lg w1⟩,D3 (D3 a2 a1) ((A4 _ _).alloc (A3 _) _)⟩
 obtain⟨k,a6,a3⟩:=Iy hk.2.2.2.2.1;have HY:Hid (R6 x=Bq x.sl (Dm x.ps[k])):=by show _=_;rw[Mg hk,Iw a6 a3]
 have a4:=λW (hW:G4 W b o x.ps)=>Y7 x.ps b o c x.ad W hW np;rw[a3] at a4;have Hat:Hid (∀W,G4 W b o x.ps->Calls prog 72 #[Sx b o x.ps.length c,Tz x.ad] W λe w'=>e=.returned (Iz (k:Int))/\w'=W):=a4;have hp:=M5 hk;clear hk a4 a3;go_wp2_with fail;refine (HO.out _ a2).mono ?_;rw[hp];rintro e w1 ⟨rfl,a1⟩;go_upto_region 3 with fail;have a0:=D3 a2 a1;obtain⟨f0,f1,f2,f3,f4,f5⟩:=(hC.up a1 a8).c6;obtain⟨r0,r1,r2,r3,r4,r5,r6,r7⟩:=(hr.up a0 hb).cells k a6;have b9:=Aey x.ps[k];generalize x.ps[k]=p at *;have b4:w.heap.size<w1.heap.size:=A1 a8 a1.size;have a9:b<w1.heap.size:=A1 hb a0.size;have b0:Up w1 w1/\AS w1 w.heap.size 0 (Tz x.nm)/\AS w1 w.heap.size 1 (Sx b o x.ps.length c)/\AS w1 w.heap.size 2 (Sx g q x.sl.length d)/\AS w1 w.heap.size 3 (Tz x.ad)/\AS w1 w.heap.size 4 (Iz x.si)/\AS w1 w.heap.size 5 (Iz x.st)/\AS w1 b (o+k*8) (Tz p.nm)/\AS w1 b (o+k*8+1) (Iz p.k)/\AS w1 b (o+k*8+2) (Tz p.a)/\AS w1 b (o+k*8+3) (Tz p.b)/\AS w1 b (o+k*8+4) (Iz p.n)/\AS w1 b (o+k*8+5) (Iz p.wi)/\AS w1 b (o+k*8+6) (Tz p.t)/\AS w1 b (o+k*8+7) (Tz p.e):=⟨A4 _ _,f0,f1,f2,f3,f4,f5,r0,r1,r2,r3,r4,r5,r6,r7⟩;clear d0 d1 d2 d3 d4 d5 f0 f1 f2 f3 f4 f5 r0 r1 r2 r3 r4 r5 r6 r7 hp;have Hr:Hid (G4 w1 b o x.ps):=hr.up a0 hb;clear hr;go_wp2_with fail
 go_region_held (λw'=>Up w1 w'/\AS w' w.heap.size 0 (Tz x.nm)/\AS w' w.heap.size 1 (Sx b o x.ps.length c)/\AS w' w.heap.size 2 (Sx g q x.sl.length d)/\AS w' w.heap.size 3 (Tz x.ad)/\AS w' w.heap.size 4 (Iz x.si)/\AS w' w.heap.size 5 (Iz x.st)/\AS w' b (o+k*8) (Tz p.nm)/\AS w' b (o+k*8+1) (Iz p.k)/\AS w' b (o+k*8+2) (Tz p.a)/\AS w' b (o+k*8+3) (Tz p.b)/\AS w' b (o+k*8+4) (Iz p.n)/\AS w' b (o+k*8+5) (Iz p.wi)/\AS w' b (o+k*8+6) (Tz p.t)/\AS w' b (o+k*8+7) (Tz p.e)) (first|exact Acf b0|exact AfU b4 a9 sO sO)
  (first
   | (go_at_call 72;refine (Hat.out _ (Hr.out.up (And.left sO) a9)).mono ?_;rintro e w2 ⟨rfl,hw⟩;obtain rfl:=hw.symm;clear hw)
   | (go_at_call 128;refine (VE p _).mono ?_;rintro e w3 ⟨⟨u3,rfl,b1⟩,b2⟩;have a5:=D3 a0.drew b2)
   | (go_at_call 126;refine (Nk x b o c g q d _ _ _ (hl.up a5 hg) (A1 hg a5.size) ns b1 oM).mono ?_;rintro e w4 ⟨⟨u4,rfl,b6⟩,b7⟩))
 rename_i hHeld;have b5:=D3 a0 hHeld.1;clear hHeld b0 b1 b2 b7 a5;go_wp2_with fail;go_ret;exact⟨⟨_,rfl,by rw[HY.out];exact b6⟩,b5⟩
theorem Aez:(prog.info? 126).map (·.size)=some 8:=sI
theorem Ae0{q:Tmp}(h:fn.results=#[.cell q T]){d:TypeDesc}(hu:P.underlying T=some d)(hd:d.isRow=true)(hi:(P.info? T).map (·.size)=some 8){y0 y1 y2 y3 y4 y5 y6 y7 x0 x1 x2 x3 x4 x5 x6 x7:Value}
  (k:CB w rk [y0,y1,y2,y3,y4,y5,y6,y7]) (ht:tmps.getD q undef=Pz rk 0) (hR:R (.returned (.agg #[x0,x1,x2,x3,x4,x5,x6,x7])) ((((((((w.setCell ⟨rk,0,none⟩ x0).setCell ⟨rk,1,none⟩ x1).setCell ⟨rk,2,none⟩ x2).setCell ⟨rk,3,none⟩ x3).setCell ⟨rk,4,none⟩ x4).setCell ⟨rk,5,none⟩ x5).setCell ⟨rk,6,none⟩ x6).setCell ⟨rk,7,none⟩ x7)) :
  bodyPost P fn R .ret {tmps:=tmps,defers:=[]} ((((((((w.setCell ⟨rk,0,none⟩ x0).setCell ⟨rk,1,none⟩ x1).setCell ⟨rk,2,none⟩ x2).setCell ⟨rk,3,none⟩ x3).setCell ⟨rk,4,none⟩ x4).setCell ⟨rk,5,none⟩ x5).setCell ⟨rk,6,none⟩ x6).setCell ⟨rk,7,none⟩ x7) :=
 bodyPost_ret (Mu (cs:=[x0,x1,x2,x3,x4,x5,x6,x7]) h hu hd hi ht (k.copy8 x0 x1 x2 x3 x4 x5 x6 x7)) rfl hR
theorem SW(x:Rb)(b o c g q d:Nat)(w:World)(hr:G4 w b o x.ps)(hb:b<w.heap.size)(np:x.ps.length<=1048576):
  Calls prog 143 #[.agg (Rzz x b o c g q d).toArray] w λe w'=>(∃p:Ph,e=.returned (.agg #[Tz (p).nm,Iz (p).k,Tz (p).a,Tz (p).b,Iz (p).n,Iz (p).wi,Tz (p).t,Tz (p).e])/\∀(k:Nat)(hk:k<x.ps.length),M6 x.ps x.ad=(k:Int)->p=x.ps[k])/\Up w w':=by
 go_in;go_upto_region 1 with fail;obtain⟨W1,a2,kA,kR,a1,a8⟩:=cbE2 w (Rzz x b o c g q d) 52 [Ez,Iz 0,Ez,Ez,Iz 0,Iz 0,Ez,Ez] 126;try rw[a2]
 clear a2;obtain⟨d0,d1,d2,d3,d4,d5⟩:=kA.c6;go_wp2_with fail;refine (GZ x.ps b o c x.ad _ (hr.up a1 hb) oM np).mono ?_;rintro e w3 ⟨⟨p,rfl,a7⟩,a0⟩;have b0:=a0.size;have kR:=kR.up a0 oM;have a5:=D3 a1 a0;clear d0 d1 d2 d3 d4 d5 kA a1 a0;go_upto_region 2 with fail;obtain⟨W4,a3,kP,a4,a9⟩:=cbE1 w3 [Tz (p).nm,Iz (p).k,Tz (p).a,Tz (p).b,Iz (p).n,Iz (p).wi,Tz (p).t,Tz (p).e] 126;try rw[a3]
 clear a3;have kR:=kR.up a4 oM;have a6:=D3 a5 a4;obtain⟨⟨f0,f1,f2,f3,f4,f5,f6,f7⟩,-⟩:=kP.c8;obtain⟨⟨r0,r1,r2,r3,r4,r5,r6,r7⟩,g0,g1,g2,g3,g4,g5,g6,g7⟩:=kR.c8;go_wp2_with fail;refine Ae0 results143 underlying126 rfl Aez kR rfl ?_;refine⟨⟨p,rfl,a7⟩,?_⟩;exact (((((((a6.setCell (p:=⟨w.heap.size+1,0,none⟩) (Nat.le_succ _) _).setCell (p:=⟨w.heap.size+1,1,none⟩) (Nat.le_succ _) _).setCell (p:=⟨w.heap.size+1,2,none⟩) (Nat.le_succ _) _).setCell (p:=⟨w.heap.size+1,3,none⟩) (Nat.le_succ _) _).setCell (p:=⟨w.heap.size+1,4,none⟩) (Nat.le_succ _) _).setCell (p:=⟨w.heap.size+1,5,none⟩) (Nat.le_succ _) _).setCell (p:=⟨w.heap.size+1,6,none⟩) (Nat.le_succ _) _).setCell (p:=⟨w.heap.size+1,7,none⟩) (Nat.le_succ _) _
theorem Aci(x:Rb)(rv sv:Value)(w:World)(hE:F6 w)(h:CU w x rv sv):
  Calls prog 89 #[.agg #[Tz x.nm,rv,sv,Tz x.ad,Iz x.si,Iz x.st]] w λe w'=>(∃u,e=.returned u/\F9 w' w.heap.size u (R6 x))/\Up w w':=by
 have b0:=λW (hB:Up w W)=>Ga x rv sv W (hE.up hB) (h.up hB);obtain⟨b,o,c,rfl,hr,hb,c2,c9⟩:=h.r;obtain⟨g,q,d,rfl,hl,hg⟩:=h.s;have ns:=h.ns;have np:=h.np;have zs:=h.zs;have zp:=h.zp;clear h;have hC:CB (w.alloc (.cells (Rzz x b o c g q d).toArray 52)) w.heap.size (Rzz x b o c g q d):=E9 w _ _;have a3:=(A4 w.heap.size w).alloc (A3 _) (.cells (Rzz x b o c g q d).toArray 52);have HO:Hid (∀W,Up w W->Calls prog 85 #[.agg (Rzz x b o c g q d).toArray] W λe w'=>e=.returned (.bool (pB (I7 x)))/\Up W w'):=b0;clear b0 hE;go_in;go_upto_region 1 with fail;generalize w.alloc (.cells (Rzz x b o c g q d).toArray 52)=W1 at *;obtain⟨d0,d1,d2,d3,d4,d5⟩:=hC.c6;have b1:=hC.2.2;by_cases hk:I7 x
 case neg =>
  have HN:Hid (R6 x=[]):=Mh hk;have hp:=F3 hk;go_wp2_with fail;refine (HO.out _ a3).mono ?_;rw[hp];rintro e w1 ⟨rfl,a2⟩;go_wp2_with fail;go_ret;exact⟨⟨_,rfl,by rw[HN.out];exact B9 _ _ _ _⟩,D3 a3 a2⟩
 have a1:=hk.2.2.2.2.1
 have HY:Hid (∀p,p=EU x.ps x.ad->F8 (CQ x.sl (AY p))=R6 x/\(1<=p.k/\p.k<=5)/\∀s∈AY p,s.size<=maxLen):=by
  show _
  rintro p rfl;have hm:=Dd a1;refine⟨?_,Acg (Cy hk.2.1 hm),λs hs=>?_⟩
  .rw[Mg hk];exact SV (Abz x.sl _ hk.2.2.1.nodup (RH _))
  .obtain⟨_,z1,z2,_⟩:=zp _ hm;unfold AY at hs;split at hs
   .simp only[List.mem_cons,List.not_mem_nil,or_false] at hs;rcases hs with rfl|rfl
    .exact z1
    .exact z2
   .simp only[List.mem_cons,List.not_mem_nil,or_false] at hs;rw[hs];exact z1
 have hp:=M5 hk;clear hk;go_wp2_with fail;refine (HO.out _ a3).mono ?_;rw[hp];rintro e w1 ⟨rfl,a2⟩;go_upto_region 3 with fail;have a0:=D3 a3 a2;obtain⟨f0,f1,f2,f3,f4,f5⟩:=(hC.up a2 b1).c6;have c4:w.heap.size<w1.heap.size:=A1 b1 a2.size;have b2:Up w1 w1/\AS w1 w.heap.size 0 (Tz x.nm)/\AS w1 w.heap.size 1 (Sx b o x.ps.length c)/\AS w1 w.heap.size 2 (Sx g q x.sl.length d)/\AS w1 w.heap.size 3 (Tz x.ad)/\AS w1 w.heap.size 4 (Iz x.si)/\AS w1 w.heap.size 5 (Iz x.st):=⟨A4 _ _,f0,f1,f2,f3,f4,f5⟩;clear d0 d1 d2 d3 d4 d5 f0 f1 f2 f3 f4 f5 hp hC;go_wp2_with fail
 go_region_held (λw'=>Up w1 w'/\AS w' w.heap.size 0 (Tz x.nm)/\AS w' w.heap.size 1 (Sx b o x.ps.length c)/\AS w' w.heap.size 2 (Sx g q x.sl.length d)/\AS w' w.heap.size 3 (Tz x.ad)/\AS w' w.heap.size 4 (Iz x.si)/\AS w' w.heap.size 5 (Iz x.st)) (first|exact Ot b2|exact XF c4 sO sO)
  (first
   | (go_at_call 139;refine (GX x.sl g q d _ (hl.up a0.drew hg) (A1 hg a0.drew.size) ns (λy hy=>(zs y hy).1)).mono ?_;rintro e w5 ⟨⟨M,D,rfl,hM,hD,-⟩,b7⟩;have a4:=D3 a0.drew b7)
   | (go_at_call 143;refine (SW x b o c g q d _ (hr.up a4 hb) (A1 hb a4.size) np).mono ?_;rintro e w3 ⟨⟨p,rfl,b8⟩,a6⟩;have b3:=hM.up a6;have b4:=D3 a4 a6;obtain⟨HT,a5,c3⟩:=HY.out p (by obtain⟨k,a8,a9⟩:=Iy a1;rw[b8 k a8 a9,Iw a8 a9]);have HT':Hid (F8 (CQ x.sl (AY p))=R6 x):=HT;have d6:(AY p).length<=2:=(by unfold AY;split<;>simp);clear HT b8)
   | (go_at_call 142;refine (Lx p _ a5).mono ?_;rintro e w6 ⟨⟨u6,rfl,b9⟩,a7⟩;have b5:=b3.up a7;have b6:=D3 b4 a7)
   | (go_at_call 140;refine (GY x.sl (AY p) M _ D _ _ b5 hD (.inr b9) c3 oM).mono ?_;rintro e w7 ⟨⟨u7,rfl,c1⟩,c8⟩))
 rename_i hHeld;have c5:=D3 a0 hHeld.1;have c7:=Dj c1 b6.size;clear hHeld b2 b9 c1 b7 a7 c8 hM hD b5 a4 b6 b3 b4 a6;go_wp2_with fail;go_ret;exact⟨⟨_,rfl,by rw[← HT'.out];exact c7⟩,c5⟩
end Go.Proofs.YtaffjphkobhagaaGreatDoor
