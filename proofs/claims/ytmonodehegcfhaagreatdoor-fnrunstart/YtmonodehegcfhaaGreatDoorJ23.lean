/- RunThings and RunOwn, by the specification and by the program (chapter 21). -/
import Derived.Test.YtmonodehegcfhaaGreatDoorJ19
import Derived.Test.YtmonodehegcfhaaGreatDoorJ16
import Derived.Test.YtmonodehegcfhaaGreatDoorJ2
import Derived.Test.YtmonodehegcfhaaGreatDoorJ15
import Derived.Test.YtmonodehegcfhaaGreatDoorJ8
import Derived.Test.YtmonodehegcfhaaGreatDoorJ13
import Derived.Test.YtmonodehegcfhaaGreatDoorJ14
import Derived.Test.YtmonodehegcfhaaGreatDoorJ9
import Derived.Test.YtmonodehegcfhaaGreatDoorJ7
set_option maxRecDepth 20000
set_option maxHeartbeats 8000000
namespace Go.Proofs.YtmonodehegcfhaaGreatDoor
open Go.Proofs.Tryz
open Go.RowKit
variable{tmps:Array Value}{h:House}{ss tt:List BA}{bs:List Rb}{l:List Sl}{cs vs xs:List Value}{B b b2 base base' cap e g i j k n o r rb rk y:Nat}{a a4:Option Addr}{k12 p q:Option Nat}{k10 k6 k7:Option Value}{P:Program}{x:Rb}{T:TypeId}{bu bv du dv rv sv tu tv u v' x0 x1 x10 x11 x12 x13 x2 x3 x4 x5 x6 x7 x8 x9 xu xv:Value}{W W1 X X' w w' w0 w1:World}
theorem ME{q:Nat}(h:Up W w0/\At w0 q 0 x0/\At w0 q 1 x1/\At w0 q 2 x2/\At w0 q 3 x3/\At w0 q 4 x4/\At w0 q 5 x5):Up W w0.drew/\w0.drew.cell? ⟨q,0,none⟩=some x0/\w0.drew.cell? ⟨q,1,none⟩=some x1/\w0.drew.cell? ⟨q,2,none⟩=some x2/\w0.drew.cell? ⟨q,3,none⟩=some x3/\w0.drew.cell? ⟨q,4,none⟩=some x4/\w0.drew.cell? ⟨q,5,none⟩=some x5 :=
 ⟨h.1.drew,h.2⟩
theorem SH{q:Nat}(hq:q<W.heap.size)(h:Up W w0/\At w0 q 0 x0/\At w0 q 1 x1/\At w0 q 2 x2/\At w0 q 3 x3/\At w0 q 4 x4/\At w0 q 5 x5)(hB:Up w0 w1):Up W w1/\At w1 q 0 x0/\At w1 q 1 x1/\At w1 q 2 x2/\At w1 q 3 x3/\At w1 q 4 x4/\At w1 q 5 x5:=by
 obtain⟨h0,a0,a1,a2,a3,a4,a5⟩:=h;have lq:q<w0.heap.size:=A2 hq h0.size;exact⟨D5 h0 hB,(hB.cell (p:=⟨q,0,none⟩) lq).trans a0,(hB.cell (p:=⟨q,1,none⟩) lq).trans a1,(hB.cell (p:=⟨q,2,none⟩) lq).trans a2,(hB.cell (p:=⟨q,3,none⟩) lq).trans a3,(hB.cell (p:=⟨q,4,none⟩) lq).trans a4,(hB.cell (p:=⟨q,5,none⟩) lq).trans a5⟩
theorem Ww{q:Nat}(h:Up W w0/\At w0 q 0 x0/\At w0 q 1 x1/\At w0 q 2 x2/\At w0 q 3 x3/\At w0 q 4 x4/\At w0 q 5 x5/\At w0 r o x6/\At w0 r (o+1) x7/\At w0 r (o+2) x8/\At w0 r (o+3) x9/\At w0 r (o+4) x10/\At w0 r (o+5) x11/\At w0 r (o+6) x12/\At w0 r (o+7) x13):Up W w0.drew/\w0.drew.cell? ⟨q,0,none⟩=some x0/\w0.drew.cell? ⟨q,1,none⟩=some x1/\w0.drew.cell? ⟨q,2,none⟩=some x2/\w0.drew.cell? ⟨q,3,none⟩=some x3/\w0.drew.cell? ⟨q,4,none⟩=some x4/\w0.drew.cell? ⟨q,5,none⟩=some x5/\w0.drew.cell? ⟨r,o,none⟩=some x6/\w0.drew.cell? ⟨r,o+1,none⟩=some x7/\w0.drew.cell? ⟨r,o+2,none⟩=some x8/\w0.drew.cell? ⟨r,o+3,none⟩=some x9/\w0.drew.cell? ⟨r,o+4,none⟩=some x10/\w0.drew.cell? ⟨r,o+5,none⟩=some x11/\w0.drew.cell? ⟨r,o+6,none⟩=some x12/\w0.drew.cell? ⟨r,o+7,none⟩=some x13 :=
 ⟨h.1.drew,h.2⟩
theorem YD{q:Nat}(hq:q<W.heap.size)(hr:r<W.heap.size)(h:Up W w0/\At w0 q 0 x0/\At w0 q 1 x1/\At w0 q 2 x2/\At w0 q 3 x3/\At w0 q 4 x4/\At w0 q 5 x5/\At w0 r o x6/\At w0 r (o+1) x7/\At w0 r (o+2) x8/\At w0 r (o+3) x9/\At w0 r (o+4) x10/\At w0 r (o+5) x11/\At w0 r (o+6) x12/\At w0 r (o+7) x13)(hB:Up w0 w1):Up W w1/\At w1 q 0 x0/\At w1 q 1 x1/\At w1 q 2 x2/\At w1 q 3 x3/\At w1 q 4 x4/\At w1 q 5 x5/\At w1 r o x6/\At w1 r (o+1) x7/\At w1 r (o+2) x8/\At w1 r (o+3) x9/\At w1 r (o+4) x10/\At w1 r (o+5) x11/\At w1 r (o+6) x12/\At w1 r (o+7) x13:=by
 obtain⟨h0,a0,a1,a2,a3,a4,a5,a6,a7,a8,a9,b0,b1,b2,b3⟩:=h;have lq:q<w0.heap.size:=A2 hq h0.size;have lr:r<w0.heap.size:=A2 hr h0.size;exact⟨D5 h0 hB,(hB.cell (p:=⟨q,0,none⟩) lq).trans a0,(hB.cell (p:=⟨q,1,none⟩) lq).trans a1,(hB.cell (p:=⟨q,2,none⟩) lq).trans a2,(hB.cell (p:=⟨q,3,none⟩) lq).trans a3,(hB.cell (p:=⟨q,4,none⟩) lq).trans a4,(hB.cell (p:=⟨q,5,none⟩) lq).trans a5,(hB.cell (p:=⟨r,o,none⟩) lr).trans a6,(hB.cell (p:=⟨r,o+1,none⟩) lr).trans a7,(hB.cell (p:=⟨r,o+2,none⟩) lr).trans a8,(hB.cell (p:=⟨r,o+3,none⟩) lr).trans a9,(hB.cell (p:=⟨r,o+4,none⟩) lr).trans b0,(hB.cell (p:=⟨r,o+5,none⟩) lr).trans b1,(hB.cell (p:=⟨r,o+6,none⟩) lr).trans b2,(hB.cell (p:=⟨r,o+7,none⟩) lr).trans b3⟩
theorem II.up{M:Nat}{D:DataW Unit}(h:II w M n D)(hB:Up w w'):II w' M n D :=
 World.ownsMap.kept (row:=none) h ⟨hB.os,hB.tape,hB.output,hB.size,λi hi _=>hB.block i hi⟩ (by simp)
theorem DC(h:M0 x)(nm:BA):G8 x nm=Af x.sl (O9 x.ps nm):=by unfold G8;rw[if_pos (L9 h)]
theorem EX(h:¬M0 x)(nm:BA):G8 x nm=[]:=by unfold G8;rw[I5 h];rfl
theorem Jb(h:M0 x):K7 x=Af x.sl (CA (AF x.ps x.ad)):=by unfold K7;rw[if_pos (L9 h)]
theorem Jc(h:¬M0 x):K7 x=[]:=by unfold K7;rw[I5 h];rfl
theorem Po(h:F1 (Af l ss)=Dv l tt):L0 (Dv l tt)=Af l ss:=by rw[← h,IL]
theorem EY(x:Rb)(rv sv:Value)(nm:BA)(w:World)(h:T1 w x rv sv):
  Calls prog 31 #[.agg #[Tz x.nm,rv,sv,Tz x.ad,Iz x.si,Iz x.st],Tz nm] w λe w'=>(∃u,e=.returned u/\R8 w' u (G8 x nm))/\Up w w':=by
 have a4:=λW (hB:Up w W)=>Bu x rv sv W (h.up hB);obtain⟨b,o,c,rfl,hr,hb,b0,b5⟩:=h.r;obtain⟨g,q,d,rfl,hl,hg⟩:=h.s;have ns:=h.ns;clear h;have hC:CB (w.alloc (Kz [Tz x.nm,Sy b o x.ps.length c,Sy g q x.sl.length d,Tz x.ad,Iz x.si,Iz x.st] 40)) w.heap.size [Tz x.nm,Sy b o x.ps.length c,Sy g q x.sl.length d,Tz x.ad,Iz x.si,Iz x.st]:=F3 w _ _;have a2:=(A5 w.heap.size w).alloc (A4 _) (Kz [Tz x.nm,Sy b o x.ps.length c,Sy g q x.sl.length d,Tz x.ad,Iz x.si,Iz x.st] 40);have HO:Hid (∀W,Up w W->Calls prog 44 #[.agg #[Tz x.nm,Sy b o x.ps.length c,Sy g q x.sl.length d,Tz x.ad,Iz x.si,Iz x.st]] W λe w'=>e=.returned (.bool (pB (M0 x)))/\Up W w'):=a4;clear a4;go_in;go_upto_region 1 with fail;generalize w.alloc (Kz [Tz x.nm,Sy b o x.ps.length c,Sy g q x.sl.length d,Tz x.ad,Iz x.si,Iz x.st] 40)=W1 at *;obtain⟨d0,d1,d2,d3,d4,d5⟩:=hC.c6;have a5:=hC.2.2;by_cases hk:M0 x
 case neg =>
  have HN:Hid (G8 x nm=[]):=EX hk nm;have hp:=I5 hk;go_wp2_with fail;refine (HO.out _ a2).mono ?_;rw[hp];rintro e w1 ⟨rfl,a1⟩;go_wp2_with fail;go_ret;exact⟨⟨_,rfl,by rw[HN.out];exact Ky w1⟩,D5 (D5 a2 a1) ((A5 _ _).alloc (A4 _) _)⟩
 have HY:Hid (G8 x nm=Af x.sl (O9 x.ps nm)):=DC hk nm;have a6:=hk.2.1;have b6:x.ps.length<=12:=((M3 x.ps).1 a6).2.1;have hp:=L9 hk;have b7:=DU x.ps nm;clear hk;go_wp2_with fail;refine (HO.out _ a2).mono ?_;rw[hp];rintro e w1 ⟨rfl,a1⟩;go_upto_region 3 with fail;have a0:=D5 a2 a1;obtain⟨f0,f1,f2,f3,f4,f5⟩:=(hC.up a1 a5).c6;have b1:w.heap.size<w1.heap.size:=A2 a5 a1.size;have a7:Up w1 w1/\At w1 w.heap.size 0 (Tz x.nm)/\At w1 w.heap.size 1 (Sy b o x.ps.length c)/\At w1 w.heap.size 2 (Sy g q x.sl.length d)/\At w1 w.heap.size 3 (Tz x.ad)/\At w1 w.heap.size 4 (Iz x.si)/\At w1 w.heap.size 5 (Iz x.st):=⟨A5 _ _,f0,f1,f2,f3,f4,f5⟩;clear d0 d1 d2 d3 d4 d5 f0 f1 f2 f3 f4 f5 hp;go_wp2_with fail
 go_region_held (λw'=>Up w1 w'/\At w' w.heap.size 0 (Tz x.nm)/\At w' w.heap.size 1 (Sy b o x.ps.length c)/\At w' w.heap.size 2 (Sy g q x.sl.length d)/\At w' w.heap.size 3 (Tz x.ad)/\At w' w.heap.size 4 (Iz x.si)/\At w' w.heap.size 5 (Iz x.st)) (first|exact ME a7|exact SH b1 (by assumption) (by assumption))
  (first
   | (go_at_call 65;refine (EW x.ps b o c a6 20 nm _ (hr.up (D5 a0 (And.left (by assumption))) hb) (A2 hb (D5 a0 (And.left (by assumption))).size) (by omega)).mono ?_;rintro e w3 ⟨⟨u3,rfl,a8⟩,a9⟩;have a3:=D5 a0 (D5 (A5 _ _).drew a9))
   | (go_at_call 83;refine (IZ x b o c g q d _ _ _ (hl.up a3 hg) (A2 hg a3.size) ns a8 (by omega)).mono ?_;rintro e w4 ⟨⟨u4,rfl,b3⟩,b4⟩))
 rename_i hHeld;have b2:=D5 a0 hHeld.1;clear hHeld a7 a8 a9 b4 a3;go_wp2_with fail;go_ret;exact⟨⟨_,rfl,by rw[HY.out];exact b3⟩,b2⟩
theorem He(x:Rb)(rv sv:Value)(nm:BA)(w:World)(hE:P2 w)(h:T1 w x rv sv):
  Calls prog 10 #[.agg #[Tz x.nm,rv,sv,Tz x.ad,Iz x.si,Iz x.st],Tz nm] w λe w'=>(∃u,e=.returned u/\F7 w' w.heap.size u (G8 x nm))/\Up w w':=by
 have a6:=λW (hB:Up w W)=>Ei x rv sv W (hE.up hB) (h.up hB);obtain⟨b,o,c,rfl,hr,hb,a3,b5⟩:=h.r;obtain⟨g,q,d,rfl,hl,hg⟩:=h.s;have ns:=h.ns;have zs:=h.zs;have zp:=h.zp;clear h;have hC:CB (w.alloc (Kz [Tz x.nm,Sy b o x.ps.length c,Sy g q x.sl.length d,Tz x.ad,Iz x.si,Iz x.st] 40)) w.heap.size [Tz x.nm,Sy b o x.ps.length c,Sy g q x.sl.length d,Tz x.ad,Iz x.si,Iz x.st]:=F3 w _ _;have a2:=(A5 w.heap.size w).alloc (A4 _) (Kz [Tz x.nm,Sy b o x.ps.length c,Sy g q x.sl.length d,Tz x.ad,Iz x.si,Iz x.st] 40);have HO:Hid (∀W,Up w W->Calls prog 47 #[.agg #[Tz x.nm,Sy b o x.ps.length c,Sy g q x.sl.length d,Tz x.ad,Iz x.si,Iz x.st]] W λe w'=>e=.returned (.bool (pB (M0 x)))/\Up W w'):=a6;have HE:Hid (P2 w):=hE;clear a6 hE;go_in;go_upto_region 1 with fail;generalize w.alloc (Kz [Tz x.nm,Sy b o x.ps.length c,Sy g q x.sl.length d,Tz x.ad,Iz x.si,Iz x.st] 40)=W1 at *;obtain⟨d0,d1,d2,d3,d4,d5⟩:=hC.c6;have a7:=hC.2.2;by_cases hk:M0 x
 case neg =>
  have HN:Hid (G8 x nm=[]):=EX hk nm;have hp:=I5 hk;go_wp2_with fail;refine (HO.out _ a2).mono ?_;rw[hp];rintro e w1 ⟨rfl,a1⟩;go_wp2_with fail;go_ret;exact⟨⟨_,rfl,by rw[HN.out];exact B9 _ _ _ _⟩,D5 a2 a1⟩
 have a8:=hk.2.1;have c1:x.ps.length<=12:=((M3 x.ps).1 a8).2.1
 have HY:Hid (L0 (Dv x.sl (O9 x.ps nm))=G8 x nm):=by
  show _=_
  rw[DC hk nm];exact Po (GT hk.2.2.1.nodup λ_=>Iff.rfl)
 have hV:CO x.ps nm=O9 x.ps nm:=by simp[CO,a8]
 have HR:Hid (∀W,Up w W->Calls prog 50 #[Sy b o x.ps.length c,Tz nm] W λe w'=>(∃u,e=.returned u/\F7 w' W.heap.size u (O9 x.ps nm))/\Up W w'):=λW hW=>by
  have:=Ka x.ps b o c nm W (HE.out.up hW) (hr.up hW hb) (A2 hb hW.size) zp a3 b5;rw[hV] at this;exact this
 have b6:=Kb zp nm;have hp:=L9 hk;have c2:=DU x.ps nm;clear hk hV;go_wp2_with fail;refine (HO.out _ a2).mono ?_;rw[hp];rintro e w1 ⟨rfl,a1⟩;go_upto_region 3 with fail;have a0:=D5 a2 a1;obtain⟨f0,f1,f2,f3,f4,f5⟩:=(hC.up a1 a7).c6;have b7:w.heap.size<w1.heap.size:=A2 a7 a1.size;have a9:Up w1 w1/\At w1 w.heap.size 0 (Tz x.nm)/\At w1 w.heap.size 1 (Sy b o x.ps.length c)/\At w1 w.heap.size 2 (Sy g q x.sl.length d)/\At w1 w.heap.size 3 (Tz x.ad)/\At w1 w.heap.size 4 (Iz x.si)/\At w1 w.heap.size 5 (Iz x.st):=⟨A5 _ _,f0,f1,f2,f3,f4,f5⟩;clear d0 d1 d2 d3 d4 d5 f0 f1 f2 f3 f4 f5 hp;go_wp2_with fail
 go_region_held (λw'=>Up w1 w'/\At w' w.heap.size 0 (Tz x.nm)/\At w' w.heap.size 1 (Sy b o x.ps.length c)/\At w' w.heap.size 2 (Sy g q x.sl.length d)/\At w' w.heap.size 3 (Tz x.ad)/\At w' w.heap.size 4 (Iz x.si)/\At w' w.heap.size 5 (Iz x.st)) (first|exact ME a9|exact SH b7 (by assumption) (by assumption))
  (first
   | (go_at_call 48;refine (GX x.sl g q d _ (hl.up a0.drew hg) (A2 hg a0.drew.size) ns (λy hy=>(zs y hy).1)).mono ?_;rintro e w2 ⟨⟨M,D,rfl,hM,hD,-⟩,b2⟩;have a4:=D5 a0.drew b2)
   | (go_at_call 50;refine (HR.out _ a4).mono ?_;rintro e w3 ⟨⟨u3,rfl,b3⟩,a5⟩;have b0:=hM.up a5;have b1:=D5 a4 a5)
   | (go_at_call 49;refine (GY x.sl (O9 x.ps nm) M _ D _ _ b0 hD b3.lst b6 (by omega)).mono ?_;rintro e w4 ⟨⟨u4,rfl,b4⟩,c0⟩))
 rename_i hHeld;have b8:=D5 a0 hHeld.1;have b9:=I8 b4 b1.size;clear hHeld a9 b3 b4 a5 c0 b1 hM hD b0 b2 a4;go_wp2_with fail;go_ret;exact⟨⟨_,rfl,by rw[← HY.out];exact b9⟩,b8⟩
theorem Wx{p:Ph}(h:p.okB=true):1<=p.k/\p.k<=5:=by
 unfold Ph.okB V9 at h;simp only[Bool.and_eq_true] at h;have h1:=h.1.1.2;unfold T0 at h1;by_cases e1:p.k=1
 ·omega
 by_cases e2:p.k=2
 ·omega
 by_cases e3:p.k=3
 ·omega
 by_cases e4:p.k=4∨p.k=5
 ·omega
 rw[if_neg e1,if_neg e2,if_neg e3,if_neg e4] at h1;cases h1
theorem RH(p:Ph):(CA p).length<=2:=by
 unfold CA;split
 ·have:=Iw [p.a] p.b;simpa using this
 ·simp
theorem Lk(x:Rb)(rv sv:Value)(w:World)(h:T1 w x rv sv):
  Calls prog 85 #[.agg #[Tz x.nm,rv,sv,Tz x.ad,Iz x.si,Iz x.st]] w λe w'=>(∃u,e=.returned u/\R8 w' u (K7 x))/\Up w w':=by
 have a7:=λW (hB:Up w W)=>Bu x rv sv W (h.up hB);obtain⟨b,o,c,rfl,hr,hb,b3,b8⟩:=h.r;obtain⟨g,q,d,rfl,hl,hg⟩:=h.s;have ns:=h.ns;have np:=h.np;clear h;have hC:CB (w.alloc (Kz [Tz x.nm,Sy b o x.ps.length c,Sy g q x.sl.length d,Tz x.ad,Iz x.si,Iz x.st] 40)) w.heap.size [Tz x.nm,Sy b o x.ps.length c,Sy g q x.sl.length d,Tz x.ad,Iz x.si,Iz x.st]:=F3 w _ _;have a2:=(A5 w.heap.size w).alloc (A4 _) (Kz [Tz x.nm,Sy b o x.ps.length c,Sy g q x.sl.length d,Tz x.ad,Iz x.si,Iz x.st] 40);have HO:Hid (∀W,Up w W->Calls prog 44 #[.agg #[Tz x.nm,Sy b o x.ps.length c,Sy g q x.sl.length d,Tz x.ad,Iz x.si,Iz x.st]] W λe w'=>e=.returned (.bool (pB (M0 x)))/\Up W w'):=a7;clear a7;go_in;go_upto_region 1 with fail;generalize w.alloc (Kz [Tz x.nm,Sy b o x.ps.length c,Sy g q x.sl.length d,Tz x.ad,Iz x.si,Iz x.st] 40)=W1 at *;obtain⟨d0,d1,d2,d3,d4,d5⟩:=hC.c6;have a8:=hC.2.2;by_cases hk:M0 x
 case neg =>
  have HN:Hid (K7 x=[]):=Jc hk;have hp:=I5 hk;go_wp2_with fail;refine (HO.out _ a2).mono ?_;rw[hp];rintro e w1 ⟨rfl,a1⟩;go_wp2_with fail;go_ret;exact⟨⟨_,rfl,by rw[HN.out];exact Ky w1⟩,D5 (D5 a2 a1) ((A5 _ _).alloc (A4 _) _)⟩
 obtain⟨k,a6,a3⟩:=EH hk.2.2.2.2.1;have HY:Hid (K7 x=Af x.sl (CA x.ps[k])):=by show _=_;rw[Jb hk,EB a6 a3]
 have a4:=λW (hW:M2 W b o x.ps)=>Bb x.ps b o c x.ad W hW np;rw[a3] at a4;have Hat:Hid (∀W,M2 W b o x.ps->Calls prog 77 #[Sy b o x.ps.length c,Tz x.ad] W λe w'=>e=.returned (Iz (k:Int))/\w'=W):=a4;have hp:=L9 hk;clear hk a4 a3;go_wp2_with fail;refine (HO.out _ a2).mono ?_;rw[hp];rintro e w1 ⟨rfl,a1⟩;go_upto_region 3 with fail;have a0:=D5 a2 a1;obtain⟨f0,f1,f2,f3,f4,f5⟩:=(hC.up a1 a8).c6;obtain⟨r0,r1,r2,r3,r4,r5,r6,r7⟩:=(hr.up a0 hb).cells k a6;have b9:=RH x.ps[k];generalize x.ps[k]=p at *;have b4:w.heap.size<w1.heap.size:=A2 a8 a1.size;have a9:b<w1.heap.size:=A2 hb a0.size;have b0:Up w1 w1/\At w1 w.heap.size 0 (Tz x.nm)/\At w1 w.heap.size 1 (Sy b o x.ps.length c)/\At w1 w.heap.size 2 (Sy g q x.sl.length d)/\At w1 w.heap.size 3 (Tz x.ad)/\At w1 w.heap.size 4 (Iz x.si)/\At w1 w.heap.size 5 (Iz x.st)/\At w1 b (o+k*8) (Tz p.nm)/\At w1 b (o+k*8+1) (Iz p.k)/\At w1 b (o+k*8+2) (Tz p.a)/\At w1 b (o+k*8+3) (Tz p.b)/\At w1 b (o+k*8+4) (Iz p.n)/\At w1 b (o+k*8+5) (Iz p.wi)/\At w1 b (o+k*8+6) (Tz p.t)/\At w1 b (o+k*8+7) (Tz p.e):=⟨A5 _ _,f0,f1,f2,f3,f4,f5,r0,r1,r2,r3,r4,r5,r6,r7⟩;clear d0 d1 d2 d3 d4 d5 f0 f1 f2 f3 f4 f5 r0 r1 r2 r3 r4 r5 r6 r7 hp;have Hr:Hid (M2 w1 b o x.ps):=hr.up a0 hb;clear hr;go_wp2_with fail
 go_region_held (λw'=>Up w1 w'/\At w' w.heap.size 0 (Tz x.nm)/\At w' w.heap.size 1 (Sy b o x.ps.length c)/\At w' w.heap.size 2 (Sy g q x.sl.length d)/\At w' w.heap.size 3 (Tz x.ad)/\At w' w.heap.size 4 (Iz x.si)/\At w' w.heap.size 5 (Iz x.st)/\At w' b (o+k*8) (Tz p.nm)/\At w' b (o+k*8+1) (Iz p.k)/\At w' b (o+k*8+2) (Tz p.a)/\At w' b (o+k*8+3) (Tz p.b)/\At w' b (o+k*8+4) (Iz p.n)/\At w' b (o+k*8+5) (Iz p.wi)/\At w' b (o+k*8+6) (Tz p.t)/\At w' b (o+k*8+7) (Tz p.e)) (first|exact Ww b0|exact YD b4 a9 (by assumption) (by assumption))
  (first
   | (go_at_call 77;refine (Hat.out _ (Hr.out.up (And.left (by assumption)) a9)).mono ?_;rintro e w2 ⟨rfl,hw⟩;obtain rfl:=hw.symm;clear hw)
   | (go_at_call 122;refine (RB p _).mono ?_;rintro e w3 ⟨⟨u3,rfl,b1⟩,b2⟩;have a5:=D5 a0.drew b2)
   | (go_at_call 83;refine (IZ x b o c g q d _ _ _ (hl.up a5 hg) (A2 hg a5.size) ns b1 (by omega)).mono ?_;rintro e w4 ⟨⟨u4,rfl,b6⟩,b7⟩))
 rename_i hHeld;have b5:=D5 a0 hHeld.1;clear hHeld b0 b1 b2 b7 a5;go_wp2_with fail;go_ret;exact⟨⟨_,rfl,by rw[HY.out];exact b6⟩,b5⟩
theorem XP:(prog.info? 43).map (·.size)=some 8:=by kernel_rfl
theorem XQ{fn:Func}{q:Tmp}(h:fn.results=#[.cell q T]){d:TypeDesc}(hu:P.underlying T=some d)(hd:d.isRow=true)(hi:(P.info? T).map (·.size)=some 8){R:Ending->World->Prop}{y0 y1 y2 y3 y4 y5 y6 y7:Value}
  (k:CB w rk [y0,y1,y2,y3,y4,y5,y6,y7]) (ht:tmps.getD q undef=Pz rk 0) (hR:R (.returned (.agg #[x0,x1,x2,x3,x4,x5,x6,x7])) ((((((((w.setCell ⟨rk,0,none⟩ x0).setCell ⟨rk,1,none⟩ x1).setCell ⟨rk,2,none⟩ x2).setCell ⟨rk,3,none⟩ x3).setCell ⟨rk,4,none⟩ x4).setCell ⟨rk,5,none⟩ x5).setCell ⟨rk,6,none⟩ x6).setCell ⟨rk,7,none⟩ x7)) :
  bodyPost P fn R .ret {tmps:=tmps,defers:=[]} ((((((((w.setCell ⟨rk,0,none⟩ x0).setCell ⟨rk,1,none⟩ x1).setCell ⟨rk,2,none⟩ x2).setCell ⟨rk,3,none⟩ x3).setCell ⟨rk,4,none⟩ x4).setCell ⟨rk,5,none⟩ x5).setCell ⟨rk,6,none⟩ x6).setCell ⟨rk,7,none⟩ x7) :=
 bodyPost_ret (JC (cs:=[x0,x1,x2,x3,x4,x5,x6,x7]) h hu hd hi ht (k.copy8 x0 x1 x2 x3 x4 x5 x6 x7)) rfl hR
theorem Pp(x:Rb)(b o c g q d:Nat)(w:World)(hr:M2 w b o x.ps)(hb:b<w.heap.size)(np:x.ps.length<=1048576):
  Calls prog 148 #[.agg #[Tz x.nm,Sy b o x.ps.length c,Sy g q x.sl.length d,Tz x.ad,Iz x.si,Iz x.st]] w λe w'=>(∃p:Ph,e=.returned (.agg #[Tz (p).nm,Iz (p).k,Tz (p).a,Tz (p).b,Iz (p).n,Iz (p).wi,Tz (p).t,Tz (p).e])/\∀(k:Nat)(hk:k<x.ps.length),U8 x.ps x.ad=(k:Int)->p=x.ps[k])/\Up w w':=by
 go_in;go_upto_region 1 with fail;obtain⟨W1,a2,kA,kR,a1,a8⟩:=cbE2 w [Tz x.nm,Sy b o x.ps.length c,Sy g q x.sl.length d,Tz x.ad,Iz x.si,Iz x.st] 40 [Ez,Iz 0,Ez,Ez,Iz 0,Iz 0,Ez,Ez] 43;try rw[a2]
 clear a2;obtain⟨d0,d1,d2,d3,d4,d5⟩:=kA.c6;go_wp2_with fail;refine (GU x.ps b o c x.ad _ (hr.up a1 hb) (by omega) np).mono ?_;rintro e w3 ⟨⟨p,rfl,a7⟩,a0⟩;have b0:=a0.size;have kR:=kR.up a0 (by omega);have a5:=D5 a1 a0;clear d0 d1 d2 d3 d4 d5 kA a1 a0;go_upto_region 2 with fail;obtain⟨W4,a3,kP,a4,a9⟩:=cbE1 w3 [Tz (p).nm,Iz (p).k,Tz (p).a,Tz (p).b,Iz (p).n,Iz (p).wi,Tz (p).t,Tz (p).e] 43;try rw[a3]
 clear a3;have kR:=kR.up a4 (by omega);have a6:=D5 a5 a4;obtain⟨⟨f0,f1,f2,f3,f4,f5,f6,f7⟩,-⟩:=kP.c8;obtain⟨⟨r0,r1,r2,r3,r4,r5,r6,r7⟩,g0,g1,g2,g3,g4,g5,g6,g7⟩:=kR.c8;go_wp2_with fail;refine XQ results148 underlying43 rfl XP kR rfl ?_;refine⟨⟨p,rfl,a7⟩,?_⟩;exact (((((((a6.setCell (p:=⟨w.heap.size+1,0,none⟩) (Nat.le_succ _) _).setCell (p:=⟨w.heap.size+1,1,none⟩) (Nat.le_succ _) _).setCell (p:=⟨w.heap.size+1,2,none⟩) (Nat.le_succ _) _).setCell (p:=⟨w.heap.size+1,3,none⟩) (Nat.le_succ _) _).setCell (p:=⟨w.heap.size+1,4,none⟩) (Nat.le_succ _) _).setCell (p:=⟨w.heap.size+1,5,none⟩) (Nat.le_succ _) _).setCell (p:=⟨w.heap.size+1,6,none⟩) (Nat.le_succ _) _).setCell (p:=⟨w.heap.size+1,7,none⟩) (Nat.le_succ _) _
theorem Ll(x:Rb)(rv sv:Value)(w:World)(hE:P2 w)(h:T1 w x rv sv):
  Calls prog 95 #[.agg #[Tz x.nm,rv,sv,Tz x.ad,Iz x.si,Iz x.st]] w λe w'=>(∃u,e=.returned u/\F7 w' w.heap.size u (K7 x))/\Up w w':=by
 have b0:=λW (hB:Up w W)=>Ei x rv sv W (hE.up hB) (h.up hB);obtain⟨b,o,c,rfl,hr,hb,c1,c8⟩:=h.r;obtain⟨g,q,d,rfl,hl,hg⟩:=h.s;have ns:=h.ns;have np:=h.np;have zs:=h.zs;have zp:=h.zp;clear h;have hC:CB (w.alloc (Kz [Tz x.nm,Sy b o x.ps.length c,Sy g q x.sl.length d,Tz x.ad,Iz x.si,Iz x.st] 40)) w.heap.size [Tz x.nm,Sy b o x.ps.length c,Sy g q x.sl.length d,Tz x.ad,Iz x.si,Iz x.st]:=F3 w _ _;have a3:=(A5 w.heap.size w).alloc (A4 _) (Kz [Tz x.nm,Sy b o x.ps.length c,Sy g q x.sl.length d,Tz x.ad,Iz x.si,Iz x.st] 40);have HO:Hid (∀W,Up w W->Calls prog 47 #[.agg #[Tz x.nm,Sy b o x.ps.length c,Sy g q x.sl.length d,Tz x.ad,Iz x.si,Iz x.st]] W λe w'=>e=.returned (.bool (pB (M0 x)))/\Up W w'):=b0;clear b0 hE;go_in;go_upto_region 1 with fail;generalize w.alloc (Kz [Tz x.nm,Sy b o x.ps.length c,Sy g q x.sl.length d,Tz x.ad,Iz x.si,Iz x.st] 40)=W1 at *;obtain⟨d0,d1,d2,d3,d4,d5⟩:=hC.c6;have b1:=hC.2.2;by_cases hk:M0 x
 case neg =>
  have HN:Hid (K7 x=[]):=Jc hk;have hp:=I5 hk;go_wp2_with fail;refine (HO.out _ a3).mono ?_;rw[hp];rintro e w1 ⟨rfl,a2⟩;go_wp2_with fail;go_ret;exact⟨⟨_,rfl,by rw[HN.out];exact B9 _ _ _ _⟩,D5 a3 a2⟩
 have a1:=hk.2.2.2.2.1
 have HY:Hid (∀p,p=AF x.ps x.ad->L0 (Dv x.sl (Cd p))=K7 x/\(1<=p.k/\p.k<=5)/\∀s∈Cd p,s.size<=maxLen):=by
  show _
  rintro p rfl;have hm:=DL a1;refine⟨?_,Wx (FN hk.2.1 hm),λs hs=>?_⟩
  ·rw[Jb hk];exact Po (Wa x.sl _ hk.2.2.1.nodup (OQ _))
  ·obtain⟨_,z1,z2,_⟩:=zp _ hm;unfold Cd at hs;split at hs
   ·simp only[List.mem_cons,List.not_mem_nil,or_false] at hs;rcases hs with rfl|rfl
    ·exact z1
    ·exact z2
   ·simp only[List.mem_cons,List.not_mem_nil,or_false] at hs;rw[hs];exact z1
 have hp:=L9 hk;clear hk;go_wp2_with fail;refine (HO.out _ a3).mono ?_;rw[hp];rintro e w1 ⟨rfl,a2⟩;go_upto_region 3 with fail;have a0:=D5 a3 a2;obtain⟨f0,f1,f2,f3,f4,f5⟩:=(hC.up a2 b1).c6;have c3:w.heap.size<w1.heap.size:=A2 b1 a2.size;have b2:Up w1 w1/\At w1 w.heap.size 0 (Tz x.nm)/\At w1 w.heap.size 1 (Sy b o x.ps.length c)/\At w1 w.heap.size 2 (Sy g q x.sl.length d)/\At w1 w.heap.size 3 (Tz x.ad)/\At w1 w.heap.size 4 (Iz x.si)/\At w1 w.heap.size 5 (Iz x.st):=⟨A5 _ _,f0,f1,f2,f3,f4,f5⟩;clear d0 d1 d2 d3 d4 d5 f0 f1 f2 f3 f4 f5 hp hC;go_wp2_with fail
 go_region_held (λw'=>Up w1 w'/\At w' w.heap.size 0 (Tz x.nm)/\At w' w.heap.size 1 (Sy b o x.ps.length c)/\At w' w.heap.size 2 (Sy g q x.sl.length d)/\At w' w.heap.size 3 (Tz x.ad)/\At w' w.heap.size 4 (Iz x.si)/\At w' w.heap.size 5 (Iz x.st)) (first|exact ME b2|exact SH c3 (by assumption) (by assumption))
  (first
   | (go_at_call 48;refine (GX x.sl g q d _ (hl.up a0.drew hg) (A2 hg a0.drew.size) ns (λy hy=>(zs y hy).1)).mono ?_;rintro e w5 ⟨⟨M,D,rfl,hM,hD,-⟩,b7⟩;have a4:=D5 a0.drew b7)
   | (go_at_call 148;refine (Pp x b o c g q d _ (hr.up a4 hb) (A2 hb a4.size) np).mono ?_;rintro e w3 ⟨⟨p,rfl,b8⟩,a6⟩;have b3:=hM.up a6;have b4:=D5 a4 a6;obtain⟨HT,a5,c2⟩:=HY.out p (by obtain⟨k,a8,a9⟩:=EH a1;rw[b8 k a8 a9,EB a8 a9]);have HT':Hid (L0 (Dv x.sl (Cd p))=K7 x):=HT;have c9:(Cd p).length<=2:=(by unfold Cd;split<;>simp);clear HT b8)
   | (go_at_call 147;refine (KJ p _ a5).mono ?_;rintro e w6 ⟨⟨u6,rfl,b9⟩,a7⟩;have b5:=b3.up a7;have b6:=D5 b4 a7)
   | (go_at_call 49;refine (GY x.sl (Cd p) M _ D _ _ b5 hD (.inr b9) c2 (by omega)).mono ?_;rintro e w7 ⟨⟨u7,rfl,c0⟩,c7⟩))
 rename_i hHeld;have c4:=D5 a0 hHeld.1;have c5:=I8 c0 b6.size;clear hHeld b2 b9 c0 b7 a7 c7 hM hD b5 a4 b6 b3 b4 a6;go_wp2_with fail;go_ret;exact⟨⟨_,rfl,by rw[← HT'.out];exact c5⟩,c4⟩
def Lm(w:World)(b o:Nat)(x:Rb):Prop:=∃rv sv,w.rangeAt b o [.string x.nm,rv,sv,.string x.ad,.int .i64 x.si,.int .i64 x.st]/\T1 w x rv sv
def El(w:World)(b o:Nat)(bs:List Rb):Prop:=∀(i:Nat)(x:Rb),bs[i]?=some x->Lm w b (o+i*6) x
def LY(w:World)(v:Value)(bs:List Rb):Prop:=∃a c,v=.slice a bs.length c/\bs.length<=maxLen/\(0<bs.length->∃b o,a=some ⟨b,o,none⟩/\El w b o bs/\b<w.heap.size)
def GE(w:World)(b o:Nat)(ds:List K0):Prop:=∀(i:Nat)(d:K0),ds[i]?=some d->w.rangeAt b (o+i*3) [.string d.nm,.int .i64 d.e,.int .i64 d.t]/\d.nm.size<=maxLen
def Nm(w:World)(v:Value)(ds:List K0):Prop:=∃a c,v=.slice a ds.length c/\ds.length<=maxLen/\(0<ds.length->∃b o,a=some ⟨b,o,none⟩/\GE w b o ds/\b<w.heap.size)
theorem Pq(h:w.rangeAt b o vs)(hb:Below B w w')(hB:b<B):w'.rangeAt b o vs:=λj v hv=>by
 rw[hb.cell (p:=⟨b,o+j,none⟩) hB];exact h j v hv
theorem Lm.up(h:Lm w b o x)(hb:Up w w')(hB:b<w.heap.size):Lm w' b o x:=by
 obtain⟨rv,sv,h1,h2⟩:=h;exact⟨rv,sv,Pq h1 hb hB,h2.up hb⟩
theorem El.up(h:El w b o bs)(hb:Up w w')(hB:b<w.heap.size):El w' b o bs:=λi x hx=>(h i x hx).up hb hB
theorem El.at(h:El w b o bs)(hk:k<bs.length):Lm w b (o+k*6) bs[k]:=h k _ (A0 hk)
theorem LY.up{v:Value}(h:LY w v bs)(hb:Up w w'):LY w' v bs:=by
 obtain⟨a,c,rfl,h1,h2⟩:=h;exact⟨a,c,rfl,h1,λhp=>by obtain⟨b,o,e,hr,a0⟩:=h2 hp;exact⟨b,o,e,hr.up hb a0,A2 a0 hb.size⟩⟩
theorem GE.up{ds:List K0}(h:GE w b o ds)(hb:Up w w')(hB:b<w.heap.size):GE w' b o ds:=λi d hd=>⟨Pq (h i d hd).1 hb hB,(h i d hd).2⟩
theorem Nm.up{v:Value}{ds:List K0}(h:Nm w v ds)(hb:Up w w'):Nm w' v ds:=by
 obtain⟨a,c,rfl,h1,h2⟩:=h;exact⟨a,c,rfl,h1,λhp=>by obtain⟨b,o,e,hr,a0⟩:=h2 hp;exact⟨b,o,e,hr.up hb a0,A2 a0 hb.size⟩⟩
structure HV (w:World) (h:House) (tv bv xv dv:Value):Prop where
 t:Ls w tv h.sh.tg
 b:Bs w bv h.sh.bs
 x:LY w xv h.bs
 d:Nm w dv h.ds
theorem HV.up(H:HV w h tv bv xv dv)(hb:Up w w'):HV w' h tv bv xv dv:=⟨H.t.up hb,H.b.up hb,H.x.up hb,H.d.up hb⟩
theorem HV.shapes(H:HV w h tv bv xv dv):∃a1 c1 a2 c2 a3 c3 a4 c4,tv=Vz a1 h.sh.tg.length c1/\bv=Vz a2 h.sh.bs.length c2/\xv=Vz a3 h.bs.length c3/\dv=Vz a4 h.ds.length c4:=by
 obtain⟨a1,c1,e1,-⟩:=H.t;obtain⟨a2,c2,e2,-⟩:=H.b;obtain⟨a3,c3,e3,-⟩:=H.x;obtain⟨a4,c4,e4,-⟩:=H.d;exact⟨a1,c1,a2,c2,a3,c3,a4,c4,e1,e2,e3,e4⟩
theorem HV.book(H:HV w h tv bv xv dv):Q6 w (.agg #[tv,bv]) h.sh:=⟨tv,bv,rfl,H.t,H.b⟩
theorem Uy(bs:List Rb)(k:Nat)(hk:k<bs.length):K1 (bs.take (k+1))=K1 (bs.take k)++[(bs[k]).nm]:=by
 unfold K1;rw[A8 hk,List.map_append];rfl
theorem LY.inv{v:Value}(h:LY w v bs){c:Nat}(e:v=Vz a n c):bs.length<=maxLen/\(0<bs.length->∃b o,a=some ⟨b,o,none⟩/\El w b o bs/\b<w.heap.size):=by
 obtain⟨a',c',e',h1,h2⟩:=h;rw[e'] at e;simp only[Value.slice.injEq] at e;obtain⟨rfl,-,-⟩:=e;exact⟨h1,h2⟩
theorem Lm.open(h:Lm w b o x):∃p q c g r d,(At w b o (Tz x.nm)/\At w b (o+1) (Sy p q x.ps.length c)/\At w b (o+2) (Sy g r x.sl.length d)/\At w b (o+3) (Tz x.ad)/\At w b (o+4) (Iz x.si)/\At w b (o+5) (Iz x.st))/\T1 w x (Sy p q x.ps.length c) (Sy g r x.sl.length d):=by
 obtain⟨rv,sv,hr,hv⟩:=h;obtain⟨p,q,c,rfl,-⟩:=hv.r;obtain⟨g,r,d,rfl,-⟩:=hv.s;exact⟨p,q,c,g,r,d,⟨hr 0 _ rfl,hr 1 _ rfl,hr 2 _ rfl,hr 3 _ rfl,hr 4 _ rfl,hr 5 _ rfl⟩,hv⟩
theorem Gg{q:Nat}(h:Up W w0/\At w0 q 0 x0/\At w0 q 1 x1/\At w0 q 2 x2/\At w0 q 3 x3/\At w0 q 4 x4/\At w0 q 5 x5/\At w0 r 0 x6/\At w0 r 1 x7/\At w0 r 2 x8/\At w0 r 3 x9/\At w0 r 4 x10/\At w0 r 5 x11):Up W w0.drew/\w0.drew.cell? ⟨q,0,none⟩=some x0/\w0.drew.cell? ⟨q,1,none⟩=some x1/\w0.drew.cell? ⟨q,2,none⟩=some x2/\w0.drew.cell? ⟨q,3,none⟩=some x3/\w0.drew.cell? ⟨q,4,none⟩=some x4/\w0.drew.cell? ⟨q,5,none⟩=some x5/\w0.drew.cell? ⟨r,0,none⟩=some x6/\w0.drew.cell? ⟨r,1,none⟩=some x7/\w0.drew.cell? ⟨r,2,none⟩=some x8/\w0.drew.cell? ⟨r,3,none⟩=some x9/\w0.drew.cell? ⟨r,4,none⟩=some x10/\w0.drew.cell? ⟨r,5,none⟩=some x11 :=
 ⟨h.1.drew,h.2⟩
theorem Gh{q:Nat}(hq:q<W.heap.size)(hr:r<W.heap.size)(h:Up W w0/\At w0 q 0 x0/\At w0 q 1 x1/\At w0 q 2 x2/\At w0 q 3 x3/\At w0 q 4 x4/\At w0 q 5 x5/\At w0 r 0 x6/\At w0 r 1 x7/\At w0 r 2 x8/\At w0 r 3 x9/\At w0 r 4 x10/\At w0 r 5 x11)(hB:Up w0 w1):Up W w1/\At w1 q 0 x0/\At w1 q 1 x1/\At w1 q 2 x2/\At w1 q 3 x3/\At w1 q 4 x4/\At w1 q 5 x5/\At w1 r 0 x6/\At w1 r 1 x7/\At w1 r 2 x8/\At w1 r 3 x9/\At w1 r 4 x10/\At w1 r 5 x11:=by
 obtain⟨h0,a0,a1,a2,a3,a4,a5,a6,a7,a8,a9,b0,b1⟩:=h;have lq:q<w0.heap.size:=A2 hq h0.size;have lr:r<w0.heap.size:=A2 hr h0.size;exact⟨D5 h0 hB,(hB.cell (p:=⟨q,0,none⟩) lq).trans a0,(hB.cell (p:=⟨q,1,none⟩) lq).trans a1,(hB.cell (p:=⟨q,2,none⟩) lq).trans a2,(hB.cell (p:=⟨q,3,none⟩) lq).trans a3,(hB.cell (p:=⟨q,4,none⟩) lq).trans a4,(hB.cell (p:=⟨q,5,none⟩) lq).trans a5,(hB.cell (p:=⟨r,0,none⟩) lr).trans a6,(hB.cell (p:=⟨r,1,none⟩) lr).trans a7,(hB.cell (p:=⟨r,2,none⟩) lr).trans a8,(hB.cell (p:=⟨r,3,none⟩) lr).trans a9,(hB.cell (p:=⟨r,4,none⟩) lr).trans b0,(hB.cell (p:=⟨r,5,none⟩) lr).trans b1⟩
theorem Bo(h:T1 w x rv sv)(nm:BA):∀s∈G8 x nm,s.size<=maxLen:=by
 by_cases hk:M0 x
 ·rw[DC hk];intro s hs;have h1:=((FZ _ _).2 s.toList).1 (CT.2 hs);simp only[F1,List.mem_map] at h1;obtain⟨_,⟨t,_,rfl⟩,e⟩:=h1;rw[← AE e];unfold U9;split
  ·rename_i y hy;exact (h.zs y (List.mem_of_find?_eq_some hy)).2
  ·exact Nat.zero_le _
 ·rw[EX hk];intro s hs;simp at hs
theorem Ah(h:T1 w x rv sv):∀s∈K7 x,s.size<=maxLen:=by
 by_cases hk:M0 x
 ·rw[Jb hk];intro s hs;have h1:=((FZ _ _).2 s.toList).1 (CT.2 hs);simp only[F1,List.mem_map] at h1;obtain⟨_,⟨t,_,rfl⟩,e⟩:=h1;rw[← AE e];unfold U9;split
  ·rename_i y hy;exact (h.zs y (List.mem_of_find?_eq_some hy)).2
  ·exact Nat.zero_le _
 ·rw[Jc hk];intro s hs;simp at hs
def F8{α:Type}(f:α->List Value):List α->List Value
 | []=>[]
 | a::r=>f a++F8 f r
theorem AU{α:Type}(f:α->List Value)(a b:List α):F8 f (a++b)=F8 f a++F8 f b:=by
 induction a with
 | nil=>rfl
 | cons p r ih=>simp[F8,ih]
theorem O4{α:Type}{f:α->List Value}{k:Nat}(hf:∀a,(f a).length=k):∀l:List α,(F8 f l).length=l.length*k
 | []=>by simp[F8]
 | a::r=>by rw[F8,B0,hf,O4 hf r,List.length_cons,Nat.succ_mul,Nat.add_comm]
theorem EI{α:Type}{f:α->List Value}{k:Nat}(hf:∀a,(f a).length=k):∀(l:List α)(i:Nat)(a:α),l[i]?=some a->∀(j:Nat)(u:Value),(f a)[j]?=some u->(F8 f l)[i*k+j]?=some u
 | q::r,0,a,h,j,u,hu=>by
  obtain rfl:q=a:=by simpa using h
  have hj:j<(f q).length:=(A3.1 hu).1;rw[F8,Nat.zero_mul,Nat.zero_add,List.getElem?_append_left hj];exact hu
 | q::r,i+1,a,h,j,u,hu=>by
  have:=EI hf r i a (by simpa using h) j u hu;rw[F8,Nat.succ_mul,C8 (by rw[hf];omega),hf,show i*k+k+j-k=i*k+j by omega];exact this
theorem Bl{α:Type}{f:α->List Value}{k:Nat}(hf:∀a,(f a).length=k):∀(l:List α)(i:Nat)(a a':α)(j:Nat)(u:Value),l[i]?=some a->j<k->f a'=(f a).set j u->(F8 f l).set (i*k+j) u=F8 f (l.set i a')
 | q::r,0,a,a',j,u,h,hj,e=>by
  obtain rfl:q=a:=by simpa using h
  rw[F8,Nat.zero_mul,Nat.zero_add,List.set_append_left _ _ (by rw[hf];exact hj),← e];rfl
 | q::r,i+1,a,a',j,u,h,hj,e=>by
  have:=Bl hf r i a a' j u (by simpa using h) hj e;rw[F8,Nat.succ_mul,List.set_append_right _ _ (by rw[hf];omega),hf,show i*k+k+j-k=i*k+j by omega,this];rfl
theorem GF{α:Type}{f:α->List Value}(l:List α)(h:∀a∈l,∀u∈f a,u.oneCell'=true):∀u∈F8 f l,u.oneCell'=true:=by
 induction l with
 | nil=>intro u hu;simp[F8] at hu
 | cons a r ih =>
  intro u hu;rw[F8,D0] at hu;rcases hu with hu|hu
  ·exact h a (by simp) u hu
  ·exact ih (λb hb=>h b (by simp[hb])) u hu
theorem V2{α:Type}{f:α->List Value}(hf:∀a,(f a).length=k){l:List α}(h:w.ownsRow base e k (Sz g n cap) n (F8 f l)){a:α}(hi:l[i]?=some a):w.rangeAt g (i*k) (f a):=λj u hu=>by
 have h1:=EI hf l i a hi j u hu;have hj:i*k+j<n*k:=by rw[← h.1];exact (A3.1 h1).1
 rw[h.cellAt (i*k+j) hj];exact h1
theorem CW{α:Type}{f:α->List Value}(hk:0<k)(hf:∀a,(f a).length=k){l:List α}(h:∀(i:Nat)(a:α),l[i]?=some a->w.rangeAt b (o+i*k) (f a)):∀(j:Nat)(u:Value),(F8 f l)[j]?=some u->w.cell? ((⟨b,o,none⟩:Addr).add j)=some u:=λj u hu=>by
 have hj:j<l.length*k:=by rw[← O4 hf];exact (A3.1 hu).1
 have hi:j / k<l.length:=Nat.div_lt_of_lt_mul (by rw[Nat.mul_comm];exact hj);have hm:j % k<k:=Nat.mod_lt _ hk;have hp:=A0 hi;have hl:j % k<(f (l[j / k])).length:=by rw[hf];exact hm
 have h3:=EI hf l (j / k) _ hp (j % k) _ (A0 hl);have ej:j / k*k+j % k=j:=by rw[Nat.mul_comm];exact Nat.div_add_mod j k
 rw[ej,hu] at h3;have h4:=h (j / k) _ hp (j % k) _ (A0 hl);rw[Addr.add_mid,show o+j=o+j / k*k+j % k by omega,h4];exact h3.symm
abbrev Rv:=Rb×Value×Value
def Q7(p:Rv):List Value:=[.string p.1.nm,p.2.1,p.2.2,.string p.1.ad,.int .i64 p.1.si,.int .i64 p.1.st]
theorem S6(p:Rv):(Q7 p).length=6:=rfl
theorem Em(p:Ph):p.cells.length=8:=rfl
theorem Z3(p:Sl):p.cells.length=2:=rfl
def K0.cells(d:K0):List Value:=[.string d.nm,.int .i64 d.e,.int .i64 d.t]
theorem U4(d:K0):d.cells.length=3:=rfl
structure Z5 (w:World) (base:Nat) (p:Rv):Prop where
 r:w.ownsRow base 43 8 p.2.1 p.1.ps.length (F8 Ph.cells p.1.ps)
 s:w.ownsRow base 58 2 p.2.2 p.1.sl.length (F8 Sl.cells p.1.sl)
 nr:NN p.2.1
 ns:NN p.2.2
 zp:Dd p.1.ps
 zs:∀y∈p.1.sl,y.s.size<=maxLen/\y.t.size<=maxLen
 zn:p.1.nm.size<=maxLen
 np:p.1.ps.length<=1048576
 nl:p.1.sl.length<=1048576
theorem Z5.v{p:Rv}(h:Z5 w base p):T1 w p.1 p.2.1 p.2.2:=by
 have hr:=h.r;have hs:=h.s;obtain⟨g,n,c,e⟩:=h.nr;obtain⟨g2,n2,c2,e2⟩:=h.ns;obtain⟨_,_,e3⟩:=I7 hr;obtain⟨_,_,e4⟩:=I7 hs;rw[e] at e3;rw[e2] at e4;simp only[Value.slice.injEq] at e3 e4;obtain⟨-,rfl,-⟩:=e3;obtain⟨-,rfl,-⟩:=e4;rw[e] at hr;rw[e2] at hs;have hc:=BP hr;refine⟨⟨g,0,c,e,λi q hq=>?_,(hr.lt g rfl).2,hc.1,?_⟩,⟨g2,0,c2,e2,λi q hq=>?_,(hs.lt g2 rfl).2⟩,h.zp,h.zs,h.zn,h.np,h.nl⟩
 ·rw[Nat.zero_add];exact V2 Em hr hq
 ·have:=hc.2;unfold maxLen at this;omega
 ·rw[Nat.zero_add];exact V2 Z3 hs hq
theorem Z5.low{p:Rv}(h:Z5 w base p)(hb:base'<=base):Z5 w base' p:=⟨I8 h.r hb,I8 h.s hb,h.nr,h.ns,h.zp,h.zs,h.zn,h.np,h.nl⟩
theorem Z5.up{p:Rv}(h:Z5 w base p)(hb:Up w w'):Z5 w' base p:=⟨E4 h.r hb,E4 h.s hb,h.nr,h.ns,h.zp,h.zs,h.zn,h.np,h.nl⟩
theorem Z5.gr{p:Rv}(h:Z5 w base p)(hg:w.grownBy w' (some rb))(hr:rb<base):Z5 w' base p:=⟨F2 h.r hg hr,F2 h.s hg hr,h.nr,h.ns,h.zp,h.zs,h.zn,h.np,h.nl⟩
theorem Z5.step{v:Value}{p:Rv}(h:Z5 w base p)(hrow:w.ownsRow b2 e k v n xs)(h1:43≠e)(h2:58≠e)(hg:w.grownBy w' v.ownBlock):Z5 w' base p :=
 ⟨E5 h.r hg (E9 h.r hrow h1),E5 h.s hg (E9 h.s hrow h2),h.nr,h.ns,h.zp,h.zs,h.zn,h.np,h.nl⟩
theorem Z5.as{p:Rv}{y:Rb}(h:Z5 w base p)(h1:y.ps=p.1.ps)(h2:y.sl=p.1.sl)(h3:y.nm=p.1.nm):Z5 w base (y,p.2.1,p.2.2) :=
 ⟨by rw[h1];exact h.r,by rw[h2];exact h.s,h.nr,h.ns,by rw[h1];exact h.zp,by rw[h2];exact h.zs,by rw[h3];exact h.zn,by rw[h1];exact h.np,by rw[h2];exact h.nl⟩
def V3(w:World)(base:Nat)(v:Value)(ps:List Rv):Prop:=w.ownsRow base 40 6 v ps.length (F8 Q7 ps)/\∀p∈ps,Z5 w base p
theorem V3.low{v:Value}{ps:List Rv}(h:V3 w base v ps)(hb:base'<=base):V3 w base' v ps:=⟨I8 h.1 hb,λp hp=>(h.2 p hp).low hb⟩
theorem V3.up{v:Value}{ps:List Rv}(h:V3 w base v ps)(hb:Up w w'):V3 w' base v ps:=⟨E4 h.1 hb,λp hp=>(h.2 p hp).up hb⟩
theorem V3.gr{v:Value}{ps:List Rv}(h:V3 w base v ps)(hg:w.grownBy w' (some rb))(hr:rb<base):V3 w' base v ps:=⟨F2 h.1 hg hr,λp hp=>(h.2 p hp).gr hg hr⟩
theorem V3.set{v:Value}{ps:List Rv}(h:V3 w base v ps)(hr:r<base):V3 (w.setCell ⟨r,j,none⟩ u) base v ps:=h.gr (E1 (E2 _ _) _) hr
theorem V3.rbs{v:Value}{ps:List Rv}(h:V3 w base v ps)(hm:ps.map (·.1)=bs):LY w v bs:=by
 subst hm;have hl:(ps.map (·.1)).length=ps.length:=B5 _;obtain⟨a,c,rfl⟩:=I7 h.1;refine⟨a,c,by rw[hl],by rw[hl];exact EF h.1,λhp=>?_⟩;rw[hl] at hp;obtain⟨g,a1,hv⟩:=I6 h.1 hp;obtain⟨rfl,-,rfl⟩:=Value.slice.inj hv;refine⟨g,0,rfl,λi x hx=>?_,(h.1.lt g rfl).2⟩;rw[B1,B6] at hx;obtain⟨p,a0,rfl⟩:=hx;refine⟨p.2.1,p.2.2,?_,(h.2 p (A7 a0)).v⟩;rw[Nat.zero_add];exact V2 S6 h.1 a0
theorem Gi{p:Rv}(h:Z5 w base p):∀u∈Q7 p,u.oneCell'=true:=λu hu=>by
 obtain⟨g,n,c,e⟩:=h.nr;obtain⟨g2,n2,c2,e2⟩:=h.ns;simp only[Q7,e,e2,List.mem_cons,List.not_mem_nil,or_false] at hu;rcases hu with rfl|rfl|rfl|rfl|rfl|rfl<;>rfl
theorem V3.app{v:Value}{ps:List Rv}{p:Rv}(h:V3 w base v ps)(hp:Z5 w base p)(hg:w.grownBy w' v.ownBlock)(ho:w'.ownsRow base 40 6 v' (ps.length+1) (F8 Q7 ps++Q7 p)):V3 w' base v' (ps++[p]):=by
 refine⟨?_,λq hq=>?_⟩
 ·rw[B0,AU];simpa [F8] using ho
 ·rcases D0.1 hq with h1|h1
  ·exact (h.2 q h1).step h.1 (by decide) (by decide) hg
  ·obtain rfl:q=p:=by simpa using h1
   exact hp.step h.1 (by decide) (by decide) hg
theorem Oh(w:World)(x0 x1 x2 x3 x4 x5:Value)(ty:TypeId){v:Value}(h:[x0,x1,x2,x3,x4,x5][j]?=some v):(w.alloc (Kz [x0,x1,x2,x3,x4,x5] ty)).cell? ((⟨w.heap.size,0,none⟩:Addr).add j)=some v:=by
 have hj:j < [x0,x1,x2,x3,x4,x5].length:=(A3.1 h).1;have:=(F3 w [x0,x1,x2,x3,x4,x5] ty).1 j v h;rw[Addr.add_mid];exact this
theorem V3.put{ps:List Rv}{p:Rv}{y:Rb}(h:V3 w base (Sz g n cap) ps)(hp:ps[i]?=some p)(hj:j<6)(hy:Q7 (y,p.2.1,p.2.2)=(Q7 p).set j u)(h1:y.ps=p.1.ps)(h2:y.sl=p.1.sl)(h3:y.nm=p.1.nm):
  V3 (w.setCell ⟨g,i*6+j,none⟩ u) base (Sz g n cap) (ps.set i (y,p.2.1,p.2.2)):=by
 obtain⟨_,_,e⟩:=I7 h.1;simp only[Value.slice.injEq] at e;obtain⟨-,rfl,-⟩:=e;have hi:i<ps.length:=(A3.1 hp).1;have hs:=(B4 h.1 (i*6+j) u).1;rw[Bl S6 ps i p (y,p.2.1,p.2.2) j u hp hj hy] at hs;have hg:w.grownBy (w.setCell ⟨g,i*6+j,none⟩ u) (Vz (some ⟨g,0,none⟩) ps.length cap).ownBlock:=E1 (E2 _ _) _;refine⟨by rw[List.length_set];exact hs,λq hq=>?_⟩;have hk:∀q,Z5 w base q->Z5 (w.setCell ⟨g,i*6+j,none⟩ u) base q:=λq hq=>hq.step h.1 (by decide) (by decide) hg;rcases List.mem_or_eq_of_mem_set hq with hq|rfl
 ·exact hk q (h.2 q hq)
 ·exact hk _ ((h.2 p (A7 hp)).as h1 h2 h3)
theorem L6.step{v:Value}{b:Bk}(h:L6 w base v b)(hrow:w.ownsRow b2 e k u n xs)(h1:9≠e)(h2:115≠e)(hg:w.grownBy w' u.ownBlock):L6 w' base v b:=by
 obtain⟨tu,bu,ps,rfl,a1,a2,a3⟩:=h;exact⟨tu,bu,ps,rfl,E5 a1 hg (E9 a1 hrow h1),⟨E5 a2.1 hg (E9 a2.1 hrow h2),λp hp=>⟨E5 (a2.2 p hp).1 hg (E9 (a2.2 p hp).1 hrow h1),E5 (a2.2 p hp).2.1 hg (E9 (a2.2 p hp).2.1 hrow h1),(a2.2 p hp).2.2⟩⟩,a3⟩
def Aq(w:World)(base:Nat)(v:Value)(ds:List K0):Prop:=∃(g cap:Nat)(pre:List K0),v=.slice (some ⟨g,pre.length*3,none⟩) ds.length cap/\w.ownsRow base 74 3 (.slice (some ⟨g,0,none⟩) (pre.length+ds.length) (pre.length+cap)) (pre.length+ds.length) (F8 K0.cells (pre++ds))/\∀d∈ds,d.nm.size<=maxLen
theorem Aq.low{v:Value}{ds:List K0}(h:Aq w base v ds)(hb:base'<=base):Aq w base' v ds:=by
 obtain⟨g,a0,a1,e,h1,h2⟩:=h;exact⟨g,a0,a1,e,I8 h1 hb,h2⟩
theorem Aq.up{v:Value}{ds:List K0}(h:Aq w base v ds)(hb:Up w w'):Aq w' base v ds:=by
 obtain⟨g,a0,a1,e,h1,h2⟩:=h;exact⟨g,a0,a1,e,E4 h1 hb,h2⟩
theorem Aq.gr{v:Value}{ds:List K0}(h:Aq w base v ds)(hg:w.grownBy w' (some rb))(hr:rb<base):Aq w' base v ds:=by
 obtain⟨g,a0,a1,e,h1,h2⟩:=h;exact⟨g,a0,a1,e,F2 h1 hg hr,h2⟩
theorem Aq.step{v:Value}{ds:List K0}(h:Aq w base v ds)(hrow:w.ownsRow b2 e k u n xs)(h1:74≠e)(hg:w.grownBy w' u.ownBlock):Aq w' base v ds:=by
 obtain⟨g,a0,a3,e,a1,a2⟩:=h;exact⟨g,a0,a3,e,E5 a1 hg (E9 a1 hrow h1),a2⟩
theorem Aq.dns{v:Value}{ds:List K0}(h:Aq w base v ds):Nm w v ds:=by
 obtain⟨g,a1,a0,rfl,h1,h2⟩:=h;refine⟨_,a1,rfl,by have:=EF h1;omega,λ_=>⟨g,a0.length*3,rfl,λi d hd=>⟨?_,h2 d (A7 hd)⟩,(h1.lt g rfl).2⟩⟩;have hi:(a0++ds)[a0.length+i]?=some d:=by rw[C8 (by omega),Nat.add_sub_cancel_left];exact hd
 have:=V2 U4 h1 hi;rw[Nat.add_mul] at this;exact this
theorem XR{v:Value}{ds:List K0}(h:w.ownsRow base 74 3 v ds.length (F8 K0.cells ds))(hn:NN v)(hz:∀d∈ds,d.nm.size<=maxLen):Aq w base v ds:=by
 obtain⟨g,n,c,rfl⟩:=hn;obtain⟨_,_,e⟩:=I7 h;simp only[Value.slice.injEq] at e;obtain⟨-,rfl,-⟩:=e;exact⟨g,c,[],by simp,by simpa using h,hz⟩
theorem Nm.sized{v:Value}{ds:List K0}(h:Nm w v ds):∀d∈ds,d.nm.size<=maxLen:=λd hd=>by
 obtain⟨a,c,-,-,h2⟩:=h;obtain⟨i,hi,rfl⟩:=B7 hd;obtain⟨b,o,-,hD,-⟩:=h2 (by omega);exact (hD i _ (A0 hi)).2
structure HW (w:World) (base:Nat) (h:House) (tv bv xv dv:Value):Prop where
 k:L6 w base (.agg #[tv,bv]) h.sh
 z:Y0 h.sh
 x:∃ps,V3 w base xv ps/\ps.map (·.1)=h.bs
 d:Aq w base dv h.ds
theorem HW.v(H:HW w base h tv bv xv dv):HV w h tv bv xv dv:=by
 obtain⟨ps,h1,h2⟩:=H.x;obtain⟨t,b,e,k1,k2⟩:=H.k.bk H.z;simp at e;obtain⟨rfl,rfl⟩:=e;exact⟨k1,k2,h1.rbs h2,H.d.dns⟩
theorem HW.low(H:HW w base h tv bv xv dv)(hb:base'<=base):HW w base' h tv bv xv dv:=by
 obtain⟨ps,h1,h2⟩:=H.x;exact⟨H.k.low hb,H.z,⟨ps,h1.low hb,h2⟩,H.d.low hb⟩
theorem HW.up(H:HW w base h tv bv xv dv)(hb:Up w w'):HW w' base h tv bv xv dv:=by
 obtain⟨ps,h1,h2⟩:=H.x;exact⟨H.k.up hb,H.z,⟨ps,h1.up hb,h2⟩,H.d.up hb⟩
theorem HW.gr(H:HW w base h tv bv xv dv)(hg:w.grownBy w' (some rb))(hr:rb<base):HW w' base h tv bv xv dv:=by
 obtain⟨ps,h1,h2⟩:=H.x;exact⟨H.k.gr hg hr,H.z,⟨ps,h1.gr hg hr,h2⟩,H.d.gr hg hr⟩
theorem HW.set(H:HW w base h tv bv xv dv)(hr:r<base):HW (w.setCell ⟨r,j,none⟩ u) base h tv bv xv dv:=H.gr (E1 (E2 _ _) _) hr
theorem RI:(prog.info? 43).map (λi=>(i.zero,i.size,i.bytes))=some (some (.agg #[Ez,Iz 0,Ez,Ez,Iz 0,Iz 0,Ez,Ez]),8,104):=by kernel_rfl
theorem Ii:(prog.info? 58).map (λi=>(i.zero,i.size,i.bytes))=some (some (.agg #[Ez,Ez]),2,32):=by kernel_rfl
theorem Ij:(prog.info? 40).map (λi=>(i.zero,i.size,i.bytes))=some (some (.agg #[Ez,Nz,Nz,Ez,Iz 0,Iz 0]),6,96):=by kernel_rfl
theorem KA:(prog.info? 74).map (λi=>(i.zero,i.size,i.bytes))=some (some (.agg #[Ez,Iz 0,Iz 0]),3,32):=by kernel_rfl
theorem BF:(prog.info? 40).map (·.size)=some 6:=by kernel_rfl
theorem YE(ps:List Ph):∀u∈F8 Ph.cells ps,u.oneCell'=true:=GF ps λa _ u hu=>by
 simp only[Ph.cells,List.mem_cons,List.not_mem_nil,or_false] at hu;rcases hu with rfl|rfl|rfl|rfl|rfl|rfl|rfl|rfl<;>rfl
theorem Xo(ps:List Sl):∀u∈F8 Sl.cells ps,u.oneCell'=true:=GF ps λa _ u hu=>by
 simp only[Sl.cells,List.mem_cons,List.not_mem_nil,or_false] at hu;rcases hu with rfl|rfl<;>rfl
theorem FG(ps:List K0):∀u∈F8 K0.cells ps,u.oneCell'=true:=GF ps λa _ u hu=>by
 simp only[K0.cells,List.mem_cons,List.not_mem_nil,or_false] at hu;rcases hu with rfl|rfl|rfl<;>rfl
theorem EJ(w:World)(e k:Nat):(w.alloc (Kz [] e)).ownsRow w.heap.size e k (Sz w.heap.size 0 0) 0 []:=C0 w #[] 0 (A4 _) (by unfold maxLen;omega) (by simp)
theorem G3(w:World)(b:Nat)(x0 x1 x2 x3 x4 x5:Value):w.grownBy ((((((w.setCell ⟨b,0,none⟩ x0).setCell ⟨b,1,none⟩ x1).setCell ⟨b,2,none⟩ x2).setCell ⟨b,3,none⟩ x3).setCell ⟨b,4,none⟩ x4).setCell ⟨b,5,none⟩ x5) (some b) :=
 E1 (rb:=b) (E1 (rb:=b) (E1 (rb:=b) (E1 (rb:=b) (E1 (rb:=b) (E1 (rb:=b) (E2 w _) _) _) _) _) _) _
theorem Jd(x:Rb)(rv sv:Value)(w:World)(H:T1 w x rv sv):
  Calls prog 29 #[.agg #[Tz x.nm,rv,sv,Tz x.ad,Iz x.si,Iz x.st]] w λe w'=>(∃ru su,e=.returned (.agg #[Tz x.nm,ru,su,Tz x.ad,Iz x.si,Iz x.st])/\Z5 w' w.heap.size (x,ru,su))/\Up w w':=by
 obtain⟨b,o,c,rfl,hr,hb,-,-⟩:=H.r;obtain⟨g,q,d,rfl,hs,hg⟩:=H.s;have e7:=H.np;have e8:=H.ns;obtain⟨ip,d3,p0,p1,p2⟩:=info_parts RI;obtain⟨is,d4,s0,s1,s2⟩:=info_parts Ii;obtain⟨W1,b4,kA,kR,a7,b5⟩:=cbE2 w [Tz x.nm,Sy b o x.ps.length c,Sy g q x.sl.length d,Tz x.ad,Iz x.si,Iz x.st] 40 [Ez,Nz,Nz,Ez,Iz 0,Iz 0] 40;go_in;go_upto_region 1 with fail;try rw[b4]
 clear b4;have d9:=hr.up a7 hb;have e9:=hs.up a7 hg;have a4:w.heap.size<W1.heap.size:=by omega
 have c2:w.heap.size+1<W1.heap.size:=by omega
 have e6:b<W1.heap.size:=by omega
 have f7:g<W1.heap.size:=by omega
 have Hs1:Hid (W1.heap.size=w.heap.size+2):=b5;clear b5;obtain⟨W2,b6,a8,a0⟩:∃W2,W1.alloc (Kz [] 43)=W2/\W2.ownsRow W1.heap.size 43 8 (Sz W1.heap.size 0 0) 0 []/\Up W1 W2:=⟨_,rfl,EJ _ _ _,(A5 _ _).alloc (A4 _) _⟩;have c3:=kA.up a0 a4;obtain⟨e0,e1,e2,e3,e4,e5⟩:=c3.c6;have c4:=CW (f:=Ph.cells) (by decide) Em (d9.up a0 e6);go_wp2_with (at_builtin;(try rw[b6]);refine AR _ rfl _ _ 31 rfl W1.heap.size 43 ip _ 8 104 underlying31 d3 p0 p1 p2 rfl (by decide) _ 0 [] rfl a8 (some ⟨b,o,none⟩) x.ps.length c (F8 Ph.cells x.ps) rfl (O4 Em _) (λ_=>⟨_,rfl,c4⟩) (YE _) (by unfold maxLen;omega) (by omega) a0.size ?_)
 intro v1 w1 hown1 hgr1 hnn1;have c5:w1.ownsRow W1.heap.size 43 8 v1 x.ps.length (F8 Ph.cells x.ps):=by simpa using hown1
 have b3:=hnn1 ⟨_,_,_,rfl⟩;have a2:Up W1 w1:=L5 a0 a0.size a8 hgr1 (A4 _);have a5:=kA.up a2 a4;have c7:=kR.up a2 c2;clear hown1 hgr1 hnn1 a8 c4 e0 e1 e2 e3 e4 e5 c3 kA kR b6 a0;obtain⟨e0,e1,e2,e3,e4,e5⟩:=a5.c6;obtain⟨f0,f1,f2,f3,f4,f5⟩:=a5.f6;obtain⟨g1,n1,m1,rfl⟩:=b3;go_upto_region 2 with fail
 obtain⟨W3,a9,b0,b7,b8,b9⟩:∃W3,w1.setCell ⟨w.heap.size,1,none⟩ (Sz g1 n1 m1)=W3/\CB W3 w.heap.size [Tz x.nm,Sz g1 n1 m1,Sy g q x.sl.length d,Tz x.ad,Iz x.si,Iz x.st]/\CB W3 (w.heap.size+1) [Ez,Nz,Nz,Ez,Iz 0,Iz 0]/\W3.ownsRow W1.heap.size 43 8 (Sz g1 n1 m1) x.ps.length (F8 Ph.cells x.ps)/\Up w W3 :=
  ⟨_,rfl,a5.set (j:=1) (by simp),c7.other (by omega),F2 c5 (E1 (E2 _ _) _) a4,(a7.trans (a2.mono (by omega))).setCell (p:=⟨w.heap.size,1,none⟩) (A4 _) _⟩
 try rw[a9]
 have f8:W1.heap.size<=W3.heap.size:=by rw[← a9];have:=a2.size;simpa using this
 clear a9 e0 e1 e2 e3 e4 e5 f0 f1 f2 f3 f4 f5 a5 c7 c5 a2;obtain⟨W4,c0,b1,a1⟩:∃W4,W3.alloc (Kz [] 58)=W4/\W4.ownsRow W3.heap.size 58 2 (Sz W3.heap.size 0 0) 0 []/\Up W3 W4:=⟨_,rfl,EJ _ _ _,(A5 _ _).alloc (A4 _) _⟩;have c8:=CW (f:=Sl.cells) (by decide) Z3 ((hs.up b9 hg).up a1 (by omega));have c9:=b0.up a1 (by omega);obtain⟨e0,e1,e2,e3,e4,e5⟩:=c9.c6;go_wp2_with (at_builtin;(try rw[c0]);refine AR _ rfl _ _ 32 rfl W3.heap.size 58 is _ 2 32 underlying32 d4 s0 s1 s2 rfl (by decide) _ 0 [] rfl b1 (some ⟨g,q,none⟩) x.sl.length d (F8 Sl.cells x.sl) rfl (O4 Z3 _) (λ_=>⟨_,rfl,c8⟩) (Xo _) (by unfold maxLen;omega) (by omega) a1.size ?_)
 intro v2 w2 hown2 hgr2 hnn2;have d0:w2.ownsRow W3.heap.size 58 2 v2 x.sl.length (F8 Sl.cells x.sl):=by simpa using hown2
 have b3:=hnn2 ⟨_,_,_,rfl⟩;have a3:Up W3 w2:=L5 a1 a1.size b1 hgr2 (A4 _);have a6:=b0.up a3 (by omega);have d1:=b7.up a3 (by omega);have d2:=E4 b8 a3;clear hown2 hgr2 hnn2 b1 c8 e0 e1 e2 e3 e4 e5 c9 b0 b7 c0 a1 b8;obtain⟨e0,e1,e2,e3,e4,e5⟩:=a6.c6;obtain⟨f0,f1,f2,f3,f4,f5⟩:=a6.f6;obtain⟨g2,n2,m2,rfl⟩:=b3;go_upto_region 3 with fail
 obtain⟨W5,c1,d5,b2,d6,d7,d8⟩:∃W5,w2.setCell ⟨w.heap.size,2,none⟩ (Sz g2 n2 m2)=W5/\CB W5 w.heap.size [Tz x.nm,Sz g1 n1 m1,Sz g2 n2 m2,Tz x.ad,Iz x.si,Iz x.st]/\CB W5 (w.heap.size+1) [Ez,Nz,Nz,Ez,Iz 0,Iz 0]/\W5.ownsRow W1.heap.size 43 8 (Sz g1 n1 m1) x.ps.length (F8 Ph.cells x.ps)/\W5.ownsRow W3.heap.size 58 2 (Sz g2 n2 m2) x.sl.length (F8 Sl.cells x.sl)/\Up w W5 :=
  ⟨_,rfl,a6.set (j:=2) (by simp),d1.other (by omega),F2 d2 (E1 (E2 _ _) _) a4,F2 d0 (E1 (E2 _ _) _) (by omega),(b9.trans (a3.mono (by omega))).setCell (p:=⟨w.heap.size,2,none⟩) (A4 _) _⟩
 try rw[c1]
 clear c1 e0 e1 e2 e3 e4 e5 f0 f1 f2 f3 f4 f5 a6 d1 d0 d2 a3;obtain⟨e0,e1,e2,e3,e4,e5⟩:=d5.c6;obtain⟨y0,y1,y2,y3,y4,y5⟩:=b2.c6;obtain⟨f0,f1,f2,f3,f4,f5⟩:=b2.f6;go_wp2_with fail;refine N8 results29 underlying40 rfl BF b2 rfl ?_;refine⟨⟨_,_,rfl,?_,?_,⟨_,_,_,rfl⟩,⟨_,_,_,rfl⟩,H.zp,H.zs,H.zn,H.np,H.ns⟩,I9 d8 (by omega) _ _ _ _ _ _⟩
 ·exact I8 (F2 d6 (G3 _ _ _ _ _ _ _ _) c2) (by omega)
 ·exact I8 (F2 d7 (G3 _ _ _ _ _ _ _ _) (by omega)) (by omega)
theorem G6:(prog.info? 30).map (·.size)=some 6:=by kernel_rfl
structure CS (W1:World) (h:House) (X:World) (k6 k7 k10:Option Value) (k12:Option Nat):Prop where
 B:Up W1 X
 s6:∀v,k6=some v->L6 X W1.heap.size v h.sh
 s7:∀v,k7=some v->X.ownsRow W1.heap.size 74 3 v 0 []/\NN v
 s10:∀v,k10=some v->X.ownsRow W1.heap.size 74 3 v h.ds.length (F8 K0.cells h.ds)/\NN v
 s12:∀y,k12=some y->X.ownsRow W1.heap.size 30 6 (.slice (some ⟨y,0,none⟩) 1 1) 1 [.int .i64 0,.int .i64 0,.slice none 0 0,.slice none 0 0,.slice none 0 0,.slice none 0 0]
theorem YF(W1:World)(h:House):CS W1 h W1 none none none none:=⟨A5 _ _,λ_ h=>(by cases h),λ_ h=>(by cases h),λ_ h=>(by cases h),λ_ h=>(by cases h)⟩
theorem CS.up(H:CS W1 h X k6 k7 k10 k12)(hb:Up X X'):CS W1 h X' k6 k7 k10 k12 :=
 ⟨D5 H.B hb,λv e=>(H.s6 v e).up hb,λv e=>⟨E4 (H.s7 v e).1 hb,(H.s7 v e).2⟩,λv e=>⟨E4 (H.s10 v e).1 hb,(H.s10 v e).2⟩,λy e=>E4 (H.s12 y e) hb⟩
theorem CS.call{v:Value}(H:CS W1 h X k6 k7 k10 k12)(hb:Up X X')(hv:L6 X' X.heap.size v h.sh):CS W1 h X' (some v) k7 k10 k12 :=
 {H.up hb with s6:=λu e=>by cases e;exact hv.low H.B.size}
theorem CS.lit(H:CS W1 h X k6 k7 k10 k12):CS W1 h (X.alloc (Kz [] 74)) k6 (some (Sz X.heap.size 0 0)) k10 k12 :=
 {H.up ((A5 _ _).alloc (A4 _) _) with s7:=λu e=>by cases e;exact⟨I8 (EJ X _ _) H.B.size,_,_,_,rfl⟩}
theorem CS.new(H:CS W1 h X k6 k7 k10 k12):CS W1 h (X.alloc (Kz [Iz 0,Iz 0,Nz,Nz,Nz,Nz] 30)) k6 k7 k10 (some X.heap.size) :=
 {H.up ((A5 _ _).alloc (A4 _) _) with s12:=λu e=>by cases e;exact C0 X _ 1 H.B.size (by unfold maxLen;omega) rfl}
theorem CS.app{v:Value}(H:CS W1 h X k6 (some v) k10 k12)(hg:X.grownBy X' v.ownBlock)(hv:X'.ownsRow W1.heap.size 74 3 v' (0+h.ds.length) ([]++F8 K0.cells h.ds))(hn:NN v'):CS W1 h X' k6 none (some v') k12:=by
 have h7:=(H.s7 v rfl).1;refine⟨L5 H.B H.B.size h7 hg (A4 _),λu e=>(H.s6 u e).step h7 (by decide) (by decide) hg,λ_ e=>(by cases e),λu e=>?_,λy e=>E5 (H.s12 y e) hg (E9 (H.s12 y e) h7 (by decide))⟩;cases e
 exact⟨by simpa using hv,hn⟩
theorem O8(h:w.ownsRow base e 6 (Sz y 1 1) 1 cs):CB w y cs:=by
 have hl:cs.length=6:=h.1;refine⟨λj v hv=>?_,λj hj=>?_,(h.lt y rfl).2⟩
 ·have hj:j<cs.length:=(A3.1 hv).1;rw[Nat.zero_add,h.cellAt j (by omega)];exact hv
 ·rw[Nat.zero_add];refine⟨?_,h.frozenAt j⟩;rw[h.cellAt j (by omega),A0 hj];rfl
structure CX (W1:World) (h:House) (X:World) (y:Nat) (tu bu xu du:Value):Prop where
 B:Up W1 X
 k:L6 X W1.heap.size (.agg #[tu,bu]) h.sh
 d:X.ownsRow W1.heap.size 74 3 du h.ds.length (F8 K0.cells h.ds)
 nd:NN du
 y:X.ownsRow W1.heap.size 30 6 (.slice (some ⟨y,0,none⟩) 1 1) 1 [.int .i64 h.now,.int .i64 h.last,tu,bu,xu,du]
theorem CX.up(H:CX W1 h X y tu bu xu du)(hb:Up X X'):CX W1 h X' y tu bu xu du :=
 ⟨D5 H.B hb,H.k.up hb,E4 H.d hb,H.nd,E4 H.y hb⟩
theorem CX.row{v:Value}(H:CX W1 h X y tu bu xu du)(hrow:X.ownsRow W1.heap.size 40 6 v n xs)(hg:X.grownBy X' v.ownBlock):CX W1 h X' y tu bu xu du :=
 ⟨L5 H.B H.B.size hrow hg (A4 _),H.k.step hrow (by decide) (by decide) hg,E5 H.d hg (E9 H.d hrow (by decide)),H.nd,E5 H.y hg (E9 H.y hrow (by decide))⟩
theorem CX.put(H:CX W1 h X y tu bu xu du)(u:Value):CX W1 h (X.setCell ⟨y,4,none⟩ u) y tu bu u du:=by
 obtain⟨h1,h2⟩:=B4 H.y 4 u;have hg:X.grownBy (X.setCell ⟨y,4,none⟩ u) (Vz (some ⟨y,0,none⟩) 1 1).ownBlock:=h2;exact⟨L5 H.B H.B.size H.y hg (A4 _),H.k.step H.y (by decide) (by decide) hg,E5 H.d hg (E9 H.d H.y (by decide)),H.nd,h1⟩
theorem V3.off{v:Value}{ps:List Rv}(H:CX W1 h X y tu bu xu du)(hr:V3 X base v ps):V3 (X.setCell ⟨y,j,none⟩ u) base v ps:=by
 have hg:X.grownBy (X.setCell ⟨y,j,none⟩ u) (Vz (some ⟨y,0,none⟩) 1 1).ownBlock:=(B4 H.y j u).2;exact⟨E5 hr.1 hg (E9 hr.1 H.y (by decide)),λp hp=>(hr.2 p hp).step H.y (by decide) (by decide) hg⟩
theorem CS.fin(H:CS W1 h X (some (.agg #[tu,bu])) none (some du) (some y)):CX W1 h ((((((X.setCell ⟨y,0,none⟩ (Iz h.now)).setCell ⟨y,1,none⟩ (Iz h.last)).setCell ⟨y,2,none⟩ tu).setCell ⟨y,3,none⟩ bu).setCell ⟨y,4,none⟩ (Nz)).setCell ⟨y,5,none⟩ du) y tu bu (Nz) du:=by
 have a0:=H.s12 y rfl;have h1:=B4 a0 0 (Iz h.now);have h2:=B4 h1.1 1 (Iz h.last);have h3:=B4 h2.1 2 tu;have h4:=B4 h3.1 3 bu;have h5:=B4 h4.1 4 (Nz);have h6:=B4 h5.1 5 du;have hg:X.grownBy ((((((X.setCell ⟨y,0,none⟩ (Iz h.now)).setCell ⟨y,1,none⟩ (Iz h.last)).setCell ⟨y,2,none⟩ tu).setCell ⟨y,3,none⟩ bu).setCell ⟨y,4,none⟩ (Nz)).setCell ⟨y,5,none⟩ du) (Vz (some ⟨y,0,none⟩) 1 1).ownBlock:=E0 (E0 (E0 (E0 (E0 h1.2 h2.2) h3.2) h4.2) h5.2) h6.2;exact⟨L5 H.B H.B.size a0 hg (A4 _),(H.s6 _ rfl).step a0 (by decide) (by decide) hg,E5 (H.s10 _ rfl).1 hg (E9 (H.s10 _ rfl).1 a0 (by decide)),(H.s10 _ rfl).2,h6.1⟩
theorem GG{ds:List K0}(h:0<ds.length->∃b o,a4=some ⟨b,o,none⟩/\GE w b o ds/\b<w.heap.size)(hb:Up w w'):0<ds.length->∃d,a4=some d/\∀j u,(F8 K0.cells ds)[j]?=some u->w'.cell? (d.add j)=some u:=λhp=>by
 obtain⟨b,o,rfl,hD,hlt⟩:=h hp;refine⟨_,rfl,CW (by decide) U4 λi d hd j u hu=>?_⟩;have h1:=(hD i d hd).1 j u hu;rw[hb.cell (p:=⟨b,o+i*3+j,none⟩) hlt];exact h1
theorem Cv(h:House)(tv bv xv dv:Value)(w:World)(H:HV w h tv bv xv dv)(hz1:h.sh.tg.length<=100)(hz2:h.sh.bs.length<=100)(hz3:∀y∈h.sh.bs,y.has.length<=100/\y.nj.length<=100)(hnb:h.bs.length<=1048576)(hnd:h.ds.length<=1048576):
  Calls prog 25 #[.agg #[.int .i64 h.now,.int .i64 h.last,tv,bv,xv,dv]] w λe w'=>(∃tu bu xu du,e=.returned (.agg #[.int .i64 h.now,.int .i64 h.last,tu,bu,xu,du])/\HW w' w.heap.size h tu bu xu du)/\Up w w':=by
 have Hsz:=H.book.szb;obtain⟨a1,c1,a2,c2,a3,c3,a4,c4,rfl,rfl,rfl,rfl⟩:=H.shapes;obtain⟨b3,a6,n0,n1,n2⟩:=info_parts KA;obtain⟨W1,f8,kA,kR,f9,g8⟩:=cbE2 w [.int .i64 h.now,.int .i64 h.last,.slice a1 h.sh.tg.length c1,.slice a2 h.sh.bs.length c2,.slice a3 h.bs.length c3,.slice a4 h.ds.length c4] 30 [.int .i64 0,.int .i64 0,.slice none 0 0,.slice none 0 0,.slice none 0 0,.slice none 0 0] 30;go_in;go_upto_region 1 with fail;try rw[f8]
 clear f8;have d6:w.heap.size<W1.heap.size:=by omega
 have c8:w.heap.size+1<W1.heap.size:=by omega
 have d7:w.heap.size<=W1.heap.size:=by omega
 clear g8;have H1:=H.up f9;have HB:Hid (Q6 W1 (.agg #[.slice a1 h.sh.tg.length c1,.slice a2 h.sh.bs.length c2]) h.sh):=H1.book
 have b0:Hid (0<h.ds.length->∃b o,a4=some ⟨b,o,none⟩/\GE W1 b o h.ds/\b<W1.heap.size):=by
  obtain⟨a,c,e,-,h2⟩:=H1.d;simp only[Value.slice.injEq] at e;obtain⟨rfl,-,-⟩:=e;exact h2
 have mk:∀w',Up W1 w'->Up W1 w'/\World.cell? w' ⟨w.heap.size,0,none⟩=some (.int .i64 h.now)/\World.cell? w' ⟨w.heap.size,1,none⟩=some (.int .i64 h.last)/\World.cell? w' ⟨w.heap.size,2,none⟩=some (.slice a1 h.sh.tg.length c1)/\World.cell? w' ⟨w.heap.size,3,none⟩=some (.slice a2 h.sh.bs.length c2)/\World.cell? w' ⟨w.heap.size,4,none⟩=some (.slice a3 h.bs.length c3)/\World.cell? w' ⟨w.heap.size,5,none⟩=some (.slice a4 h.ds.length c4):=λw' hb'=>by
  obtain⟨e0,e1,e2,e3,e4,e5⟩:=(kA.up hb' d6).c6;exact⟨hb',e0,e1,e2,e3,e4,e5⟩
 have Mk:Hid (∀w',Up W1 w'->Up W1 w'/\World.cell? w' ⟨w.heap.size,0,none⟩=some (.int .i64 h.now)/\World.cell? w' ⟨w.heap.size,1,none⟩=some (.int .i64 h.last)/\World.cell? w' ⟨w.heap.size,2,none⟩=some (.slice a1 h.sh.tg.length c1)/\World.cell? w' ⟨w.heap.size,3,none⟩=some (.slice a2 h.sh.bs.length c2)/\World.cell? w' ⟨w.heap.size,4,none⟩=some (.slice a3 h.bs.length c3)/\World.cell? w' ⟨w.heap.size,5,none⟩=some (.slice a4 h.ds.length c4)):=mk;clear mk;go_cut [3] (λv3 wc=>∃(Y:Nat)(tu bu du:Value),v3=.pointer (some ⟨Y,0,none⟩)/\CX W1 h wc Y tu bu (.slice none 0 0) du)
 case first =>
  have hC:CS W1 h W1.drew none none none none:=(YF W1 h).up (A5 _ _).drew;refine F5 99 (λw'=>Up W1 w'/\World.cell? w' ⟨w.heap.size,0,none⟩=some (.int .i64 h.now)/\World.cell? w' ⟨w.heap.size,1,none⟩=some (.int .i64 h.last)/\World.cell? w' ⟨w.heap.size,2,none⟩=some (.slice a1 h.sh.tg.length c1)/\World.cell? w' ⟨w.heap.size,3,none⟩=some (.slice a2 h.sh.bs.length c2)/\World.cell? w' ⟨w.heap.size,4,none⟩=some (.slice a3 h.bs.length c3)/\World.cell? w' ⟨w.heap.size,5,none⟩=some (.slice a4 h.ds.length c4)) (by kernel_rfl) ?_;generalize W1.drew=X1 at hC ⊢
  have a5:=Mk.out _ hC.B;refine D6 0 rfl a5 ?_;refine D6 1 rfl a5 ?_;refine D6 2 rfl a5 ?_;refine D6 3 rfl a5 ?_;refine D6 4 rfl a5 ?_;refine D6 5 rfl a5 ?_;refine D6 8 rfl a5 ?_;refine D6 9 rfl a5 ?_;refine Sg (i:=6) (j:=7) (l:=12) (by kernel_rfl) rfl rfl rfl (λK hK=>?_) (λK hK=>?_) (λK hK=>?_)
  ·(go_simp;go_wp2_with (go_at_call 75;refine (BN h.sh _ _ (HB.out.up hC.B) hz1 hz2 hz3).mono ?_;rintro e X2 ⟨⟨v8,rfl,a0⟩,a7⟩;replace hC:=hC.call a7 a0;obtain⟨t1,d1,t2,d2,c7,rfl,-⟩:=a0.parts;clear a0 a7);refine E6 hK (Mk.out _ hC.B) ?_;clear hK K)
   refine R4 (i:=7) (j:=12) (by kernel_rfl) rfl rfl (λK hK=>?_) (λK hK=>?_)
   ·(go_simp;replace hC:=hC.lit;refine E6 hK (Mk.out _ hC.B) ?_;clear hK K;generalize World.alloc _ (.cells #[] 74)=X3 at hC ⊢)
    refine R4 (i:=10) (j:=12) (by kernel_rfl) rfl rfl (λK hK=>?_) (λK hK=>?_)
    ·(have h7:=hC.s7 _ rfl;refine P4 rfl _ _ 28 rfl W1.heap.size 74 b3 _ 3 32 underlying28 a6 n0 n1 n2 rfl (by decide) _ 0 [] rfl h7.1 a4 h.ds.length c4 (F8 K0.cells h.ds) rfl (O4 U4 _) (GG b0.out hC.B) (FG _) (by unfold maxLen;omega) (by omega) hC.B.size ?_;intro v9 X5 hown9 hgr9 hnn9;replace hC:=hC.app hgr9 hown9 (hnn9 h7.2);obtain⟨g9,n9,m9,rfl⟩:=hnn9 h7.2;clear hown9 hgr9 h7 hnn9;refine E6 hK (Mk.out _ hC.B) ?_;clear hK K)
     refine D6 11 rfl (Mk.out _ hC.B) ?_;refine E7 12 rfl (λK hK=>?_)
     (go_simp;replace hC:=hC.new;refine E6 hK (Mk.out _ hC.B) ?_;clear hK K;generalize World.alloc _ (.cells #[.int .i64 0,.int .i64 0,.slice none 0 0,.slice none 0 0,.slice none 0 0,.slice none 0 0] 30)=X4 at hC ⊢)
     (have kY:=O8 (hC.s12 _ rfl);obtain⟨j0,j1,j2,j3,j4,j5⟩:=kY.c6;obtain⟨m0,m1,m2,m3,m4,m5⟩:=kY.f6;replace hC:=hC.fin;refine E7 13 rfl (λK hK=>?_);go_simp;refine E6 hK (Mk.out _ hC.B) ?_;clear hK K j0 j1 j2 j3 j4 j5 m0 m1 m2 m3 m4 m5 kY;refine F0 (by kernel_rfl) ?_ _;go_wp2_with fail;go_meet;exact⟨_,_,_,_,rfl,hC⟩)
    ·(go_simp;replace hC:=hC.new;refine E6 hK (Mk.out _ hC.B) ?_;clear hK K;generalize World.alloc _ (.cells #[.int .i64 0,.int .i64 0,.slice none 0 0,.slice none 0 0,.slice none 0 0,.slice none 0 0] 30)=X4 at hC ⊢)
     refine E7 10 rfl (λK hK=>?_)
     (have h7:=hC.s7 _ rfl;refine P4 rfl _ _ 28 rfl W1.heap.size 74 b3 _ 3 32 underlying28 a6 n0 n1 n2 rfl (by decide) _ 0 [] rfl h7.1 a4 h.ds.length c4 (F8 K0.cells h.ds) rfl (O4 U4 _) (GG b0.out hC.B) (FG _) (by unfold maxLen;omega) (by omega) hC.B.size ?_;intro v9 X5 hown9 hgr9 hnn9;replace hC:=hC.app hgr9 hown9 (hnn9 h7.2);obtain⟨g9,n9,m9,rfl⟩:=hnn9 h7.2;clear hown9 hgr9 h7 hnn9;refine E6 hK (Mk.out _ hC.B) ?_;clear hK K)
     refine D6 11 rfl (Mk.out _ hC.B) ?_
     (have kY:=O8 (hC.s12 _ rfl);obtain⟨j0,j1,j2,j3,j4,j5⟩:=kY.c6;obtain⟨m0,m1,m2,m3,m4,m5⟩:=kY.f6;replace hC:=hC.fin;refine E7 13 rfl (λK hK=>?_);go_simp;refine E6 hK (Mk.out _ hC.B) ?_;clear hK K j0 j1 j2 j3 j4 j5 m0 m1 m2 m3 m4 m5 kY;refine F0 (by kernel_rfl) ?_ _;go_wp2_with fail;go_meet;exact⟨_,_,_,_,rfl,hC⟩)
   ·(go_simp;replace hC:=hC.new;refine E6 hK (Mk.out _ hC.B) ?_;clear hK K;generalize World.alloc _ (.cells #[.int .i64 0,.int .i64 0,.slice none 0 0,.slice none 0 0,.slice none 0 0,.slice none 0 0] 30)=X4 at hC ⊢)
    refine E7 7 rfl (λK hK=>?_)
    (go_simp;replace hC:=hC.lit;refine E6 hK (Mk.out _ hC.B) ?_;clear hK K;generalize World.alloc _ (.cells #[] 74)=X3 at hC ⊢)
    refine E7 10 rfl (λK hK=>?_)
    (have h7:=hC.s7 _ rfl;refine P4 rfl _ _ 28 rfl W1.heap.size 74 b3 _ 3 32 underlying28 a6 n0 n1 n2 rfl (by decide) _ 0 [] rfl h7.1 a4 h.ds.length c4 (F8 K0.cells h.ds) rfl (O4 U4 _) (GG b0.out hC.B) (FG _) (by unfold maxLen;omega) (by omega) hC.B.size ?_;intro v9 X5 hown9 hgr9 hnn9;replace hC:=hC.app hgr9 hown9 (hnn9 h7.2);obtain⟨g9,n9,m9,rfl⟩:=hnn9 h7.2;clear hown9 hgr9 h7 hnn9;refine E6 hK (Mk.out _ hC.B) ?_;clear hK K)
    refine D6 11 rfl (Mk.out _ hC.B) ?_
    (have kY:=O8 (hC.s12 _ rfl);obtain⟨j0,j1,j2,j3,j4,j5⟩:=kY.c6;obtain⟨m0,m1,m2,m3,m4,m5⟩:=kY.f6;replace hC:=hC.fin;refine E7 13 rfl (λK hK=>?_);go_simp;refine E6 hK (Mk.out _ hC.B) ?_;clear hK K j0 j1 j2 j3 j4 j5 m0 m1 m2 m3 m4 m5 kY;refine F0 (by kernel_rfl) ?_ _;go_wp2_with fail;go_meet;exact⟨_,_,_,_,rfl,hC⟩)
  ·(go_simp;replace hC:=hC.lit;refine E6 hK (Mk.out _ hC.B) ?_;clear hK K;generalize World.alloc _ (.cells #[] 74)=X3 at hC ⊢)
   refine R4 (i:=6) (j:=12) (by kernel_rfl) rfl rfl (λK hK=>?_) (λK hK=>?_)
   ·(go_simp;go_wp2_with (go_at_call 75;refine (BN h.sh _ _ (HB.out.up hC.B) hz1 hz2 hz3).mono ?_;rintro e X2 ⟨⟨v8,rfl,a0⟩,a7⟩;replace hC:=hC.call a7 a0;obtain⟨t1,d1,t2,d2,c7,rfl,-⟩:=a0.parts;clear a0 a7);refine E6 hK (Mk.out _ hC.B) ?_;clear hK K)
    refine R4 (i:=10) (j:=12) (by kernel_rfl) rfl rfl (λK hK=>?_) (λK hK=>?_)
    ·(have h7:=hC.s7 _ rfl;refine P4 rfl _ _ 28 rfl W1.heap.size 74 b3 _ 3 32 underlying28 a6 n0 n1 n2 rfl (by decide) _ 0 [] rfl h7.1 a4 h.ds.length c4 (F8 K0.cells h.ds) rfl (O4 U4 _) (GG b0.out hC.B) (FG _) (by unfold maxLen;omega) (by omega) hC.B.size ?_;intro v9 X5 hown9 hgr9 hnn9;replace hC:=hC.app hgr9 hown9 (hnn9 h7.2);obtain⟨g9,n9,m9,rfl⟩:=hnn9 h7.2;clear hown9 hgr9 h7 hnn9;refine E6 hK (Mk.out _ hC.B) ?_;clear hK K)
     refine D6 11 rfl (Mk.out _ hC.B) ?_;refine E7 12 rfl (λK hK=>?_)
     (go_simp;replace hC:=hC.new;refine E6 hK (Mk.out _ hC.B) ?_;clear hK K;generalize World.alloc _ (.cells #[.int .i64 0,.int .i64 0,.slice none 0 0,.slice none 0 0,.slice none 0 0,.slice none 0 0] 30)=X4 at hC ⊢)
     (have kY:=O8 (hC.s12 _ rfl);obtain⟨j0,j1,j2,j3,j4,j5⟩:=kY.c6;obtain⟨m0,m1,m2,m3,m4,m5⟩:=kY.f6;replace hC:=hC.fin;refine E7 13 rfl (λK hK=>?_);go_simp;refine E6 hK (Mk.out _ hC.B) ?_;clear hK K j0 j1 j2 j3 j4 j5 m0 m1 m2 m3 m4 m5 kY;refine F0 (by kernel_rfl) ?_ _;go_wp2_with fail;go_meet;exact⟨_,_,_,_,rfl,hC⟩)
    ·(go_simp;replace hC:=hC.new;refine E6 hK (Mk.out _ hC.B) ?_;clear hK K;generalize World.alloc _ (.cells #[.int .i64 0,.int .i64 0,.slice none 0 0,.slice none 0 0,.slice none 0 0,.slice none 0 0] 30)=X4 at hC ⊢)
     refine E7 10 rfl (λK hK=>?_)
     (have h7:=hC.s7 _ rfl;refine P4 rfl _ _ 28 rfl W1.heap.size 74 b3 _ 3 32 underlying28 a6 n0 n1 n2 rfl (by decide) _ 0 [] rfl h7.1 a4 h.ds.length c4 (F8 K0.cells h.ds) rfl (O4 U4 _) (GG b0.out hC.B) (FG _) (by unfold maxLen;omega) (by omega) hC.B.size ?_;intro v9 X5 hown9 hgr9 hnn9;replace hC:=hC.app hgr9 hown9 (hnn9 h7.2);obtain⟨g9,n9,m9,rfl⟩:=hnn9 h7.2;clear hown9 hgr9 h7 hnn9;refine E6 hK (Mk.out _ hC.B) ?_;clear hK K)
     refine D6 11 rfl (Mk.out _ hC.B) ?_
     (have kY:=O8 (hC.s12 _ rfl);obtain⟨j0,j1,j2,j3,j4,j5⟩:=kY.c6;obtain⟨m0,m1,m2,m3,m4,m5⟩:=kY.f6;replace hC:=hC.fin;refine E7 13 rfl (λK hK=>?_);go_simp;refine E6 hK (Mk.out _ hC.B) ?_;clear hK K j0 j1 j2 j3 j4 j5 m0 m1 m2 m3 m4 m5 kY;refine F0 (by kernel_rfl) ?_ _;go_wp2_with fail;go_meet;exact⟨_,_,_,_,rfl,hC⟩)
   ·(go_simp;replace hC:=hC.new;refine E6 hK (Mk.out _ hC.B) ?_;clear hK K;generalize World.alloc _ (.cells #[.int .i64 0,.int .i64 0,.slice none 0 0,.slice none 0 0,.slice none 0 0,.slice none 0 0] 30)=X4 at hC ⊢)
    refine E7 6 rfl (λK hK=>?_)
    (go_simp;go_wp2_with (go_at_call 75;refine (BN h.sh _ _ (HB.out.up hC.B) hz1 hz2 hz3).mono ?_;rintro e X2 ⟨⟨v8,rfl,a0⟩,a7⟩;replace hC:=hC.call a7 a0;obtain⟨t1,d1,t2,d2,c7,rfl,-⟩:=a0.parts;clear a0 a7);refine E6 hK (Mk.out _ hC.B) ?_;clear hK K)
    refine E7 10 rfl (λK hK=>?_)
    (have h7:=hC.s7 _ rfl;refine P4 rfl _ _ 28 rfl W1.heap.size 74 b3 _ 3 32 underlying28 a6 n0 n1 n2 rfl (by decide) _ 0 [] rfl h7.1 a4 h.ds.length c4 (F8 K0.cells h.ds) rfl (O4 U4 _) (GG b0.out hC.B) (FG _) (by unfold maxLen;omega) (by omega) hC.B.size ?_;intro v9 X5 hown9 hgr9 hnn9;replace hC:=hC.app hgr9 hown9 (hnn9 h7.2);obtain⟨g9,n9,m9,rfl⟩:=hnn9 h7.2;clear hown9 hgr9 h7 hnn9;refine E6 hK (Mk.out _ hC.B) ?_;clear hK K)
    refine D6 11 rfl (Mk.out _ hC.B) ?_
    (have kY:=O8 (hC.s12 _ rfl);obtain⟨j0,j1,j2,j3,j4,j5⟩:=kY.c6;obtain⟨m0,m1,m2,m3,m4,m5⟩:=kY.f6;replace hC:=hC.fin;refine E7 13 rfl (λK hK=>?_);go_simp;refine E6 hK (Mk.out _ hC.B) ?_;clear hK K j0 j1 j2 j3 j4 j5 m0 m1 m2 m3 m4 m5 kY;refine F0 (by kernel_rfl) ?_ _;go_wp2_with fail;go_meet;exact⟨_,_,_,_,rfl,hC⟩)
  ·(go_simp;replace hC:=hC.new;refine E6 hK (Mk.out _ hC.B) ?_;clear hK K;generalize World.alloc _ (.cells #[.int .i64 0,.int .i64 0,.slice none 0 0,.slice none 0 0,.slice none 0 0,.slice none 0 0] 30)=X4 at hC ⊢)
   refine R4 (i:=6) (j:=7) (by kernel_rfl) rfl rfl (λK hK=>?_) (λK hK=>?_)
   ·(go_simp;go_wp2_with (go_at_call 75;refine (BN h.sh _ _ (HB.out.up hC.B) hz1 hz2 hz3).mono ?_;rintro e X2 ⟨⟨v8,rfl,a0⟩,a7⟩;replace hC:=hC.call a7 a0;obtain⟨t1,d1,t2,d2,c7,rfl,-⟩:=a0.parts;clear a0 a7);refine E6 hK (Mk.out _ hC.B) ?_;clear hK K)
    refine E7 7 rfl (λK hK=>?_)
    (go_simp;replace hC:=hC.lit;refine E6 hK (Mk.out _ hC.B) ?_;clear hK K;generalize World.alloc _ (.cells #[] 74)=X3 at hC ⊢)
    refine E7 10 rfl (λK hK=>?_)
    (have h7:=hC.s7 _ rfl;refine P4 rfl _ _ 28 rfl W1.heap.size 74 b3 _ 3 32 underlying28 a6 n0 n1 n2 rfl (by decide) _ 0 [] rfl h7.1 a4 h.ds.length c4 (F8 K0.cells h.ds) rfl (O4 U4 _) (GG b0.out hC.B) (FG _) (by unfold maxLen;omega) (by omega) hC.B.size ?_;intro v9 X5 hown9 hgr9 hnn9;replace hC:=hC.app hgr9 hown9 (hnn9 h7.2);obtain⟨g9,n9,m9,rfl⟩:=hnn9 h7.2;clear hown9 hgr9 h7 hnn9;refine E6 hK (Mk.out _ hC.B) ?_;clear hK K)
    refine D6 11 rfl (Mk.out _ hC.B) ?_
    (have kY:=O8 (hC.s12 _ rfl);obtain⟨j0,j1,j2,j3,j4,j5⟩:=kY.c6;obtain⟨m0,m1,m2,m3,m4,m5⟩:=kY.f6;replace hC:=hC.fin;refine E7 13 rfl (λK hK=>?_);go_simp;refine E6 hK (Mk.out _ hC.B) ?_;clear hK K j0 j1 j2 j3 j4 j5 m0 m1 m2 m3 m4 m5 kY;refine F0 (by kernel_rfl) ?_ _;go_wp2_with fail;go_meet;exact⟨_,_,_,_,rfl,hC⟩)
   ·(go_simp;replace hC:=hC.lit;refine E6 hK (Mk.out _ hC.B) ?_;clear hK K;generalize World.alloc _ (.cells #[] 74)=X3 at hC ⊢)
    refine E7 6 rfl (λK hK=>?_)
    (go_simp;go_wp2_with (go_at_call 75;refine (BN h.sh _ _ (HB.out.up hC.B) hz1 hz2 hz3).mono ?_;rintro e X2 ⟨⟨v8,rfl,a0⟩,a7⟩;replace hC:=hC.call a7 a0;obtain⟨t1,d1,t2,d2,c7,rfl,-⟩:=a0.parts;clear a0 a7);refine E6 hK (Mk.out _ hC.B) ?_;clear hK K)
    refine E7 10 rfl (λK hK=>?_)
    (have h7:=hC.s7 _ rfl;refine P4 rfl _ _ 28 rfl W1.heap.size 74 b3 _ 3 32 underlying28 a6 n0 n1 n2 rfl (by decide) _ 0 [] rfl h7.1 a4 h.ds.length c4 (F8 K0.cells h.ds) rfl (O4 U4 _) (GG b0.out hC.B) (FG _) (by unfold maxLen;omega) (by omega) hC.B.size ?_;intro v9 X5 hown9 hgr9 hnn9;replace hC:=hC.app hgr9 hown9 (hnn9 h7.2);obtain⟨g9,n9,m9,rfl⟩:=hnn9 h7.2;clear hown9 hgr9 h7 hnn9;refine E6 hK (Mk.out _ hC.B) ?_;clear hK K)
    refine D6 11 rfl (Mk.out _ hC.B) ?_
    (have kY:=O8 (hC.s12 _ rfl);obtain⟨j0,j1,j2,j3,j4,j5⟩:=kY.c6;obtain⟨m0,m1,m2,m3,m4,m5⟩:=kY.f6;replace hC:=hC.fin;refine E7 13 rfl (λK hK=>?_);go_simp;refine E6 hK (Mk.out _ hC.B) ?_;clear hK K j0 j1 j2 j3 j4 j5 m0 m1 m2 m3 m4 m5 kY;refine F0 (by kernel_rfl) ?_ _;go_wp2_with fail;go_meet;exact⟨_,_,_,_,rfl,hC⟩)
 case rest =>
  obtain⟨Y,tu,bu,du,rfl,hX⟩:=hcut;clear Mk HB b0
  have h4:Hid (0<h.bs.length->∃b o,a3=some ⟨b,o,none⟩/\El W1 b o h.bs/\b<W1.heap.size):=by
   obtain⟨a,c,e,-,h2⟩:=H1.x;simp only[Value.slice.injEq] at e;obtain⟨rfl,-,-⟩:=e;exact h2
  have Hz:Hid (Y0 h.sh):=Hsz;have Hdz:Hid (∀d∈h.ds,d.nm.size<=maxLen):=H1.d.sized;clear H H1 Hsz hnd hz1 hz2 hz3;obtain⟨h0,d4,r0,r1,r2⟩:=info_parts Ij;go_upto_region 3 with fail;(try dsimp only[Iz,Sz,Sy,Nz,Vz,Tz,Ez,Pz]);go_loopw [4] (λi w'=>∃(k:Nat)(ps:List Rv)(xu:Value),k<=h.bs.length/\i=.int .i64 k/\ps.map (·.1)=h.bs.take k/\CX W1 h w' Y tu bu xu du/\V3 w' W1.heap.size xu ps) (λi _=>h.bs.length-(intOf i).toNat)
  case atStart=>exact⟨0,[],.slice none 0 0,by omega,rfl,by simp,hX,B9 _ _ _ _,λp hp=>by simp at hp⟩
  case round =>
   clear hX;obtain⟨k,ps,xu,hk,rfl,d5,hX,hW⟩:=hrel;have Hps:Hid (ps.map (·.1)=h.bs.take k):=d5;have g0:ps.length=k:=by have:=congrArg List.length d5;simp at this;omega
   clear d5;obtain⟨e0,e1,e2,e3,e4,e5⟩:=(kA.up hX.B d6).c6;by_cases hp:k<h.bs.length
   ·obtain⟨bb,o,rfl,hS,hb⟩:=h4.out (by omega);obtain⟨p,q,c,g,r,d,⟨q0,q1,q2,q3,q4,q5⟩,hv⟩:=((hS.at hp).up hX.B hb).open;have HX:Hid (h.bs.take (k+1)=h.bs.take k++[h.bs[k]]):=A8 hp;have h8:=hX.B.size;generalize h.bs[k]=x0 at *;have h9:bb<wr.heap.size:=by omega
    have i0:w.heap.size<wr.heap.size:=by omega
    have j4:World.cell? wr ⟨Y,4,none⟩=some xu:=(O8 hX.y).c6.2.2.2.2.1;have h5:Below W1.heap.size wr wr/\World.cell? wr ⟨w.heap.size,4,none⟩=some (.slice (some ⟨bb,o,none⟩) h.bs.length c3)/\World.cell? wr ⟨bb,o+k*6,none⟩=some (.string x0.nm)/\World.cell? wr ⟨bb,o+k*6+1,none⟩=some (.slice (some ⟨p,q,none⟩) x0.ps.length c)/\World.cell? wr ⟨bb,o+k*6+2,none⟩=some (.slice (some ⟨g,r,none⟩) x0.sl.length d)/\World.cell? wr ⟨bb,o+k*6+3,none⟩=some (.string x0.ad)/\World.cell? wr ⟨bb,o+k*6+4,none⟩=some (.int .i64 x0.si)/\World.cell? wr ⟨bb,o+k*6+5,none⟩=some (.int .i64 x0.st)/\World.cell? wr ⟨Y,4,none⟩=some xu:=⟨A5 _ _,e4,q0,q1,q2,q3,q4,q5,j4⟩;have mk:∀w',Below W1.heap.size wr w'->World.cell? w' ⟨Y,4,none⟩=some xu->Below W1.heap.size wr w'/\World.cell? w' ⟨w.heap.size,4,none⟩=some (.slice (some ⟨bb,o,none⟩) h.bs.length c3)/\World.cell? w' ⟨bb,o+k*6,none⟩=some (.string x0.nm)/\World.cell? w' ⟨bb,o+k*6+1,none⟩=some (.slice (some ⟨p,q,none⟩) x0.ps.length c)/\World.cell? w' ⟨bb,o+k*6+2,none⟩=some (.slice (some ⟨g,r,none⟩) x0.sl.length d)/\World.cell? w' ⟨bb,o+k*6+3,none⟩=some (.string x0.ad)/\World.cell? w' ⟨bb,o+k*6+4,none⟩=some (.int .i64 x0.si)/\World.cell? w' ⟨bb,o+k*6+5,none⟩=some (.int .i64 x0.st)/\World.cell? w' ⟨Y,4,none⟩=some xu:=λw' hb' hy'=>⟨hb',(hb'.cell (p:=⟨w.heap.size,4,none⟩) d6).trans e4,(hb'.cell (p:=⟨bb,o+k*6,none⟩) hb).trans q0,(hb'.cell (p:=⟨bb,o+k*6+1,none⟩) hb).trans q1,(hb'.cell (p:=⟨bb,o+k*6+2,none⟩) hb).trans q2,(hb'.cell (p:=⟨bb,o+k*6+3,none⟩) hb).trans q3,(hb'.cell (p:=⟨bb,o+k*6+4,none⟩) hb).trans q4,(hb'.cell (p:=⟨bb,o+k*6+5,none⟩) hb).trans q5,hy'⟩;have Mk:Hid (∀w',Below W1.heap.size wr w'->World.cell? w' ⟨Y,4,none⟩=some xu->Below W1.heap.size wr w'/\World.cell? w' ⟨w.heap.size,4,none⟩=some (.slice (some ⟨bb,o,none⟩) h.bs.length c3)/\World.cell? w' ⟨bb,o+k*6,none⟩=some (.string x0.nm)/\World.cell? w' ⟨bb,o+k*6+1,none⟩=some (.slice (some ⟨p,q,none⟩) x0.ps.length c)/\World.cell? w' ⟨bb,o+k*6+2,none⟩=some (.slice (some ⟨g,r,none⟩) x0.sl.length d)/\World.cell? w' ⟨bb,o+k*6+3,none⟩=some (.string x0.ad)/\World.cell? w' ⟨bb,o+k*6+4,none⟩=some (.int .i64 x0.si)/\World.cell? w' ⟨bb,o+k*6+5,none⟩=some (.int .i64 x0.st)/\World.cell? w' ⟨Y,4,none⟩=some xu):=mk;have a5:Below W1.heap.size wr wr.drew/\World.cell? wr.drew ⟨w.heap.size,4,none⟩=some (.slice (some ⟨bb,o,none⟩) h.bs.length c3)/\World.cell? wr.drew ⟨bb,o+k*6,none⟩=some (.string x0.nm)/\World.cell? wr.drew ⟨bb,o+k*6+1,none⟩=some (.slice (some ⟨p,q,none⟩) x0.ps.length c)/\World.cell? wr.drew ⟨bb,o+k*6+2,none⟩=some (.slice (some ⟨g,r,none⟩) x0.sl.length d)/\World.cell? wr.drew ⟨bb,o+k*6+3,none⟩=some (.string x0.ad)/\World.cell? wr.drew ⟨bb,o+k*6+4,none⟩=some (.int .i64 x0.si)/\World.cell? wr.drew ⟨bb,o+k*6+5,none⟩=some (.int .i64 x0.st)/\World.cell? wr.drew ⟨Y,4,none⟩=some xu:=mk _ (A5 _ _).drew j4;clear mk h5 e0 e1 e2 e3 q0 q1 q2 q3 q4 q5 e5;go_upto_region 5 with fail;clear e4 j4;have b8:CX W1 h wr.drew Y tu bu xu du:=hX.up (A5 _ _).drew;have b4:V3 wr.drew W1.heap.size xu ps:=hW.up (A5 _ _).drew;have d8:=hv.up (A5 wr.heap.size wr).drew;have d9:Below W1.heap.size wr wr.drew:=(A5 _ _).drew;refine F5 11 (λw'=>Below W1.heap.size wr w'/\World.cell? w' ⟨w.heap.size,4,none⟩=some (.slice (some ⟨bb,o,none⟩) h.bs.length c3)/\World.cell? w' ⟨bb,o+k*6,none⟩=some (.string x0.nm)/\World.cell? w' ⟨bb,o+k*6+1,none⟩=some (.slice (some ⟨p,q,none⟩) x0.ps.length c)/\World.cell? w' ⟨bb,o+k*6+2,none⟩=some (.slice (some ⟨g,r,none⟩) x0.sl.length d)/\World.cell? w' ⟨bb,o+k*6+3,none⟩=some (.string x0.ad)/\World.cell? w' ⟨bb,o+k*6+4,none⟩=some (.int .i64 x0.si)/\World.cell? w' ⟨bb,o+k*6+5,none⟩=some (.int .i64 x0.st)/\World.cell? w' ⟨Y,4,none⟩=some xu) (by kernel_rfl) ?_;generalize wr.drew=X1 at b8 b4 d8 d9 a5 ⊢
    refine D6 0 rfl a5 ?_;refine D6 1 rfl a5 ?_;refine D6 2 rfl a5 ?_;refine D6 3 rfl a5 ?_;refine D6 4 rfl a5 ?_;refine D6 5 rfl a5 ?_;refine D6 6 rfl a5 ?_;refine E7 7 rfl (λK hK=>?_);go_simp;go_wp2_with (go_at_call 29;refine (Jd x0 _ _ _ d8).mono ?_;rintro e X2 ⟨⟨ru,su,rfl,d0⟩,d3⟩)
    have c9:=b8.up d3;have g1:=b4.up d3;have b5:Below W1.heap.size wr X2:=d9.trans (d3.mono b8.B.size);have g2:=Mk.out _ b5 (O8 c9.y).c6.2.2.2.2.1;have b9:=d0.low (B3 b8.B.size (A4 _));obtain⟨g3,n3,m3,rfl⟩:=d0.nr;obtain⟨g4,n4,m4,rfl⟩:=d0.ns;clear b8 b4 a5 d0;refine E6 hK g2 ?_;clear hK K;have a8:Up X2 (X2.alloc (.cells #[.string x0.nm,.slice (some ⟨g3,0,none⟩) n3 m3,.slice (some ⟨g4,0,none⟩) n4 m4,.string x0.ad,.int .i64 x0.si,.int .i64 x0.st] 40)):=(A5 _ _).alloc (A4 _) _;have b6:=c9.up a8;have b7:=g1.up a8;have b1:=b9.up a8;have b2:Below W1.heap.size wr (X2.alloc (.cells #[.string x0.nm,.slice (some ⟨g3,0,none⟩) n3 m3,.slice (some ⟨g4,0,none⟩) n4 m4,.string x0.ad,.int .i64 x0.si,.int .i64 x0.st] 40)):=b5.trans (a8.mono c9.B.size);have e6:=Mk.out _ b2 (O8 b6.y).c6.2.2.2.2.1;have a9:∀(j:Nat)(u:Value),(Q7 (x0,.slice (some ⟨g3,0,none⟩) n3 m3,.slice (some ⟨g4,0,none⟩) n4 m4))[j]?=some u->(X2.alloc (.cells #[.string x0.nm,.slice (some ⟨g3,0,none⟩) n3 m3,.slice (some ⟨g4,0,none⟩) n4 m4,.string x0.ad,.int .i64 x0.si,.int .i64 x0.st] 40)).cell? ((⟨X2.heap.size,0,none⟩:Addr).add j)=some u:=λj u hj=>Oh _ _ _ _ _ _ _ _ hj;clear c9 g1 b9 g2;refine E7 8 rfl (λK hK=>?_);go_simp;refine E6 hK e6 ?_;clear hK K;clear a8;generalize X2.alloc (.cells #[.string x0.nm,.slice (some ⟨g3,0,none⟩) n3 m3,.slice (some ⟨g4,0,none⟩) n4 m4,.string x0.ad,.int .i64 x0.si,.int .i64 x0.st] 40)=X3 at b6 b7 b1 b2 e6 a9 ⊢
    refine E7 9 rfl (λK hK=>?_);refine J0 rfl _ _ 27 rfl W1.heap.size 40 h0 _ 6 96 underlying27 d4 r0 r1 r2 rfl (by decide) xu _ _ rfl b7.1 ⟨X2.heap.size,0,none⟩ 1 1 (Q7 (x0,.slice (some ⟨g3,0,none⟩) n3 m3,.slice (some ⟨g4,0,none⟩) n4 m4)) rfl rfl a9 (Gi b1) (by unfold maxLen;omega) (by omega) b6.B.size ?_;intro v4 X4 hown4 hgr4;have c0:=b6.row b7.1 hgr4;have g5:=b7.app b1 hgr4 hown4;have c5:Below W1.heap.size wr X4:=L5 b2 b6.B.size b7.1 hgr4 (A4 _);have e7:=Mk.out _ c5 (O8 c0.y).c6.2.2.2.2.1;obtain⟨gg,cc,rfl⟩:=I6 hown4 (by omega);clear hown4 hgr4 b6 b7 b1 b2 e6 a9;refine E6 hK e7 ?_;clear hK K;refine D6 10 rfl e7 ?_;have g6:=c0.put (.slice (some ⟨gg,0,none⟩) (ps.length+1) cc);have g7:=V3.off (j:=4) (u:=.slice (some ⟨gg,0,none⟩) (ps.length+1) cc) c0 g5;have kY:=O8 c0.y;obtain⟨j0,j1,j2,j3,j4,j5⟩:=kY.c6;obtain⟨m0,m1,m2,h1,h3,m5⟩:=kY.f6;refine E7 11 rfl (λK hK=>?_);go_simp;refine Bf hK ?_;clear hK K;refine F0 (by kernel_rfl) ?_ _
    have HM:Hid ((ps++[((x0,.slice (some ⟨g3,0,none⟩) n3 m3,.slice (some ⟨g4,0,none⟩) n4 m4):Rv)]).map (·.1)=h.bs.take (k+1)):=by
     show _=_
     rw[HX.out,List.map_append,Hps.out];rfl
    clear c0 g5 c5 e7 kY j0 j1 j2 j3 j4 j5 m0 m1 m2 h1 h3 m5 Mk d9 b5 hv d8 hS hX hW d3;go_wp2_with fail;go_roundw
    case rel =>
     rw[g0] at g6 g7;exact⟨k+1,_,_,by omega,by go_num,HM.out,g6,g7⟩
    case measure=>simp[intOf];omega
   ·obtain rfl:k=h.bs.length:=by omega
    have e8:=kR.up hX.B c8;obtain⟨y0,y1,y2,y3,y4,y5⟩:=e8.c6;obtain⟨f0,f1,f2,f3,f4,f5⟩:=e8.f6;have kY:=O8 hX.y;obtain⟨j0,j1,j2,j3,j4,j5⟩:=kY.c6;have Hps2:Hid (ps.map (·.1)=h.bs):=by show _=_;rw[Hps.out,List.take_length]
    have h6:=D5 f9 (hX.B.mono (A4 _));obtain⟨t1,d1,t2,d2,qs,e9,-⟩:=hX.k.parts;simp only[Value.agg.injEq,Array.mk.injEq,List.cons.injEq,and_true] at e9;obtain⟨rfl,rfl⟩:=e9;obtain⟨ax,cx,rfl⟩:=I7 hW.1;obtain⟨gd,nd,md,rfl⟩:=hX.nd;clear g0;go_wp2_with fail;refine N8 results25 underlying30 rfl G6 e8 rfl ?_;have f7:=G3 wr (w.heap.size+1) (.int .i64 h.now) (.int .i64 h.last) (.slice t1 h.sh.tg.length d1) (.slice t2 h.sh.bs.length d2) (.slice ax ps.length cx) (.slice (some ⟨gd,0,none⟩) nd md);refine⟨⟨_,_,_,_,rfl,?_⟩,I9 h6 (by omega) _ _ _ _ _ _⟩;exact⟨(hX.k.gr f7 c8).low d7,Hz.out,⟨ps,(hW.gr f7 c8).low d7,Hps2.out⟩,(XR (F2 hX.d f7 c8) hX.nd Hdz.out).low d7⟩
theorem LZ(w:World)(base t ty e:Nat)(i:TypeInfo)(z:Value)(size bytes:Nat)(ht:P.underlying t=some (.slice e))(hi:P.info? e=some i)(hz:i.zero=some z)
  (hsize:i.size=size) (hby:i.bytes=bytes) (hzs:z.cells.size=size) (g p n cap:Nat) (pre xs:List Value) (hpre:pre.length=p*size)
  (hown:w.ownsRow base e size (.slice (some ⟨g,0,none⟩) (p+n) (p+cap)) (p+n) (pre++xs))
  (a:Addr) (m c:Nat) (news:List Value) (hl:news.length=m*size) (hnews:∀j u,news[j]?=some u->w.cell? (a.add j)=some u) (h1:∀u∈news,u.oneCell'=true)
  (h63:n+m<=maxLen) (hbytes:(n+m)*bytes<=140737488355328) (hbase:base<=w.heap.size) :
  ∃v' w',(Builtin.append_ #[t,t] ty #[.slice (some ⟨g,p*size,none⟩) n cap,.slice (some a) m c]).run P w=.ok v' w'/\w.grownBy w' (some g)/\
   ((v'=.slice (some ⟨g,p*size,none⟩) (n+m) cap/\w'.ownsRow base e size (.slice (some ⟨g,0,none⟩) (p+(n+m)) (p+cap)) (p+(n+m)) (pre++(xs++news)))∨
    ∃c',v'=.slice (some ⟨w.heap.size,0,none⟩) (n+m) c'/\w'.ownsRow base e size v' (n+m) (xs++news)):=by
 subst hsize;subst hby;have a2:xs.length=n*i.size:=by have:=hown.1;rw[B0,hpre,Nat.add_mul] at this;omega
 rcases hown.2 with⟨h,_⟩|⟨g',cap',cur,h,hbg,hg,hnc,hcm,hcs,htake⟩
 ·simp at h
 simp only[Value.slice.injEq,Option.some.injEq,Addr.mk.injEq,and_true,true_and] at h;obtain⟨rfl,rfl⟩:=h;by_cases hroom:n+m<=cap
 ·have a3:p*i.size+n*i.size+news.length<=cur.size:=by
   rw[hl,hcs,← Nat.add_mul,← Nat.add_mul];exact Nat.mul_le_mul_right _ (by omega)
  have hf:=run_firstCells_some (P:=P) w i.size m a m c news hl hnews;have a5:=run_storeCells_at P g (p*i.size+n*i.size) e news 0 cur w hg (by simpa using a3) h1;simp only[Nat.add_zero] at a5;refine⟨.slice (some ⟨g,p*i.size,none⟩) (n+m) cap,w.setRow g (cur.toList.take (p*i.size+n*i.size)++news++cur.toList.drop (p*i.size+n*i.size+news.length)).toArray,?_,?_,.inl ⟨rfl,?_⟩⟩
  ·simp[Builtin.append_,run_underlying ht,sizeOf,typeInfo,hi,Builtin.lenOf,hroom,hf,Addr.add_lit,a5]
  ·exact⟨rfl,rfl,rfl,by simp,λk _ hk=>setRow_other w g k _ (λe=>hk (by simp[e]))⟩
  ·have a0:(pre++(xs++news)).length=(p+(n+m))*i.size:=by rw[B0,B0,hpre,a2,hl,Nat.add_mul,Nat.add_mul]
   refine⟨a0,.inr ⟨g,p+cap,_,rfl,hbg,setRow_heap w g cur _ e _ hg,by omega,hcm,?_,?_⟩⟩
   ·simp only[List.size_toArray,B0,B8,A9,Array.length_toList];omega
   ·have a6:cur.toList.take (p*i.size+n*i.size)=pre++xs:=by rw[← Nat.add_mul];exact htake
    rw[a6,← a0,← List.append_assoc pre xs news];exact List.take_left
 ·have a1:∀j u,xs[j]?=some u->w.cell? ((⟨g,p*i.size,none⟩:Addr).add j)=some u:=λj u hu=>by
   have hj:j<xs.length:=(A3.1 hu).1;rw[Addr.add_mid,hown.cellAt (p*i.size+j) (by rw[Nat.add_mul];omega),C8 (by omega),hpre,Nat.add_sub_cancel_left];exact hu
  have hr:=run_append_grow (P:=P) w t ty e i z ht hi hz ⟨g,p*i.size,none⟩ n cap xs a2 a1 a m c news hl hnews (by omega) (by unfold maxLen at h63;omega) (growslice_fits (by omega) hbytes);have a7:=grownCap_ge w (n+m) cap e;have a4:grownCap w (n+m) cap e<=maxLen:=grownCap_le_maxLen w (n+m) cap e h63;have a0:(xs++news).length=(n+m)*i.size:=by rw[B0,a2,hl,Nat.add_mul]
  refine⟨_,_,hr,⟨rfl,rfl,rfl,by simp,λk hk _=>heap_alloc_old w.drew _ hk⟩,.inr ⟨_,rfl,a0,.inr ⟨w.heap.size,_,_,rfl,hbase,heap_alloc_new w.drew _,a7,a4,?_,?_⟩⟩⟩
  ·simp only[Array.size_append,List.size_toArray,size_zeroCells,hzs,a2,hl,← Nat.add_mul];congr 1
   omega
  ·simp only[Array.toList_append,List.append_assoc];rw[← List.append_assoc,← a0];exact List.take_left
theorem Fo{P:Program}(w:World){ops:Array Oper}{rest:List Oper}{o:Oper}{a:Act}{Q:Exit->Act->World->Prop}(hgd:o.guard=none)(s x:Operand)(t:TypeId)
  (hop:o.op=Op.call {callee:=Callee.builtin Builtin.append,args:=#[s,x],argTypes:=#[t,t]}) (v vx:Value) (hs:a.eval s=v) (hx:a.eval x=vx) (v':Value) (w':World) (hr:(Builtin.append_ #[t,t] o.type #[v,vx]).run P w=.ok v' w')
  (h:wpList P ops Q rest (a.put o.dst v') w'):wpList P ops Q (o::rest) a w:=by
 refine wpList_plain hgd λK hK=>?_;unfold Oper.wp execOp;simp only[hop,resolve,invoke,builtin,Sem.run_bind,Sem.run_pure,Result.andThen_ok,List.map_toArray,List.map_cons,List.map_nil,hs,hx,hr];exact hK _ _ h
theorem Nn(w:World)(base t ty:Nat)(i:TypeInfo)(z:Value)(ht:P.underlying t=some (.slice 74))(hi:P.info? 74=some i)(hz:i.zero=some z)
  (hsize:i.size=3) (hby:i.bytes=32) (hzs:z.cells.size=3) (v:Value) (ds:List K0) (d:K0) (h:Aq w base v ds) (a:Addr) (c:Nat)
  (hnews:∀j u,d.cells[j]?=some u->w.cell? (a.add j)=some u) (hn:ds.length<=1048576) (hd:d.nm.size<=maxLen) (hbase:base<=w.heap.size) :
  ∃v' w',(Builtin.append_ #[t,t] ty #[v,.slice (some a) 1 c]).run P w=.ok v' w'/\Aq w' base v' (ds++[d])/\w.grownBy w' v.ownBlock/\P0 w v v':=by
 obtain⟨g,a1,a0,rfl,h1,h2⟩:=h;rw[AU] at h1
 have a2:∀y∈ds++[d],y.nm.size<=maxLen:=λy hy=>by
  rcases D0.1 hy with k|k
  ·exact h2 y k
  ·obtain rfl:y=d:=by simpa using k
   exact hd
 obtain⟨v',w',hr,hg,hc⟩:=LZ (P:=P) w base t ty _ i z 3 32 ht hi hz hsize hby hzs g a0.length ds.length a1 (F8 K0.cells a0) (F8 K0.cells ds) (O4 U4 _) h1 a 1 c d.cells rfl hnews
  (by simp only[K0.cells,List.mem_cons,List.not_mem_nil,or_false];rintro u (rfl|rfl|rfl)<;>rfl) (by unfold maxLen;omega) (by omega) hbase
 refine⟨v',w',hr,?_,hg,?_⟩
 ·have e1:F8 K0.cells ds++d.cells=F8 K0.cells (ds++[d]):=by rw[AU];simp[F8]
  rcases hc with⟨rfl,ho⟩|⟨c',rfl,ho⟩
  ·refine⟨g,a1,a0,by simp,?_,a2⟩;rw[e1,← AU] at ho;simpa using ho
  ·rw[e1] at ho;exact⟨w.heap.size,c',[],by simp,by simpa using ho,a2⟩
 ·rcases hc with⟨rfl,-⟩|⟨c',rfl,-⟩
  ·exact λg hg=>.inl hg
  ·exact λg hg=>.inr (by simp[Value.ownBlock] at hg;omega)
theorem Aq.tail{d:K0}{ds:List K0}(h:Aq w base (Sy g o n cap) (d::ds)):Aq w base (Sy g (o+3) (n-1) (cap-1)) ds/\1<=n/\n<=cap:=by
 obtain⟨g',a1,a0,e,h1,h2⟩:=h;simp only[Value.slice.injEq,Option.some.injEq,Addr.mk.injEq,and_true] at e;obtain⟨⟨rfl,rfl⟩,rfl,rfl⟩:=e;have hc:=BP h1;simp only[List.length_cons] at h1 hc ⊢
 refine⟨⟨g,cap-1,a0++[d],?_,?_,λy hy=>h2 y (by simp[hy])⟩,by omega,by omega⟩
 ·rw[B0,List.length_singleton,Nat.add_mul];simp
 ·rw[B0,List.length_singleton,show a0.length+1+ds.length=a0.length+(ds.length+1) by omega,show a0.length+1+(cap-1)=a0.length+cap by omega,List.append_assoc];exact h1
structure G2 (w w':World) (p q:Option Nat):Prop where
 os:w'.os=w.os
 tape:w'.tape=w.tape
 output:w'.output=w.output
 size:w.heap.size<=w'.heap.size
 block:∀k,k<w.heap.size->some k≠p->some k≠q->w'.heap[k]?=w.heap[k]?
theorem G2.of_below(h:Up w w')(p q:Option Nat):G2 w w' p q:=⟨h.os,h.tape,h.output,h.size,λk hk _ _=>h.block k hk⟩
theorem G2.of1(h:w.grownBy w' p)(q:Option Nat):G2 w w' p q:=⟨h.os,h.tape,h.output,h.size,λk hk h1 _=>h.block k hk h1⟩
theorem G2.of2(h:w.grownBy w' q)(p:Option Nat):G2 w w' p q:=⟨h.os,h.tape,h.output,h.size,λk hk _ h2=>h.block k hk h2⟩
theorem G2.trans{w2:World}{p' q':Option Nat}(h:G2 w w1 p q)(h':G2 w1 w2 p' q')(hp:∀k,k<w.heap.size->some k=p'->some k=p∨some k=q)(hq:∀k,k<w.heap.size->some k=q'->some k=p∨some k=q):G2 w w2 p q :=
 ⟨h'.os.trans h.os,h'.tape.trans h.tape,h'.output.trans h.output,B3 h.size h'.size,λk hk h1 h2=>by
  refine (h'.block k (A2 hk h.size) (λe=>?_) (λe=>?_)).trans (h.block k hk h1 h2)
  ·rcases hp k hk e with h3|h3
   ·exact h1 h3
   ·exact h2 h3
  ·rcases hq k hk e with h3|h3
   ·exact h1 h3
   ·exact h2 h3⟩
theorem G2.below(h:G2 w w' p q)(hB:B<=w.heap.size)(hp:∀k,p=some k->B<=k)(hq:∀k,q=some k->B<=k):Below B w w' :=
 ⟨h.os,h.tape,h.output,h.size,λk hk=>h.block k (A2 hk hB) (λe=>by have:=hp k e.symm;omega) (λe=>by have:=hq k e.symm;omega)⟩
theorem G2.cb(h:G2 w w' p q)(k:CB w b cs)(hp:some b≠p)(hq:some b≠q):CB w' b cs:=by
 have hb:=h.block b k.2.2 hp hq;refine⟨λj v hv=>?_,λj hj=>?_,A2 k.2.2 h.size⟩
 ·rw[C2 (a:=⟨b,0+j,none⟩) hb];exact k.1 j v hv
 ·rw[C2 (a:=⟨b,0+j,none⟩) hb,World.frozen?_of_block (a:=⟨b,0+j,none⟩) hb];exact k.2.1 j hj
theorem P0.refl(w:World)(v:Value):P0 w v v:=λ_ h=>.inl h
theorem P0.trans{v v1 v2:Value}(h:P0 w v v1)(hz:w.heap.size<=w1.heap.size)(h':P0 w1 v1 v2):P0 w v v2:=λg hg=>by
 rcases h' g hg with h1|h1
 ·exact h g h1
 ·exact .inr (by omega)
theorem P0.old{v:Value}(h:P0 w v v')(k:Nat)(hk:k<w.heap.size)(e:some k=v'.ownBlock):some k=v.ownBlock:=by
 rcases h k e.symm with h1|h1
 ·exact h1.symm
 ·omega
theorem Uz(sa sb:List BA)(n m:Nat)(a1 a2:Option Addr)(c1 c2:Nat)(w:World)(Hn:Hid (sa.length=n))(Hm:Hid (sb.length=m))(hn9:n<=maxLen)(hpa:0<n->∃b o,a1=some ⟨b,o,none⟩/\F9 w b o sa/\b<w.heap.size)(hpb:0<m->∃b o,a2=some ⟨b,o,none⟩/\F9 w b o sb/\b<w.heap.size):
  Calls prog 98 #[Vz a1 n c1,Vz a2 m c2] w λe w'=>e=.returned (.bool (pB (sa=sb)))/\Up w w':=by
 unfold maxLen at hn9;by_cases hll:n=m
 case neg =>
  have HN:Hid (pB (sa=sb)=false):=I5 λe=>hll (by rw[← Hn.out,← Hm.out,e]);go_in;go_wp2_with fail;go_ret;exact⟨D8 HN.out.symm,A5 _ _⟩
 subst hll;go_in;go_wp2_with fail;(try dsimp only[Iz,Sz,Sy,Nz,Vz,Tz,Ez,Pz]);go_loopw [5] (λi w'=>∃k:Nat,k<=n/\i=.int .i64 k/\(∀i,i<k->sa[i]?=sb[i]?)/\Up w w') (λi _=>n-(intOf i).toNat)
 case atStart=>exact⟨0,by omega,rfl,λi hi=>by omega,A5 _ _⟩
 case round =>
  obtain⟨k,hk,rfl,a0,hB⟩:=hrel;have Hal:Hid (∀i,i<k->sa[i]?=sb[i]?):=a0;clear a0;by_cases hp:k<n
  ·obtain⟨b1,o1,rfl,a3,a5⟩:=hpa (by omega);obtain⟨b2,o2,rfl,a4,a6⟩:=hpb (by omega);have h1:k<sa.length:=by have:=Hn.out;omega
   have h2:k<sb.length:=by have:=Hm.out;omega
   have e1:=(hB.cell (p:=⟨b1,o1+k,none⟩) a5).trans (a3 k sa[k] (A0 h1));have e2:=(hB.cell (p:=⟨b2,o2+k,none⟩) a6).trans (a4 k sb[k] (A0 h2))
   have N1:Hid (((sa[k]).toList==(sb[k]).toList)=false->¬sa=sb):=λhq e=>by
    subst e;simp at hq
   have N2:Hid (((sa[k]).toList==(sb[k]).toList)=true->∀i,i<k+1->sa[i]?=sb[i]?):=λhq i hi=>by
    rcases Nat.lt_or_ge i k with h'|h'
    ·exact Hal.out i h'
    ·obtain rfl:i=k:=by omega
     have e:sa[i]=sb[i]:=CL (by simpa using hq);rw[A0 h1,A0 h2,e]
   generalize sa[k]=s1 at *;generalize sb[k]=s2 at *;clear a3 a4;cases hq:(s1.toList==s2.toList)
   ·have HN:Hid (pB (sa=sb)=false):=I5 (N1.out hq);go_wp2_with fail;go_quiet (fail);go_wp2_with fail;go_ret;exact⟨D8 HN.out.symm,G4 hB _⟩
   ·have HY:Hid (∀i,i<k+1->sa[i]?=sb[i]?):=N2.out hq;go_wp2_with fail;go_quiet (fail);go_wp2_with fail;go_roundw
    case rel=>exact⟨k+1,by omega,by go_num,HY.out,G4 hB _⟩
    case measure=>simp[intOf];omega
  ·have HY:Hid (pB (sa=sb)=true):=L9 (List.ext_getElem? λi=>by
    by_cases hi:i<k
    ·exact Hal.out i hi
    ·rw[C6 (by have:=Hn.out;omega),C6 (by have:=Hm.out;omega)])
   go_wp2_with fail;go_ret;exact⟨D8 HY.out.symm,hB⟩
theorem Je(sa sb:List BA)(va vb:Value)(w:World)(ha:Ls w va sa)(hb:Ls w vb sb):
  Calls prog 98 #[va,vb] w λe w'=>e=.returned (.bool (pB (sa=sb)))/\Up w w':=by
 obtain⟨a1,c1,rfl,a0,-,a3⟩:=ha;obtain⟨a2,c2,rfl,-,-,a4⟩:=hb;exact Uz sa sb _ _ a1 a2 c1 c2 w rfl rfl a0 a3 a4
theorem UA(sa sb:List BA)(va vb:Value)(w:World)(ha:Ls w va sa)(hb:Ls w vb sb):
  Calls prog 99 #[va,vb] w λe w'=>e=.returned (.bool (pB (BZ sa sb)))/\w'=w:=by
 obtain⟨a,c,rfl,hn,hz,a0⟩:=ha;obtain⟨a2,c2,rfl,-⟩:=id hb;unfold maxLen at hn;go_in;go_wp2_with fail;go_loop [5] (λi=>∃k:Nat,k<=sa.length/\i=.int .i64 k/\Ak sa sb k) (λi=>sa.length-(intOf i).toNat)
 case atStart=>exact⟨0,by omega,rfl,Ak.zero _ _⟩
 case round =>
  obtain⟨k,hk,rfl,a1⟩:=hrel;have Hal:Hid (Ak sa sb k):=a1;clear a1;by_cases hp:k<sa.length
  ·obtain⟨b,o,rfl,hS,a3⟩:=a0 (by omega);have c0:=hS.cell hp;cases hq:E3 sb sa[k]
   ·have Hq:Hid (¬BZ sa sb):=λh=>by rw[Kr h hp] at hq;cases hq
    go_wp2_with (go_at_call 137;refine Sx (AO sb _ _ _ hb) ?_)
    go_ret;exact⟨D8 (I5 Hq.out).symm,rfl⟩
   ·have Hq:Hid (Ak sa sb (k+1)):=Hal.out.step hp hq;go_wp2_with (go_at_call 137;refine Sx (AO sb _ _ _ hb) ?_)
    go_round
    case rel=>exact⟨k+1,by omega,by go_num,Hq.out⟩
    case measure=>simp[intOf];omega
  ·have Hq:Hid (BZ sa sb):=KT Hal.out hp;go_wp2_with fail;go_ret;exact⟨D8 (L9 Hq.out).symm,rfl⟩
theorem Pr(h:House)(tv bv xv dv:Value)(s:BA)(w:World)(H:HV w h tv bv xv dv):
  Calls prog 45 #[.agg #[Iz h.now,Iz h.last,tv,bv,xv,dv],Tz s] w λe w'=>e=.returned (Iz (T5 (K1 h.bs) s))/\Up w w':=by
 obtain⟨a1,c1,a2,c2,a3,c3,a4,c4,rfl,rfl,rfl,rfl⟩:=H.shapes;obtain⟨a0,a5⟩:=H.x.inv rfl;unfold maxLen at a0;clear H;have a6:=(A5 w.heap.size w).alloc (A4 _) (.cells (Hcz h a1 c1 a2 c2 a3 c3 a4 c4).toArray 30);have hC:CB (w.alloc (.cells (Hcz h a1 c1 a2 c2 a3 c3 a4 c4).toArray 30)) w.heap.size (Hcz h a1 c1 a2 c2 a3 c3 a4 c4):=F3 w _ _;go_in;go_upto_region 1 with fail;generalize w.alloc (.cells (Hcz h a1 c1 a2 c2 a3 c3 a4 c4).toArray 30)=W1 at *;obtain⟨-,-,-,-,d4,-⟩:=hC.c6;go_wp2_with fail;go_loop [5] (λi=>∃k:Nat,k<=h.bs.length/\i=.int .i64 k/\E3 ((K1 h.bs).take k) s=false) (λi=>h.bs.length-(intOf i).toNat)
 case atStart=>exact⟨0,by omega,rfl,rfl⟩
 case round =>
  obtain⟨k,hk,rfl,a7⟩:=hrel;have Hal:Hid (E3 ((K1 h.bs).take k) s=false):=a7;clear a7;by_cases hp:k<h.bs.length
  ·obtain⟨b,o,a9,hS,hb⟩:=a5 (by omega);subst a9;have a8:k<(K1 h.bs).length:=by rw[AK];exact hp
   have hg:(K1 h.bs)[k]=(h.bs[k]).nm:=by simp[K1]
   have b0:=((hS.at hp).up a6 hb).open;obtain⟨p,q,c,g,r,d,⟨e0,-⟩,-⟩:=b0;have N1:Hid (((h.bs[k]).nm.toList==s.toList)=false->E3 ((K1 h.bs).take (k+1)) s=false):=λhq=>Ff a8 Hal.out (by rw[hg];exact hq);have N2:Hid (((h.bs[k]).nm.toList==s.toList)=true->T5 (K1 h.bs) s=(k:Int)):=λhq=>Cq a8 Hal.out (by rw[hg];exact hq);clear hS hg;generalize h.bs[k]=x0 at *;cases hq:(x0.nm.toList==s.toList)
   ·have HY:Hid (E3 ((K1 h.bs).take (k+1)) s=false):=N1.out hq;go_wp2_with fail;go_round
    case rel=>exact⟨k+1,by omega,by go_num,HY.out⟩
    case measure=>simp[intOf];omega
   ·have HY:Hid (T5 (K1 h.bs) s=(k:Int)):=N2.out hq;go_wp2_with fail;go_ret;exact⟨U5 HY.out.symm,a6⟩
  ·have HY:Hid (T5 (K1 h.bs) s=-1):=AN (FP (by rw[AK];exact hp) Hal.out);go_wp2_with fail;go_ret;exact⟨U5 HY.out.symm,a6⟩
theorem Ma(h:House)(tv bv xv dv:Value)(w:World)(H:HV w h tv bv xv dv):
  Calls prog 43 #[.agg #[.int .i64 h.now,.int .i64 h.last,tv,bv,xv,dv]] w λe w'=>e=.returned (.bool (pB (U0 h)))/\Up w w':=by
 obtain⟨-,-,-,b9,c5,b3,-,b0⟩:=id H;obtain⟨a1,c1,a2,c2,a3,c3,a4,c4,rfl,rfl,rfl,rfl⟩:=H.shapes;simp only[Value.slice.injEq] at b3;obtain⟨rfl,-,rfl⟩:=b3;clear H;have a7:=(A5 w.heap.size w).alloc (A4 _) (.cells #[.int .i64 h.now,.int .i64 h.last,.slice a1 h.sh.tg.length c1,.slice a2 h.sh.bs.length c2,.slice a3 h.bs.length c3,.slice a4 h.ds.length c4] 30);have hC:CB (w.alloc (.cells #[.int .i64 h.now,.int .i64 h.last,.slice a1 h.sh.tg.length c1,.slice a2 h.sh.bs.length c2,.slice a3 h.bs.length c3,.slice a4 h.ds.length c4] 30)) w.heap.size [.int .i64 h.now,.int .i64 h.last,.slice a1 h.sh.tg.length c1,.slice a2 h.sh.bs.length c2,.slice a3 h.bs.length c3,.slice a4 h.ds.length c4]:=F3 w _ _;go_in;go_upto_region 1 with fail;generalize w.alloc (.cells #[.int .i64 h.now,.int .i64 h.last,.slice a1 h.sh.tg.length c1,.slice a2 h.sh.bs.length c2,.slice a3 h.bs.length c3,.slice a4 h.ds.length c4] 30)=W1 at *;have b4:=hC.2.2;obtain⟨d0,d1,d2,d3,d4,d5⟩:=hC.c6;by_cases h20:20<h.ds.length
 ·have HN:Hid (pB (U0 h)=false):=I5 λt=>by have:=t.1;omega
  go_wp2_with fail;go_ret;exact⟨D8 HN.out.symm,a7⟩
 go_wp2_with fail;(try dsimp only[Iz,Sz,Sy,Nz,Vz,Tz,Ez,Pz]);go_loopw [3,4] (λi _ w'=>∃k:Nat,k<=h.ds.length/\i=.int .i64 k/\CE h.ds h.now k/\Up W1 w') (λi _ _=>h.ds.length-(intOf i).toNat)
 case atStart=>exact⟨0,by omega,rfl,λi d hi=>by omega,A5 _ _⟩
 case round =>
  obtain⟨k,hk,rfl,hinv,hB⟩:=hrel;have HI:Hid (CE h.ds h.now k):=hinv;clear hinv d0 d1 d2 d3 d4 d5;obtain⟨d0,d1,d2,d3,d4,d5⟩:=(hC.up hB b4).c6;by_cases hp:k<h.ds.length
  ·obtain⟨b,o,ha,hD,hb⟩:=b0 (by omega);subst ha;have a5:=D5 a7 hB;have b1:=hD.up a5 hb;obtain⟨a6,zn⟩:=b1 k _ (A0 hp);have c0:=a6 0 _ rfl;have b6:=a6 1 _ rfl;have b7:=a6 2 _ rfl;simp only[Nat.add_zero] at c0;have NO:Hid (¬Dz h.ds h.now k h.ds[k]->pB (U0 h)=false):=λhn=>I5 λt=>hn (t.2 k _ hp (A0 hp));have YES:Hid (Dz h.ds h.now k h.ds[k]->CE h.ds h.now (k+1)):=λhy=>EG (P:=Dz h.ds h.now) HI.out hp hy
   have HP:Hid (0<k->∃p:K0,h.ds[k-1]?=some p/\wr.cell? ⟨b,o+(k-1)*3+2,none⟩=some (.int .i64 p.t)/\(¬p.t<=(h.ds[k]).t->¬Dz h.ds h.now k h.ds[k])/\(p.t<=(h.ds[k]).t->∀(j:Nat)(p':K0),j+1=k->h.ds[j]?=some p'->p'.t<=(h.ds[k]).t)):=λh0=>by
    have a8:k-1<h.ds.length:=by omega
    refine⟨h.ds[k-1],A0 a8,(b1 (k-1) _ (A0 a8)).1 2 _ rfl,λhn hd=>hn (hd.2.2.2.2.2 (k-1) _ (by omega) (A0 a8)),λhle j p' hj hp'=>?_⟩;obtain rfl:j=k-1:=by omega
    rw[A0 a8] at hp';obtain rfl:=A6 hp';exact hle
   generalize h.ds[k]=x0 at *;have b2:=hB.alloc hB.size (.cells #[.string (x0).nm,.int .i64 (x0).e,.int .i64 (x0).t] 74);have hX:CB (wr.alloc (.cells #[.string (x0).nm,.int .i64 (x0).e,.int .i64 (x0).t] 74)) wr.heap.size [.string x0.nm,.int .i64 x0.e,.int .i64 x0.t]:=F3 wr _ _;have a9:=(A5 wr.heap.size wr).alloc (A4 _) (.cells #[.string (x0).nm,.int .i64 (x0).e,.int .i64 (x0).t] 74);have b8:b<wr.heap.size:=A2 hb a5.size;have b5:w.heap.size<wr.heap.size:=A2 b4 hB.size;have g0:=(a9.cell (p:=⟨w.heap.size,0,none⟩) b5).trans d0;have g5:=(a9.cell (p:=⟨w.heap.size,5,none⟩) b5).trans d5
   have HP2:Hid (0<k->∃p:K0,h.ds[k-1]?=some p/\(wr.alloc (.cells #[.string (x0).nm,.int .i64 (x0).e,.int .i64 (x0).t] 74)).cell? ⟨b,o+(k-1)*3+2,none⟩=some (.int .i64 p.t)/\(¬p.t<=x0.t->¬Dz h.ds h.now k x0)/\(p.t<=x0.t->∀(j:Nat)(p':K0),j+1=k->h.ds[j]?=some p'->p'.t<=x0.t)):=λh0=>by
    obtain⟨p,e1,e2,e3,e4⟩:=HP.out h0;exact⟨p,e1,(a9.cell (p:=⟨b,o+(k-1)*3+2,none⟩) b8).trans e2,e3,e4⟩
   go_upto_region 7 with fail;generalize wr.alloc (.cells #[.string (x0).nm,.int .i64 (x0).e,.int .i64 (x0).t] 74)=W2 at *;obtain⟨⟨f0,f1,f2⟩,-⟩:=hX.c3;have a0:=D5 a7 b2;clear c0 b6 b7 d0 d1 d2 d3 d4 d5 a6 b1 a9;cases q1:G0 x0.nm
   ·have HN:Hid (pB (U0 h)=false):=NO.out λt=>by rw[t.1] at q1;cases q1
    go_wp2_with fail;go_quiet ((first|(go_at_call 28;exact Calls.quiet_of_same (O1 _ _ zn))|(go_at_call 41;exact Calls.quiet_of_same (O7 _ _ _ _))))
    go_wp2_with fail;go_ret;exact⟨D8 HN.out.symm,G4 a0 _⟩
   cases q2:Ai x0.e 1 3
   ·have HN:Hid (pB (U0 h)=false):=NO.out λt=>(Fe _ _ _).1 q2 ⟨t.2.1,t.2.2.1⟩;go_wp2_with fail;go_quiet ((first|(go_at_call 28;exact Calls.quiet_of_same (O1 _ _ zn))|(go_at_call 41;exact Calls.quiet_of_same (O7 _ _ _ _))))
    go_wp2_with fail;go_ret;exact⟨D8 HN.out.symm,G4 a0 _⟩
   cases q3:Ai x0.t 0 h.now
   ·have HN:Hid (pB (U0 h)=false):=NO.out λt=>(Fe _ _ _).1 q3 ⟨t.2.2.2.1,t.2.2.2.2.1⟩;go_wp2_with fail;go_quiet ((first|(go_at_call 28;exact Calls.quiet_of_same (O1 _ _ zn))|(go_at_call 41;exact Calls.quiet_of_same (O7 _ _ _ _))))
    go_wp2_with fail;go_ret;exact⟨D8 HN.out.symm,G4 a0 _⟩
   have e2:=(BX _ _ _).1 q2;have e3:=(BX _ _ _).1 q3;rcases C3 k with h0|h0
   ·have HY:Hid (CE h.ds h.now (0+1)):=by
     have:=YES.out ⟨q1,e2.1,e2.2,e3.1,e3.2,λj p hj=>by omega⟩;rwa [h0] at this
    subst h0;go_wp2_with fail;go_quiet ((first|(go_at_call 28;exact Calls.quiet_of_same (O1 _ _ zn))|(go_at_call 41;exact Calls.quiet_of_same (O7 _ _ _ _))))
    go_wp2_with fail;go_roundw
    case rel=>exact⟨0+1,by omega,by go_num,HY.out,G4 b2 _⟩
    case measure=>simp[intOf];omega
   ·obtain⟨p,-,cp,p1,p2⟩:=HP2.out h0;by_cases q4:p.t<=x0.t
    ·have HY:Hid (CE h.ds h.now (k+1)):=YES.out ⟨q1,e2.1,e2.2,e3.1,e3.2,p2 q4⟩;clear p1 p2;generalize p.t=pt at *;go_wp2_with fail;go_quiet ((first|(go_at_call 28;exact Calls.quiet_of_same (O1 _ _ zn))|(go_at_call 41;exact Calls.quiet_of_same (O7 _ _ _ _))))
     go_wp2_with fail;go_roundw
     case rel=>exact⟨k+1,by omega,by go_num,HY.out,G4 b2 _⟩
     case measure=>simp[intOf];omega
    ·have HN:Hid (pB (U0 h)=false):=NO.out (p1 q4);clear p1 p2;generalize p.t=pt at *;go_wp2_with fail;go_quiet ((first|(go_at_call 28;exact Calls.quiet_of_same (O1 _ _ zn))|(go_at_call 41;exact Calls.quiet_of_same (O7 _ _ _ _))))
     go_wp2_with fail;go_ret;exact⟨D8 HN.out.symm,G4 a0 _⟩
  ·have HY:Hid (pB (U0 h)=true):=L9 ⟨by omega,by
    have:=HI.out;rwa [show k=h.ds.length by omega] at this⟩
   go_wp2_with fail;go_ret;exact⟨D8 HY.out.symm,D5 a7 hB⟩
theorem Wy(a:Option Addr)(n cap:Nat)(w:World)(h:Av w w.heap.size (Vz a n cap) n)(hcap:n<=cap)(_hbig:cap<=maxLen):
  Calls prog 14 #[Vz a n cap] w
   λe w'=>(∃(rb len:Nat)(v:Value),e=.returned (Pz rb 0)/\Rd w' rb v len 0/\w.heap.size<=rb)/\Up w w':=by
 by_cases hn:2000<n
 ·go_in;go_wp2_with fail;go_ret;exact⟨⟨w.heap.size,2000,_,rfl,Om w _ 2000 _ (h.cut (by omega)) (by omega),A4 _⟩,(A5 _ _).alloc (A4 _) _⟩
 ·go_in;go_wp2_with fail;go_ret;exact⟨⟨w.heap.size,n,_,rfl,Om w _ n _ h (by omega),A4 _⟩,(A5 _ _).alloc (A4 _) _⟩
def M4:List BA:=[⟨#[98,114,101,119]⟩,⟨#[102,49]⟩,⟨#[102,50]⟩,⟨#[103]⟩,⟨#[104]⟩,⟨#[109,97,115,104]⟩,⟨#[114,101,115,116]⟩,⟨#[120,45,57]⟩]
theorem Np(w:World):
  Calls prog 63 #[] w
   λe w'=>e=.returned (Sz w.heap.size 8 8)/\w'=w.alloc (.cells (M4.map Value.string).toArray 9):=by
 go_in;go_wp2_with fail;go_ret;exact⟨rfl,rfl⟩
end Go.Proofs.YtmonodehegcfhaaGreatDoor
