/- The program's chapter 23: runStarting. -/
import Derived.Test.YtmonodehegcfhaaGreatDoorJ47
import Derived.Test.YtmonodehegcfhaaGreatDoorJ43
import Derived.Test.YtmonodehegcfhaaGreatDoorJ31
import Derived.Test.YtmonodehegcfhaaGreatDoorJ46
namespace Go.Proofs.YtmonodehegcfhaaGreatDoor
open Go.Proofs.Tryz
open Go.RowKit
variable{a:Act}{b':Bk}{h:House}{c:Int}{ps:List Rv}{base y:Nat}{k13:Option Nat}{k8 k9:Option Value}{P:Program}{x:Rb}{bu tu v:Value}{W X X' w w':World}
structure EP (W:World) (h:House) (x:Rb) (X:World) (k8 k9:Option Value) (k13:Option Nat):Prop where
 B:Up W X
 s8:∀v,k8=some v->Ac X v (G8 x x.ad)
 s9:∀v,k9=some v->S4 X W.heap.size v (K3 h.sh x.nm (G8 x x.ad))
 s13:∀y,k13=some y->X.ownsRow W.heap.size 26 2 (.slice (some ⟨y,0,none⟩) 1 1) 1 [.slice none 0 0,.slice none 0 0]
theorem EP.up(H:EP W h x X k8 k9 k13)(hb:Up X X'):EP W h x X' k8 k9 k13 :=
 ⟨D5 H.B hb,λv e=>(H.s8 v e).up hb,λv e=>(H.s9 v e).up hb,λy e=>E4 (H.s13 y e) hb⟩
theorem Za(W:World)(h:House)(x:Rb):EP W h x W none none none:=⟨A5 _ _,λ_ h=>(by cases h),λ_ h=>(by cases h),λ_ h=>(by cases h)⟩
theorem EP.own(H:EP W h x X k8 k9 k13)(hb:Up X X')(hv:Ac X' v (G8 x x.ad)):EP W h x X' (some v) k9 k13 :=
 {H.up hb with s8:=λu e=>by cases e;exact hv}
theorem EP.ask(H:EP W h x X k8 k9 k13)(hb:Up X X')(hv:S4 X' X.heap.size v (K3 h.sh x.nm (G8 x x.ad))):EP W h x X' k8 (some v) k13 :=
 {H.up hb with s9:=λu e=>by cases e;exact hv.low H.B.size}
theorem EP.new(H:EP W h x X k8 k9 k13):EP W h x (X.alloc (Kz [Nz,Nz] 26)) k8 k9 (some X.heap.size) :=
 {H.up ((A5 _ _).alloc (A4 _) _) with s13:=λu e=>by cases e;exact C0 X _ 1 H.B.size (by unfold maxLen;omega) rfl}
theorem EP.fin(H:EP W h x X k8 (some (.agg #[tu,bu])) (some y)):
  Up W ((X.setCell ⟨y,0,none⟩ tu).setCell ⟨y,1,none⟩ bu)/\S4 ((X.setCell ⟨y,0,none⟩ tu).setCell ⟨y,1,none⟩ bu) W.heap.size (.agg #[tu,bu]) (K3 h.sh x.nm (G8 x x.ad))/\CB ((X.setCell ⟨y,0,none⟩ tu).setCell ⟨y,1,none⟩ bu) y [tu,bu]:=by
 have a0:=H.s13 y rfl;have h1:=B4 a0 0 tu;have h2:=B4 h1.1 1 bu;have hg:X.grownBy ((X.setCell ⟨y,0,none⟩ tu).setCell ⟨y,1,none⟩ bu) (Vz (some ⟨y,0,none⟩) 1 1).ownBlock:=E0 h1.2 h2.2;exact⟨L5 H.B H.B.size a0 hg (A4 _),(H.s9 _ rfl).step a0 (by decide) (by decide) hg,D7 h2.1⟩
theorem HP.comes{tv bv xv dv xu ru su:Value}(H:HP w base h tv bv xv dv)(hW:CZ w base xv ps)(hm:ps.map (·.1)=h.bs)(hb:S4 w base (.agg #[tu,bu]) b')(hz:Y0 b')(hx:Z5 w base (x,ru,su))(h1:∀v∈ps.map (·.2.1),Ap v ru)(h2:∀v∈ps.map (·.2.2),Ap v su)(hg:w.grownBy w' xv.ownBlock)(ho:w'.ownsRow base 40 6 xu (ps.length+1) (F8 Q7 ps++Q7 (x,ru,su)))(l:Int):
  HP w' base {h with last:=l,sh:=b',bs:=h.bs++[x]} tu bu xu dv :=
 ⟨hb.step hW.1.1 (by decide) (by decide) hg,hz,⟨_,⟨hW.1.app hx hg ho,by rw[List.map_append];exact KD hW.2.1 h1,by rw[List.map_append];exact KD hW.2.2 h2⟩,by rw[List.map_append,hm];rfl⟩,⟨E5 H.d.1 hg (E9 H.d.1 hW.1.1 (by decide)),H.d.2⟩⟩
theorem RV{c:Code}{K:Act->World->Prop}{Q:Exit->Act->World->Prop}(h:c.wp P (Exit.then K λ_ _ _=>False) a w):c.wp P (Exit.then K Q) a w :=
 Code.wp_mono (λe _ _ he=>by cases e<;>first|exact he|exact he.elim) h
def RW(c:Int):Value:=if c=0 then .nilIface else .iface 104 (.agg #[.int .i64 c])
theorem VG(h:c≠0):RW c=.iface 104 (.agg #[Iz c]):=by simp[RW,h]
set_option maxRecDepth 20000 in
set_option maxHeartbeats 8000000 in
theorem Qi(h:House)(nm:BA)(ps:List Ph)(sl:List Sl)(rv sv:Value)(y:Nat)(w0 w:World)(hB0:Up w0 w)(hE:P2 w0)(hT:BD w0)(H:PH w w0.heap.size y h)(hR:T1 w0 (L3 h nm ps sl) rv sv)(hk:F6 h):
  Calls prog 24 #[Pz y 0,Tz nm,rv,sv] w λe w'=>∃cd hN,e=.returned (RW cd)/\Bw h nm ps sl cd hN/\PH w' w0.heap.size y hN/\Up w0 w':=by
 obtain⟨tv,bv,xv,dv,kA,HH⟩:=H;obtain⟨a1,c1,a2,c2,a3,c3,a4,c4,rfl,rfl,rfl,rfl⟩:=HH.v.shapes;obtain⟨l7,l8⟩:=hk.1.2.2;have e8:=hR.up hB0;obtain⟨rb,ro,rc,i4,-⟩:=hR.r;obtain⟨sb,so,sc,i5,-⟩:=hR.s;have h7:rv=Sy rb ro ps.length rc:=i4;have h8:sv=Sy sb so sl.length sc:=i5;subst h7 h8;have k0:nm.size<=maxLen:=hR.zn;clear i4 i5;have HK:Hid (F6 h):=hk;obtain⟨-,e1,-,-,-,-⟩:=(D7 kA).c6;by_cases hp:ps.length=0
 ·have j2:¬M0 (L3 h nm ps sl):=λhr=>by
   have h1:=((M3 _).1 hr.2.1).1;have h2:(L3 h nm ps sl).ps.length=ps.length:=rfl;omega
  have hP:Bw h nm ps sl 2 h:=.inr (.inl ⟨hk,j2,rfl,rfl⟩);rw[hp];clear hk j2 e8 hR;go_enter_defers func24,ntmps24
  go_wp2_with (go_at_call 71;refine (Tt nm _ _ _ _ _).mono ?_;rintro e w3 ⟨rfl,a5⟩)
  have c0:=a5.alloc a5.size (Kz [Ez,Nz,Nz,Ez,Iz 0,Iz 0] 40);exact⟨_,results_tmp rfl _ _ _,2,h,rfl,hP,⟨_,_,_,_,E4 kA c0,HH.up c0⟩,D5 hB0 c0⟩
 have k1:0<ps.length:=by omega
 have j3:=hE.up hB0;have hc:=Tu nm ps sl (h.last+1) rb ro rc sb so sc w j3 e8 k1;by_cases hok:M0 (L3 h nm ps sl)
 case neg =>
  have hP:Bw h nm ps sl 2 h:=.inr (.inl ⟨hk,hok,rfl,rfl⟩);rw[show (⟨nm,ps,sl,I0 ps,-1,h.last+1⟩:Rb)=L3 h nm ps sl from rfl,I5 hok] at hc;clear hk hok e8 hR;go_enter_defers func24,ntmps24
  go_wp2_with (go_at_call 71;refine hc.mono ?_;rintro e w3 ⟨rfl,a5⟩)
  have c0:=a5.alloc a5.size (Kz [Tz nm,Sy rb ro ps.length rc,Sy sb so sl.length sc,Tz (I0 ps),Iz (-1),Iz (h.last+1)] 40);exact⟨_,results_tmp rfl _ _ _,2,h,rfl,hP,⟨_,_,_,_,E4 kA c0,HH.up c0⟩,D5 hB0 c0⟩
 rw[show (⟨nm,ps,sl,I0 ps,-1,h.last+1⟩:Rb)=L3 h nm ps sl from rfl,L9 hok] at hc;have Hok:Hid (M0 (L3 h nm ps sl)):=hok;have h9:=Vu hok;have m2:=hk.tiny
 have Hsi:Hid (∀x∈h.bs,-1<=x.si):=λx hx=>by
  obtain⟨i,hi⟩:=C5.1 hx;exact (hk.batch hi).2.2.2.2.2.1
 clear hk hok;go_enter_defers func24,ntmps24
 go_upto_region 2 with (go_at_call 71;refine hc.mono ?_;rintro e w3 ⟨rfl,a5⟩)
 obtain⟨W4,d3,kB,c0,l9⟩:∃W4,w3.alloc (Kz [Tz nm,Sy rb ro ps.length rc,Sy sb so sl.length sc,Tz (I0 ps),Iz (-1),Iz (h.last+1)] 40)=W4/\W4.ownsRow w0.heap.size 40 6 (Sz w3.heap.size 1 1) 1 [Tz nm,Sy rb ro ps.length rc,Sy sb so sl.length sc,Tz (I0 ps),Iz (-1),Iz (h.last+1)]/\Up w3 W4/\W4.heap.size=w3.heap.size+1:=⟨_,rfl,C0 w3 _ 1 (B3 hB0.size a5.size) (by unfold maxLen;omega) rfl,(Rg w3 [Tz nm,Sy rb ro ps.length rc,Sy sb so sl.length sc,Tz (I0 ps),Iz (-1),Iz (h.last+1)] _).2⟩;try rw[d3]
 have HltB:Hid (∀g,(Vz a3 h.bs.length c3).ownBlock=some g->g<w3.heap.size):=λg e=>by
  obtain⟨qs,hq,-⟩:=HH.x;exact A2 (hq.1.1.lt g e).2 a5.size
 have b4:=D5 a5 c0;have c5:=E4 kA b4;have H4:=HH.up b4;have b6:=D5 hB0 b4;have f7:=e8.up b4;have k2:=hE.up b6;have k3:=hT.up b6;clear d3 kA HH hB0 e8 j3 a5 c0 b4 hc e1;generalize w3.heap.size=B at *;have k4:y<W4.heap.size:=(c5.lt y rfl).2;have k5:B<W4.heap.size:=(kB.lt B rfl).2;have HB:Hid (Q6 W4 (.agg #[Vz a1 h.sh.tg.length c1,Vz a2 h.sh.bs.length c2]) h.sh):=H4.v.book;have HC8:Hid (∀X,Up W4 X->Calls prog 10 #[.agg #[Tz nm,Sy rb ro ps.length rc,Sy sb so sl.length sc,Tz (I0 ps),Iz (-1),Iz (h.last+1)],Tz (I0 ps)] X λe w'=>(∃u,e=.returned u/\F7 w' X.heap.size u (G8 (L3 h nm ps sl) (I0 ps)))/\Up X w'):=λX hX=>He (L3 h nm ps sl) _ _ (I0 ps) X (k2.up hX) (f7.up hX);have HC9:Hid (∀X v,Up W4 X->Ac X v (G8 (L3 h nm ps sl) (I0 ps))->Calls prog 72 #[.agg #[Vz a1 h.sh.tg.length c1,Vz a2 h.sh.bs.length c2],Tz nm,v] X λe w'=>(∃u,e=.returned (.tuple #[u,Iz (T4 h nm ps sl)])/\S4 w' X.heap.size u (K3 h.sh nm (G8 (L3 h nm ps sl) (I0 ps))))/\Up X w'):=λX v hX hv=>Tv h.sh _ nm _ _ X (HB.out.up hX) (hv.ls (Bo f7 _)) k0 (k3.up hX);have HSZ:Hid (Y0 (K3 h.sh nm (G8 (L3 h nm ps sl) (I0 ps)))):=VF H4.z (Bo f7 _)
 have mk:∀w',Up W4 w'->At w' y 2 (Vz a1 h.sh.tg.length c1)/\At w' y 3 (Vz a2 h.sh.bs.length c2)/\At w' B 0 (Tz nm)/\At w' B 1 (Sy rb ro ps.length rc)/\At w' B 2 (Sy sb so sl.length sc)/\At w' B 3 (Tz (I0 ps))/\At w' B 4 (Iz (-1))/\At w' B 5 (Iz (h.last+1)):=λw' hb'=>by
  obtain⟨-,-,z2,z3,-,-⟩:=(D7 (E4 c5 hb')).c6;obtain⟨l0,l1,l2,l3,l4,l5⟩:=(D7 (E4 kB hb')).c6;exact⟨z2,z3,l0,l1,l2,l3,l4,l5⟩
 have Mk:Hid (∀w',Up W4 w'->At w' y 2 (Vz a1 h.sh.tg.length c1)/\At w' y 3 (Vz a2 h.sh.bs.length c2)/\At w' B 0 (Tz nm)/\At w' B 1 (Sy rb ro ps.length rc)/\At w' B 2 (Sy sb so sl.length sc)/\At w' B 3 (Tz (I0 ps))/\At w' B 4 (Iz (-1))/\At w' B 5 (Iz (h.last+1))):=mk;clear mk;go_upto_region 4 with fail;go_cut [11,12] from 13 to 74 (λv11 v12 wc=>∃(Y:Nat)(tw bw:Value),v11=Pz Y 0/\v12=.int .i64 (T4 h nm ps sl)/\Up W4 wc/\S4 wc W4.heap.size (.agg #[tw,bw]) (K3 h.sh nm (G8 (L3 h nm ps sl) (I0 ps)))/\CB wc Y [tw,bw])
 case first =>
  have hC:EP W4 h (L3 h nm ps sl) W4.drew none none none:=(Za W4 h _).up (A5 _ _).drew;refine RV (F5 99 (λw'=>At w' y 2 (Vz a1 h.sh.tg.length c1)/\At w' y 3 (Vz a2 h.sh.bs.length c2)/\At w' B 0 (Tz nm)/\At w' B 1 (Sy rb ro ps.length rc)/\At w' B 2 (Sy sb so sl.length sc)/\At w' B 3 (Tz (I0 ps))/\At w' B 4 (Iz (-1))/\At w' B 5 (Iz (h.last+1))) (by kernel_rfl) ?_);generalize W4.drew=X1 at hC ⊢
  have a6:=Mk.out _ hC.B;refine D6 0 rfl a6 ?_;refine D6 1 rfl a6 ?_;refine D6 2 rfl a6 ?_;refine D6 3 rfl a6 ?_;refine D6 4 rfl a6 ?_;refine D6 5 rfl a6 ?_;refine D6 6 rfl a6 ?_;refine D6 7 rfl a6 ?_;clear a6;refine R4 (i:=8) (j:=13) (by kernel_rfl) rfl rfl (λK hK=>?_) (λK hK=>?_)
  ·(go_simp;go_wp2_with (go_at_call 10;refine (HC8.out _ hC.B).mono ?_;rintro e X2 ⟨⟨u1,rfl,hu⟩,g2⟩;replace hC:=hC.own g2 hu.lst;obtain⟨a9,c9,rfl⟩:=hu.lst.shape;clear g2 hu);refine E6 hK (Mk.out _ hC.B) ?_;clear hK K)
   refine R4 (i:=9) (j:=13) (by kernel_rfl) rfl rfl (λK hK=>?_) (λK hK=>?_)
   ·(go_simp;go_wp2_with (go_at_call 72;refine (HC9.out _ _ hC.B (hC.s8 _ rfl)).mono ?_;rintro e X3 ⟨⟨v8,rfl,b9⟩,d0⟩;replace hC:=hC.ask d0 b9;obtain⟨t1,d1,t2,d2,rfl⟩:=b9.shape;clear b9 d0);refine E6 hK (Mk.out _ hC.B) ?_;clear hK K;(refine D6 10 rfl (Mk.out _ hC.B) ?_);(refine D6 11 rfl (Mk.out _ hC.B) ?_);(refine D6 12 rfl (Mk.out _ hC.B) ?_))
    refine E7 13 rfl (λK hK=>?_)
    (go_simp;replace hC:=hC.new;refine E6 hK (Mk.out _ hC.B) ?_;clear hK K;generalize World.alloc _ (Kz [Nz,Nz] 26)=X4 at hC ⊢)
    (have kY:=D7 (hC.s13 _ rfl);obtain⟨⟨j0,j1⟩,m0,m1⟩:=kY.c2;have hF:=hC.fin;refine E7 14 rfl (λK hK=>?_);go_simp;refine E6 hK (Mk.out _ hF.1) ?_;clear hK K j0 j1 m0 m1 kY;refine E7 15 rfl (λK hK=>?_);go_simp;refine E6 hK (Mk.out _ hF.1) ?_;clear hK K;refine F0 (by kernel_rfl) ?_ _;go_wp2_with fail;go_meet;exact⟨_,_,_,rfl,rfl,hF⟩)
   ·(go_simp;replace hC:=hC.new;refine E6 hK (Mk.out _ hC.B) ?_;clear hK K;generalize World.alloc _ (Kz [Nz,Nz] 26)=X4 at hC ⊢)
    refine E7 9 rfl (λK hK=>?_)
    (go_simp;go_wp2_with (go_at_call 72;refine (HC9.out _ _ hC.B (hC.s8 _ rfl)).mono ?_;rintro e X3 ⟨⟨v8,rfl,b9⟩,d0⟩;replace hC:=hC.ask d0 b9;obtain⟨t1,d1,t2,d2,rfl⟩:=b9.shape;clear b9 d0);refine E6 hK (Mk.out _ hC.B) ?_;clear hK K;(refine D6 10 rfl (Mk.out _ hC.B) ?_);(refine D6 11 rfl (Mk.out _ hC.B) ?_);(refine D6 12 rfl (Mk.out _ hC.B) ?_))
    (have kY:=D7 (hC.s13 _ rfl);obtain⟨⟨j0,j1⟩,m0,m1⟩:=kY.c2;have hF:=hC.fin;refine E7 14 rfl (λK hK=>?_);go_simp;refine E6 hK (Mk.out _ hF.1) ?_;clear hK K j0 j1 m0 m1 kY;refine E7 15 rfl (λK hK=>?_);go_simp;refine E6 hK (Mk.out _ hF.1) ?_;clear hK K;refine F0 (by kernel_rfl) ?_ _;go_wp2_with fail;go_meet;exact⟨_,_,_,rfl,rfl,hF⟩)
  ·(go_simp;replace hC:=hC.new;refine E6 hK (Mk.out _ hC.B) ?_;clear hK K;generalize World.alloc _ (Kz [Nz,Nz] 26)=X4 at hC ⊢)
   refine E7 8 rfl (λK hK=>?_)
   (go_simp;go_wp2_with (go_at_call 10;refine (HC8.out _ hC.B).mono ?_;rintro e X2 ⟨⟨u1,rfl,hu⟩,g2⟩;replace hC:=hC.own g2 hu.lst;obtain⟨a9,c9,rfl⟩:=hu.lst.shape;clear g2 hu);refine E6 hK (Mk.out _ hC.B) ?_;clear hK K)
   refine E7 9 rfl (λK hK=>?_)
   (go_simp;go_wp2_with (go_at_call 72;refine (HC9.out _ _ hC.B (hC.s8 _ rfl)).mono ?_;rintro e X3 ⟨⟨v8,rfl,b9⟩,d0⟩;replace hC:=hC.ask d0 b9;obtain⟨t1,d1,t2,d2,rfl⟩:=b9.shape;clear b9 d0);refine E6 hK (Mk.out _ hC.B) ?_;clear hK K;(refine D6 10 rfl (Mk.out _ hC.B) ?_);(refine D6 11 rfl (Mk.out _ hC.B) ?_);(refine D6 12 rfl (Mk.out _ hC.B) ?_))
   (have kY:=D7 (hC.s13 _ rfl);obtain⟨⟨j0,j1⟩,m0,m1⟩:=kY.c2;have hF:=hC.fin;refine E7 14 rfl (λK hK=>?_);go_simp;refine E6 hK (Mk.out _ hF.1) ?_;clear hK K j0 j1 m0 m1 kY;refine E7 15 rfl (λK hK=>?_);go_simp;refine E6 hK (Mk.out _ hF.1) ?_;clear hK K;refine F0 (by kernel_rfl) ?_ _;go_wp2_with fail;go_meet;exact⟨_,_,_,rfl,rfl,hF⟩)
 case rest =>
  obtain⟨Y,tw,bw,rfl,rfl,d7,h4,kY⟩:=hcut;have a0:=E4 c5 d7;have H5:=H4.up d7;have d4:=E4 kB d7;have k6:=f7.up d7;have c7:=D5 b6 d7;have k7:=b6.size;clear Mk HB HC8 HC9 c5 H4 kB f7 b6 d7 k4 k5;by_cases hcd:T4 h nm ps sl=0
  case neg =>
   have hP:Bw h nm ps sl (T4 h nm ps sl) h:=.inr (.inr (.inl ⟨HK.out,Hok.out,hcd,rfl,rfl⟩));have HE:Hid (RW (T4 h nm ps sl)=.iface 104 (.agg #[Iz (T4 h nm ps sl)])):=VG hcd;have k8:(T4 h nm ps sl==0)=false:=by simpa using hcd
   go_wp2_with fail;exact⟨_,results_tmp rfl _ _ _,T4 h nm ps sl,h,by rw[HE.out];rfl,hP,⟨_,_,_,_,a0,H5⟩,c7⟩
  case pos =>
   have HC0:Hid (T4 h nm ps sl=0):=hcd;rw[hcd];clear hcd;obtain⟨e0,e1,e2,e3,e4,e5⟩:=(D7 a0).c6;by_cases hlast:h.last=1000000
   case pos =>
    have hP:Bw h nm ps sl 4 h:=.inr (.inr (.inr (.inl ⟨HK.out,Hok.out,HC0.out,hlast,rfl,rfl⟩)));have k9:(h.last==1000000)=true:=by simpa using hlast
    go_wp2_with fail;exact⟨_,results_tmp rfl _ _ _,4,h,rfl,hP,⟨_,_,_,_,a0,H5⟩,c7⟩
   case neg =>
    have hP:Bw h nm ps sl 0 (Z4 (As h nm ps sl) (As h nm ps sl).bs.length):=.inr (.inr (.inr (.inr ⟨HK.out,Hok.out,HC0.out,hlast,rfl,rfl⟩)));have HP0:Hid (Bw h nm ps sl 0 (Z4 (As h nm ps sl) (As h nm ps sl).bs.length)):=hP;have HSH:Hid (As h nm ps sl={h with last:=h.last+1,sh:=K3 h.sh nm (G8 (L3 h nm ps sl) (I0 ps)),bs:=h.bs++[L3 h nm ps sl]}):=rfl;have k9:(h.last==1000000)=false:=by simpa using hlast
    clear hP;obtain⟨t1,d1,t2,d2,e9⟩:=h4.shape;simp only[Value.agg.injEq,Array.mk.injEq,List.cons.injEq,and_true] at e9;obtain⟨rfl,rfl⟩:=e9;generalize K3 h.sh nm (G8 (L3 h nm ps sl) (I0 ps))=b' at *;obtain⟨v0,v1⟩:=kY.c2';obtain⟨f0,f1,f2,f3,f4,f5⟩:=(D7 a0).f6;obtain⟨l0,l1,l2,l3,l4,l5⟩:=(D7 d4).c6;have b1:=Y5 (j:=2) a0 (Vz t1 b'.tg.length d1);have b2:=Y5 (j:=3) b1.1 (Vz t2 b'.bs.length d2);have f8:wc.grownBy ((wc.setCell ⟨y,2,none⟩ (Vz t1 b'.tg.length d1)).setCell ⟨y,3,none⟩ (Vz t2 b'.bs.length d2)) (Vz (some ⟨y,0,none⟩) 1 1).ownBlock:=E0 b1.2 b2.2
    obtain⟨W6,i6,b0,g5,H6,d9,e6⟩:∃W6,(wc.setCell ⟨y,2,none⟩ (Vz t1 b'.tg.length d1)).setCell ⟨y,3,none⟩ (Vz t2 b'.bs.length d2)=W6/\W6.ownsRow w0.heap.size 30 6 (Sz y 1 1) 1 [Iz h.now,Iz h.last,Vz t1 b'.tg.length d1,Vz t2 b'.bs.length d2,Vz a3 h.bs.length c3,Vz a4 h.ds.length c4]/\W6.ownsRow w0.heap.size 40 6 (Sz B 1 1) 1 [Tz nm,Sy rb ro ps.length rc,Sy sb so sl.length sc,Tz (I0 ps),Iz (-1),Iz (h.last+1)]/\HP W6 w0.heap.size h (Vz a1 h.sh.tg.length c1) (Vz a2 h.sh.bs.length c2) (Vz a3 h.bs.length c3) (Vz a4 h.ds.length c4)/\S4 W6 w0.heap.size (.agg #[Vz t1 b'.tg.length d1,Vz t2 b'.bs.length d2]) b'/\Up w0 W6 :=
     ⟨_,rfl,b2.1,E5 d4 f8 (E9 d4 a0 (by decide)),H5.box a0 f8,(h4.step a0 (by decide) (by decide) f8).low k7,L5 c7 c7.size a0 f8 (A4 _)⟩
    go_upto_region 11 with fail;try rw[i6]
    clear i6 e0 e1 e2 e3 e4 e5 f0 f1 f2 f3 f4 f5 l0 l1 l2 l3 l4 l5 v0 v1 b1 b2 f8 a0 d4 H5 h4 kY c7 k6;obtain⟨e0,e1,e2,e3,e4,e5⟩:=(D7 b0).c6;obtain⟨f0,f1,f2,f3,f4,f5⟩:=(D7 b0).f6;obtain⟨l0,l1,l2,l3,l4,l5⟩:=(D7 g5).c6;have b3:=Y5 (j:=1) b0 (Iz (h.last+1));have f9:W6.grownBy (W6.setCell ⟨y,1,none⟩ (Iz (h.last+1))) (Vz (some ⟨y,0,none⟩) 1 1).ownBlock:=b3.2
    obtain⟨W7,i7,i8,i9,H7,e7,h5⟩:∃W7,W6.setCell ⟨y,1,none⟩ (Iz (h.last+1))=W7/\W7.ownsRow w0.heap.size 30 6 (Sz y 1 1) 1 [Iz h.now,Iz (h.last+1),Vz t1 b'.tg.length d1,Vz t2 b'.bs.length d2,Vz a3 h.bs.length c3,Vz a4 h.ds.length c4]/\W7.ownsRow w0.heap.size 40 6 (Sz B 1 1) 1 [Tz nm,Sy rb ro ps.length rc,Sy sb so sl.length sc,Tz (I0 ps),Iz (-1),Iz (h.last+1)]/\HP W7 w0.heap.size h (Vz a1 h.sh.tg.length c1) (Vz a2 h.sh.bs.length c2) (Vz a3 h.bs.length c3) (Vz a4 h.ds.length c4)/\S4 W7 w0.heap.size (.agg #[Vz t1 b'.tg.length d1,Vz t2 b'.bs.length d2]) b'/\Up w0 W7 :=
     ⟨_,rfl,b3.1,E5 g5 f9 (E9 g5 b0 (by decide)),H6.box b0 f9,d9.step b0 (by decide) (by decide) f9,L5 e6 e6.size b0 f9 (A4 _)⟩
    go_upto_region 12 with fail;try rw[i7]
    clear i7 e0 e1 e2 e3 e4 e5 f0 f1 f2 f3 f4 f5 l0 l1 l2 l3 l4 l5 b3 f9 b0 g5 H6 d9 e6;have j4:=hR.up h5;obtain⟨j9,h6,r0,r1,r2⟩:=info_parts Ij;have hd:=(A5 W7.heap.size W7).drew;have g7:=E4 i8 hd;have g8:=E4 i9 hd;have H8:=H7.up hd;have d5:=e7.up hd;have g9:=h5.drew;have i0:=j4.up hd;clear i8 i9 H7 e7 h5 j4 hd
    have j5:∀(X:World)(p:X.ownsRow w0.heap.size 30 6 (Sz y 1 1) 1 [Iz h.now,Iz (h.last+1),Vz t1 b'.tg.length d1,Vz t2 b'.bs.length d2,Vz a3 h.bs.length c3,Vz a4 h.ds.length c4]) (q:X.ownsRow w0.heap.size 40 6 (Sz B 1 1) 1 [Tz nm,Sy rb ro ps.length rc,Sy sb so sl.length sc,Tz (I0 ps),Iz (-1),Iz (h.last+1)]),At X y 4 (Vz a3 h.bs.length c3)/\At X B 0 (Tz nm)/\At X B 1 (Sy rb ro ps.length rc)/\At X B 2 (Sy sb so sl.length sc)/\At X B 3 (Tz (I0 ps))/\At X B 4 (Iz (-1))/\At X B 5 (Iz (h.last+1)):=λX p q=>by
     obtain⟨-,-,-,-,z4,-⟩:=(D7 p).c6;obtain⟨l0,l1,l2,l3,l4,l5⟩:=(D7 q).c6;exact⟨z4,l0,l1,l2,l3,l4,l5⟩
    have MkS:Hid (∀(X:World)(p:X.ownsRow w0.heap.size 30 6 (Sz y 1 1) 1 [Iz h.now,Iz (h.last+1),Vz t1 b'.tg.length d1,Vz t2 b'.bs.length d2,Vz a3 h.bs.length c3,Vz a4 h.ds.length c4]) (q:X.ownsRow w0.heap.size 40 6 (Sz B 1 1) 1 [Tz nm,Sy rb ro ps.length rc,Sy sb so sl.length sc,Tz (I0 ps),Iz (-1),Iz (h.last+1)]),At X y 4 (Vz a3 h.bs.length c3)/\At X B 0 (Tz nm)/\At X B 1 (Sy rb ro ps.length rc)/\At X B 2 (Sy sb so sl.length sc)/\At X B 3 (Tz (I0 ps))/\At X B 4 (Iz (-1))/\At X B 5 (Iz (h.last+1))):=j5;have HC6:Hid (∀X,T1 X (L3 h nm ps sl) (Sy rb ro ps.length rc) (Sy sb so sl.length sc)->Calls prog 74 #[.agg #[Tz nm,Sy rb ro ps.length rc,Sy sb so sl.length sc,Tz (I0 ps),Iz (-1),Iz (h.last+1)]] X λe w'=>(∃ru su,e=.returned (.agg #[Tz nm,ru,su,Tz (I0 ps),Iz (-1),Iz (h.last+1)])/\Z5 w' X.heap.size (L3 h nm ps sl,ru,su))/\Up X w'):=λX hv=>Nt (L3 h nm ps sl) _ _ X hv h9.1 h9.2;clear j5 h9;refine RV (F5 11 (λw'=>At w' y 4 (Vz a3 h.bs.length c3)/\At w' B 0 (Tz nm)/\At w' B 1 (Sy rb ro ps.length rc)/\At w' B 2 (Sy sb so sl.length sc)/\At w' B 3 (Tz (I0 ps))/\At w' B 4 (Iz (-1))/\At w' B 5 (Iz (h.last+1))) (by kernel_rfl) ?_);generalize W7.drew=X1 at g7 g8 H8 d5 g9 i0 ⊢
    have a6:=MkS.out _ g7 g8;refine D6 0 rfl a6 ?_;refine D6 1 rfl a6 ?_;refine D6 2 rfl a6 ?_;refine D6 3 rfl a6 ?_;refine D6 4 rfl a6 ?_;refine D6 5 rfl a6 ?_;clear a6;refine E7 6 rfl (λK hK=>?_);go_simp;go_wp2_with (go_at_call 74;refine (HC6.out _ i0).mono ?_;rintro e X3 ⟨⟨ru,su,rfl,d8⟩,a5⟩)
    obtain⟨qs,g6,hm⟩:=H8.x;have Hm:Hid (qs.map (·.1)=h.bs):=hm;have j6:qs.length=h.bs.length:=by rw[← hm,B5]
    have Hap1:Hid (∀v∈qs.map (·.2.1),Ap v ru):=λv hv=>by
     obtain⟨z,hz,rfl⟩:=List.mem_map.1 hv;exact Mm (g6.1.2 z hz).r d8.r (A4 _)
    have Hap2:Hid (∀v∈qs.map (·.2.2),Ap v su):=λv hv=>by
     obtain⟨z,hz,rfl⟩:=List.mem_map.1 hv;exact Mm (g6.1.2 z hz).s d8.s (A4 _)
    have i1:=E4 g7 a5;have i2:=E4 g8 a5;have H3:=H8.up a5;have g0:=d5.up a5;have j7:=g6.up a5;have g1:=d8.low g9.size;have j8:=D5 g9 a5;obtain⟨g3,n3,m3,ee⟩:NN ru:=d8.nr;obtain⟨g4,n4,m4,ef⟩:NN su:=d8.ns;subst ee ef;clear g7 g8 H8 d5 g9 i0 g6 hm d8 a5 HC6;refine E6 hK (MkS.out _ i1 i2) ?_;clear hK K;have a7:Up X3 (X3.alloc (Kz [Tz nm,Sz g3 n3 m3,Sz g4 n4 m4,Tz (I0 ps),Iz (-1),Iz (h.last+1)] 40)):=(A5 _ _).alloc (A4 _) _;have c5:=E4 i1 a7;have h0:=E4 i2 a7;have H4:=H3.up a7;have d6:=g0.up a7;have d3:=j7.up a7;have c8:=g1.up a7;have b6:=D5 j8 a7;have b7:∀(j:Nat)(u:Value),(Q7 (L3 h nm ps sl,Sz g3 n3 m3,Sz g4 n4 m4))[j]?=some u->(X3.alloc (Kz [Tz nm,Sz g3 n3 m3,Sz g4 n4 m4,Tz (I0 ps),Iz (-1),Iz (h.last+1)] 40)).cell? ((⟨X3.heap.size,0,none⟩:Addr).add j)=some u:=λj u hj=>Oh _ _ _ _ _ _ _ _ hj;clear i1 i2 H3 g0 j7 g1 j8;refine E7 7 rfl (λK hK=>?_);go_simp;refine E6 hK (MkS.out _ c5 h0) ?_;clear hK K;clear a7;generalize X3.alloc (Kz [Tz nm,Sz g3 n3 m3,Sz g4 n4 m4,Tz (I0 ps),Iz (-1),Iz (h.last+1)] 40)=X4 at c5 h0 H4 d6 d3 c8 b6 b7 ⊢
    have a8:=d3.1.1;rw[j6] at a8;refine E7 8 rfl (λK hK=>?_);refine J0 rfl _ _ 27 rfl w0.heap.size 40 j9 _ 6 96 underlying27 h6 r0 r1 r2 rfl (by decide) (Vz a3 h.bs.length c3) _ _ rfl a8 ⟨X3.heap.size,0,none⟩ 1 1 (Q7 (L3 h nm ps sl,Sz g3 n3 m3,Sz g4 n4 m4)) rfl rfl b7 (Gi c8) (by unfold maxLen;omega) (by omega) b6.size ?_;intro v5 X5 hown5 hgr5;have a0:=E5 c5 hgr5 (E9 c5 a8 (by decide));have d4:=(D7 h0).kept hgr5 (λe=>by have:=HltB.out _ e.symm;omega);have c7:=L5 b6 b6.size a8 hgr5 (A4 _);have b8:=hown5;rw[← j6] at b8;have H5:=H4.comes d3 Hm.out d6 HSZ.out c8 Hap1.out Hap2.out hgr5 b8 (h.last+1)
    have h3:At X5 y 4 (Vz a3 h.bs.length c3)/\At X5 B 0 (Tz nm)/\At X5 B 1 (Sy rb ro ps.length rc)/\At X5 B 2 (Sy sb so sl.length sc)/\At X5 B 3 (Tz (I0 ps))/\At X5 B 4 (Iz (-1))/\At X5 B 5 (Iz (h.last+1)):=by
     obtain⟨-,-,-,-,z4,-⟩:=(D7 a0).c6;obtain⟨l0,l1,l2,l3,l4,l5⟩:=d4.c6;exact⟨z4,l0,l1,l2,l3,l4,l5⟩
    obtain⟨gg,cc,rfl⟩:=I6 hown5 (by omega);clear hown5 b8 hgr5 c5 h0 H4 d6 d3 c8 b6 b7 a8 d4 MkS;refine E6 hK h3 ?_;clear hK K;refine E7 9 rfl (λK hK=>?_);go_simp;refine E6 hK h3 ?_;clear hK K;refine D6 10 rfl h3 ?_;have b5:=Y5 (j:=4) a0 (Sz gg (h.bs.length+1) cc);have i3:X5.grownBy (X5.setCell ⟨y,4,none⟩ (Sz gg (h.bs.length+1) cc)) (Vz (some ⟨y,0,none⟩) 1 1).ownBlock:=b5.2;have H6:=H5.box a0 i3;have e6:=L5 c7 c7.size a0 i3 (A4 _);have b0:(X5.setCell ⟨y,4,none⟩ (Sz gg (h.bs.length+1) cc)).ownsRow w0.heap.size 30 6 (Sz y 1 1) 1 [Iz h.now,Iz (h.last+1),Vz t1 b'.tg.length d1,Vz t2 b'.bs.length d2,Sz gg (h.bs.length+1) cc,Vz a4 h.ds.length c4]:=b5.1;obtain⟨e0,e1,e2,e3,e4,e5⟩:=(D7 a0).c6;obtain⟨f0,f1,f2,f3,f4,f5⟩:=(D7 a0).f6;refine E7 11 rfl (λK hK=>?_);go_simp;refine Bf hK ?_;clear hK K;refine F0 (by kernel_rfl) ?_ _;clear e0 e1 e2 e3 e4 e5 f0 f1 f2 f3 f4 f5 a0 H5 c7 h3 b5 i3
    have HPH:Hid (PH (X5.setCell ⟨y,4,none⟩ (Sz gg (h.bs.length+1) cc)) w0.heap.size y (As h nm ps sl)):=by
     show PH _ _ _ _
     rw[HSH.out];exact⟨_,_,_,_,b0,H6⟩
    have HSI:Hid (∀x∈(As h nm ps sl).bs,-1<=x.si):=λx hx=>by
     rcases D0.1 hx with h1|h1
     ·exact Hsi.out x h1
     ·obtain rfl:=D1.1 h1;show (-1:Int)<=-1;omega
    clear b0 H6;generalize X5.setCell ⟨y,4,none⟩ (Sz gg (h.bs.length+1) cc)=X6 at *;go_wp2_with fail;refine leaves_cons (f:=73) (args:=#[Pz y 0]) (by simp) (by simp[go_sem]) ?_;refine (Tm (As h nm ps sl) y .returning w0 X6 e6 hE hT HPH.out HSI.out).mono ?_;rintro e u' w2 ⟨rfl,rfl,H2,l6⟩;exact⟨_,results_tmp rfl _ _ _,0,_,rfl,HP0.out,H2,l6⟩
end Go.Proofs.YtmonodehegcfhaaGreatDoor
