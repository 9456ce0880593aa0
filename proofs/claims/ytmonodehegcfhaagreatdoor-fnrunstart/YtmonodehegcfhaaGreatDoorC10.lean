/- The specification's RunStart (chapter 23). -/
import Derived.Test.YtmonodehegcfhaaGreatDoorJ31
import Derived.Test.YtmonodehegcfhaaGreatDoorJ23
import Derived.Test.YtmonodehegcfhaaGreatDoorV11
import Derived.Test.YtmonodehegcfhaaGreatDoorKt7
namespace Go.Proofs.YtmonodehegcfhaaGreatDoor
open Go.Proofs.Tryz
open Go.RowKit
variable{b':Bk}{h:House}{ps:List Rv}{base y:Nat}{k11 k12:Option Nat}{k6 k7:Option Value}{x:Rb}{bu bv dv ru su tu tv v xv:Value}{W X X' w w':World}
structure NB (W:World) (x:Rb) (X:World) (k11:Option (Value×Value)) (k12:Option Nat):Prop where
 B:Up W X
 s11:∀r,k11=some r->Z5 X W.heap.size (x,r.1,r.2)
 s12:∀y,k12=some y->X.ownsRow W.heap.size 40 6 (.slice (some ⟨y,0,none⟩) 1 1) 1 [.string ⟨#[]⟩,.slice none 0 0,.slice none 0 0,.string ⟨#[]⟩,.int .i64 0,.int .i64 0]
theorem YK(W:World)(x:Rb):NB W x W none none:=⟨A5 _ _,λ_ h=>(by cases h),λ_ h=>(by cases h)⟩
theorem NB.up{k11:Option (Value×Value)}(H:NB W x X k11 k12)(hb:Up X X'):NB W x X' k11 k12 :=
 ⟨D5 H.B hb,λr e=>(H.s11 r e).up hb,λy e=>E4 (H.s12 y e) hb⟩
theorem NB.call{k11:Option (Value×Value)}(H:NB W x X k11 k12)(hb:Up X X')(hv:Z5 X' X.heap.size (x,ru,su)):NB W x X' (some (ru,su)) k12 :=
 {H.up hb with s11:=λr e=>by cases e;exact hv.low H.B.size}
theorem NB.new{k11:Option (Value×Value)}(H:NB W x X k11 k12):NB W x (X.alloc (Kz [Ez,Nz,Nz,Ez,Iz 0,Iz 0] 40)) k11 (some X.heap.size) :=
 {H.up ((A5 _ _).alloc (A4 _) _) with s12:=λu e=>by cases e;exact C0 X _ 1 H.B.size (by unfold maxLen;omega) rfl}
theorem NB.fin(H:NB W x X (some (ru,su)) (some y)):Up W ((((((X.setCell ⟨y,0,none⟩ (Tz x.nm)).setCell ⟨y,1,none⟩ ru).setCell ⟨y,2,none⟩ su).setCell ⟨y,3,none⟩ (Tz x.ad)).setCell ⟨y,4,none⟩ (Iz x.si)).setCell ⟨y,5,none⟩ (Iz x.st))/\(((((((X.setCell ⟨y,0,none⟩ (Tz x.nm)).setCell ⟨y,1,none⟩ ru).setCell ⟨y,2,none⟩ su).setCell ⟨y,3,none⟩ (Tz x.ad)).setCell ⟨y,4,none⟩ (Iz x.si)).setCell ⟨y,5,none⟩ (Iz x.st))).ownsRow W.heap.size 40 6 (Sz y 1 1) 1 (Q7 (x,ru,su))/\Z5 ((((((X.setCell ⟨y,0,none⟩ (Tz x.nm)).setCell ⟨y,1,none⟩ ru).setCell ⟨y,2,none⟩ su).setCell ⟨y,3,none⟩ (Tz x.ad)).setCell ⟨y,4,none⟩ (Iz x.si)).setCell ⟨y,5,none⟩ (Iz x.st)) W.heap.size (x,ru,su):=by
 have a0:=H.s12 y rfl;have h1:=B4 a0 0 (Tz x.nm);have h2:=B4 h1.1 1 ru;have h3:=B4 h2.1 2 su;have h4:=B4 h3.1 3 (Tz x.ad);have h5:=B4 h4.1 4 (Iz x.si);have h6:=B4 h5.1 5 (Iz x.st);have hg:X.grownBy ((((((X.setCell ⟨y,0,none⟩ (Tz x.nm)).setCell ⟨y,1,none⟩ ru).setCell ⟨y,2,none⟩ su).setCell ⟨y,3,none⟩ (Tz x.ad)).setCell ⟨y,4,none⟩ (Iz x.si)).setCell ⟨y,5,none⟩ (Iz x.st)) (Vz (some ⟨y,0,none⟩) 1 1).ownBlock:=E0 (E0 (E0 (E0 (E0 h1.2 h2.2) h3.2) h4.2) h5.2) h6.2;exact⟨L5 H.B H.B.size a0 hg (A4 _),h6.1,(H.s11 _ rfl).step a0 (by decide) (by decide) hg⟩
structure EN (W:World) (h:House) (x:Rb) (X:World) (k6 k7:Option Value) (k11:Option Nat):Prop where
 B:Up W X
 s6:∀v,k6=some v->R8 X v (G8 x x.ad)
 s7:∀v,k7=some v->L6 X W.heap.size v (K3 h.sh x.nm (G8 x x.ad))
 s11:∀y,k11=some y->X.ownsRow W.heap.size 26 2 (.slice (some ⟨y,0,none⟩) 1 1) 1 [.slice none 0 0,.slice none 0 0]
theorem YL(W:World)(h:House)(x:Rb):EN W h x W none none none:=⟨A5 _ _,λ_ h=>(by cases h),λ_ h=>(by cases h),λ_ h=>(by cases h)⟩
theorem EN.up(H:EN W h x X k6 k7 k11)(hb:Up X X'):EN W h x X' k6 k7 k11 :=
 ⟨D5 H.B hb,λv e=>(H.s6 v e).up hb,λv e=>(H.s7 v e).up hb,λy e=>E4 (H.s11 y e) hb⟩
theorem EN.c6(H:EN W h x X k6 k7 k11)(hb:Up X X')(hv:R8 X' v (G8 x x.ad)):EN W h x X' (some v) k7 k11 :=
 {H.up hb with s6:=λu e=>by cases e;exact hv}
theorem EN.c7(H:EN W h x X k6 k7 k11)(hb:Up X X')(hv:L6 X' X.heap.size v (K3 h.sh x.nm (G8 x x.ad))):EN W h x X' k6 (some v) k11 :=
 {H.up hb with s7:=λu e=>by cases e;exact hv.low H.B.size}
theorem EN.c11(H:EN W h x X k6 k7 k11):EN W h x (X.alloc (Kz [Nz,Nz] 26)) k6 k7 (some X.heap.size) :=
 {H.up ((A5 _ _).alloc (A4 _) _) with s11:=λu e=>by cases e;exact C0 X _ 1 H.B.size (by unfold maxLen;omega) rfl}
theorem EN.fin(H:EN W h x X k6 (some (.agg #[tu,bu])) (some y)):
  Up W ((X.setCell ⟨y,0,none⟩ tu).setCell ⟨y,1,none⟩ bu)/\L6 ((X.setCell ⟨y,0,none⟩ tu).setCell ⟨y,1,none⟩ bu) W.heap.size (.agg #[tu,bu]) (K3 h.sh x.nm (G8 x x.ad))/\CB ((X.setCell ⟨y,0,none⟩ tu).setCell ⟨y,1,none⟩ bu) y [tu,bu]:=by
 have a0:=H.s11 y rfl;have h1:=B4 a0 0 tu;have h2:=B4 h1.1 1 bu;have hg:X.grownBy ((X.setCell ⟨y,0,none⟩ tu).setCell ⟨y,1,none⟩ bu) (Vz (some ⟨y,0,none⟩) 1 1).ownBlock:=E0 h1.2 h2.2;exact⟨L5 H.B H.B.size a0 hg (A4 _),(H.s7 _ rfl).step a0 (by decide) (by decide) hg,D7 h2.1⟩
theorem HW.comes{xu:Value}(H:HW w base h tv bv xv dv)(hW:V3 w base xv ps)(hm:ps.map (·.1)=h.bs)(hb:L6 w base (.agg #[tu,bu]) b')(hz:Y0 b')(hx:Z5 w base (x,ru,su))(hg:w.grownBy w' xv.ownBlock)(ho:w'.ownsRow base 40 6 xu (ps.length+1) (F8 Q7 ps++Q7 (x,ru,su)))(l:Int):
  HW w' base {h with last:=l,sh:=b',bs:=h.bs++[x]} tu bu xu dv :=
 ⟨hb.step hW.1 (by decide) (by decide) hg,hz,⟨_,hW.app hx hg ho,by rw[List.map_append,hm];rfl⟩,H.d.step hW.1 (by decide) hg⟩
theorem FH(H:HW W base h tv bv xv dv)(kR:W.ownsRow w.heap.size 30 6 (Sz (w.heap.size+1) 1 1) 1 [Iz 0,Iz 0,Nz,Nz,Nz,Nz])(hb:w.heap.size<=base)(y0 y1:Value):HX ((((((W.setCell ⟨w.heap.size+1,0,none⟩ y0).setCell ⟨w.heap.size+1,1,none⟩ y1).setCell ⟨w.heap.size+1,2,none⟩ tv).setCell ⟨w.heap.size+1,3,none⟩ bv).setCell ⟨w.heap.size+1,4,none⟩ xv).setCell ⟨w.heap.size+1,5,none⟩ dv) w.heap.size h tv bv xv dv :=
 .inl ((H.box kR (G3 W (w.heap.size+1) y0 y1 tv bv xv dv)).low hb)
set_option maxRecDepth 20000 in
set_option maxHeartbeats 8000000 in
theorem Mg(h:House)(tv bv xv dv:Value)(nm:BA)(ps:List Ph)(sl:List Sl)(rv sv:Value)(w:World)(H:HV w h tv bv xv dv)(hR:T1 w (L3 h nm ps sl) rv sv):
  Calls prog 6 #[.agg #[Iz h.now,Iz h.last,tv,bv,xv,dv],Tz nm,rv,sv] w λe w'=>(∃h' tu bu xu du cd,e=.returned (.tuple #[.agg #[Iz h'.now,Iz h'.last,tu,bu,xu,du],Iz cd])/\AX h nm ps sl cd h'/\Gl h'/\HX w' w.heap.size h' tu bu xu du)/\Up w w':=by
 obtain⟨rb,ro,rc,l6,j6,t3,-,-⟩:=hR.r;obtain⟨sb,so,sc,l7,j7,t4⟩:=hR.s;have l6:rv=Sy rb ro ps.length rc:=l6;have l7:sv=Sy sb so sl.length sc:=l7;subst l6 l7;have j6:M2 w rb ro ps:=j6;have j7:DK w sb so sl:=j7;have v7:Dd ps:=hR.zp;have v9:∀y∈sl,y.s.size<=maxLen/\y.t.size<=maxLen:=hR.zs;have n7:nm.size<=maxLen:=hR.zn;have w0:ps.length<=1048576:=hR.np;have w1:sl.length<=1048576:=hR.ns;obtain⟨a1,c1,a2,c2,a3,c3,a4,c4,rfl,rfl,rfl,rfl⟩:=H.shapes;obtain⟨W1,o9,kA,kR,j8⟩:∃W1,(w.alloc (.cells (Hcz h a1 c1 a2 c2 a3 c3 a4 c4).toArray 30)).alloc (Kz [Iz 0,Iz 0,Nz,Nz,Nz,Nz] 30)=W1/\W1.ownsRow w.heap.size 30 6 (Sz w.heap.size 1 1) 1 (Hcz h a1 c1 a2 c2 a3 c3 a4 c4)/\W1.ownsRow w.heap.size 30 6 (Sz (w.heap.size+1) 1 1) 1 [Iz 0,Iz 0,Nz,Nz,Nz,Nz]/\Up w W1:=⟨_,rfl,DM w (Hcz h a1 c1 a2 c2 a3 c3 a4 c4) [Iz 0,Iz 0,Nz,Nz,Nz,Nz] rfl rfl⟩;go_in;go_upto_region 1 with fail;try rw[o9]
 clear o9;have H1:=H.up j8;obtain⟨e0,e1,e2,e3,e4,e5⟩:=(D7 kA).c6;have a5:=Ep h _ _ _ _ W1 H1;by_cases hk:F6 h
 case neg =>
  rw[I5 hk] at a5;have HI:Hid (AX h nm ps sl 1 N9):=.inl ⟨hk,rfl,rfl⟩;go_upto_region 2 with (go_at_call 9;refine a5.mono ?_;rintro e w2 ⟨rfl,a0⟩)
  have e6:=E4 kR a0;obtain⟨y0,y1,y2,y3,y4,y5⟩:=(D7 e6).c6;obtain⟨f0,f1,f2,f3,f4,f5⟩:=(D7 e6).f6;have k2:=D5 j8 a0;clear a5 a0;go_wp2_with fail;refine R7 results6 underlying30 rfl G6 (D7 e6) rfl rfl ?_;exact⟨⟨N9,_,_,_,_,1,rfl,HI.out,Ln,MH _ _⟩,I9 k2 (by omega) _ _ _ _ _ _⟩
 have HK:Hid (F6 h):=hk;obtain⟨d9,x6,l8⟩:=hk.tiny;rw[L9 hk] at a5;clear hk;go_upto_region 3 with (go_at_call 9;refine a5.mono ?_;rintro e w2 ⟨rfl,a0⟩)
 have n8:=E4 kA a0;have e6:=E4 kR a0;have k2:=D5 j8 a0;have H2:=H1.up a0;clear a5 a0 e0 e1 e2 e3 e4 e5 kA kR H1 H j8;obtain⟨e0,e1,e2,e3,e4,e5⟩:=(D7 n8).c6;have d4:=Cv h _ _ _ _ w2 H2 (by have:=d9.1;omega) (by have:=d9.2.1;omega) (λy hy=>by have:=d9.2.2 y hy;omega) (by omega) (by omega);go_upto_region 4 with (go_at_call 25;refine d4.mono ?_;rintro e w3 ⟨⟨tu,bu,xu,du,rfl,H3⟩,o7⟩;obtain⟨p1,q1,p2,q2,p3,q3,p4,q4,rfl,rfl,rfl,rfl⟩:=H3.v.shapes)
 obtain⟨W4,p0,kX,j9⟩:∃W4,w3.alloc (.cells (Hcz h p1 q1 p2 q2 p3 q3 p4 q4).toArray 30)=W4/\W4.ownsRow w3.heap.size 30 6 (Sz w3.heap.size 1 1) 1 (Hcz h p1 q1 p2 q2 p3 q3 p4 q4)/\Up w3 W4:=⟨_,rfl,C0 w3 _ 1 (A4 _) (by unfold maxLen;omega) rfl,(A5 _ _).alloc (A4 _) _⟩;try rw[p0]
 have c5:=D5 o7 j9;have H4:=H3.up j9;have r6:=E4 n8 c5;have r7:=E4 e6 c5;have f9:=D5 k2 c5;have x8:w.heap.size+1<w2.heap.size:=(e6.lt _ rfl).2;have x9:=o7.size;have y6:=j9.size;clear p0 d4 e0 e1 e2 e3 e4 e5 H3 H2 o7 j9 c5 n8 e6 k2;have HR4:Hid (T1 W4 (L3 h nm ps sl) (Sy rb ro ps.length rc) (Sy sb so sl.length sc)):=hR.up f9;have k3:=j6.up f9 t3;have r8:=j7.up f9 t4;have y7:=f9.size;have c8:rb<W4.heap.size:=by omega
 have h9:sb<W4.heap.size:=by omega
 clear hR j6 j7;go_cut [33] (λv33 wc=>∃cb:Bool,v33=.bool cb/\(cb=true->¬Cy nm ps sl)/\(cb=false->Cy nm ps sl)/\Up W4 wc)
 case first =>
  have g0:=Dl ps rb ro rc W4 k3 c8 v7 w0;by_cases h1:P3 ps=true
  ·rw[h1] at g0;have HC2:Hid (∀W,Up W4 W->Calls prog 27 #[Sy rb ro ps.length rc,Sy sb so sl.length sc] W λe w'=>e=.returned (.bool (pB (N7 ps sl)))/\Up W w'):=λW hW=>Ek ps sl rb ro rc sb so sc W (k3.up hW c8) (A2 c8 hW.size) h1 (r8.up hW h9) (A2 h9 hW.size) w1 v9;by_cases h2:N7 ps sl
   ·rw[L9 h2] at HC2;cases h3:G0 nm
    ·go_wp2_with (first|(go_at_call 26;refine g0.mono ?_;rintro e x1 ⟨rfl,b3⟩)|(go_at_call 27;refine (HC2.out _ b3).mono ?_;rintro e x2 ⟨rfl,i9⟩;have b0:=D5 b3 i9)|(go_at_call 28;refine (CV nm _ n7).mono ?_;rw[h3];rintro e x3 ⟨rfl,o8⟩;have e7:=D5 b0 o8))
     go_meet
     case rel=>exact⟨true,rfl,λ_ hc=>(by rw[hc.2.2] at h3;cases h3),λh=>(by cases h),e7⟩
    ·go_wp2_with (first|(go_at_call 26;refine g0.mono ?_;rintro e x1 ⟨rfl,b3⟩)|(go_at_call 27;refine (HC2.out _ b3).mono ?_;rintro e x2 ⟨rfl,i9⟩;have b0:=D5 b3 i9)|(go_at_call 28;refine (CV nm _ n7).mono ?_;rw[h3];rintro e x3 ⟨rfl,o8⟩;have e7:=D5 b0 o8))
     go_meet
     case rel=>exact⟨false,rfl,λh=>(by cases h),λ_=>⟨h1,h2,h3⟩,e7⟩
   ·rw[I5 h2] at HC2;go_wp2_with (first|(go_at_call 26;refine g0.mono ?_;rintro e x1 ⟨rfl,b3⟩)|(go_at_call 27;refine (HC2.out _ b3).mono ?_;rintro e x2 ⟨rfl,i9⟩;have b0:=D5 b3 i9))
    go_meet
    case rel=>exact⟨true,rfl,λ_ hc=>h2 hc.2.1,λh=>(by cases h),b0⟩
  ·have w4:P3 ps=false:=by simpa using h1
   rw[w4] at g0;go_wp2_with (go_at_call 26;refine g0.mono ?_;rintro e x1 ⟨rfl,b3⟩)
   go_meet
   case rel=>exact⟨true,rfl,λ_ hc=>h1 hc.1,λh=>(by cases h),b3⟩
 case rest =>
  obtain⟨cb,rfl,g6,g8,b4⟩:=hcut;obtain⟨wa,rfl⟩:∃wa,wa=wc:=⟨_,rfl⟩;have g1:=E4 r7 b4;have n9:=E4 kX b4;have k4:=E4 r6 b4;have H5:=H4.up b4;have o0:=D5 f9 b4;have HR5:Hid (T1 wa (L3 h nm ps sl) (Sy rb ro ps.length rc) (Sy sb so sl.length sc)):=HR4.out.up b4;have r9:=k3.up b4 c8;have y8:=b4.size;have o1:rb<wa.heap.size:=by omega
  clear k3 r8 r7 kX r6 H4 f9 HR4 b4;cases cb
  case true =>
   have HI:Hid (AX h nm ps sl 2 h):=.inr (.inl ⟨HK.out,g6 rfl,rfl,rfl⟩);obtain⟨p5,p6,p7,p8,k0,p9⟩:=(D7 n9).c6;obtain⟨y0,y1,y2,y3,y4,y5⟩:=(D7 g1).c6;obtain⟨f0,f1,f2,f3,f4,f5⟩:=(D7 g1).f6;go_wp2_with fail;refine R7 results6 underlying30 rfl G6 (D7 g1) rfl rfl ?_
   exact⟨⟨h,_,_,_,_,2,rfl,HI.out,⟨d9,by omega,by omega⟩,FH H5 g1 (by omega) _ _⟩,I9 o0 (by omega) _ _ _ _ _ _⟩
  case false =>
   have HCB:Hid (Cy nm ps sl):=g8 rfl;clear g8 g6;obtain⟨l9,-,-⟩:=HCB.out;have s0:0<ps.length:=((M3 ps).1 l9).1;have y9:0<=h.last/\h.last<=1000000:=HK.out.1.2.2;have z0:IntKind.i64.wrap (h.last+1)=h.last+1:=by rw[IntKind.wrap_i64];omega
   have c0:At wa rb ro (Tz (I0 ps)):=by
    have:=(r9.cells 0 s0).1;rw[show ro+0*8=ro by omega,← BL s0] at this;exact this
   have k5:At wa w.heap.size 1 (Iz h.last):=(D7 k4).c6.2.1;have w5:w.heap.size<wa.heap.size:=(k4.lt w.heap.size rfl).2;have mk:∀w',Up wa w'->Up wa w'/\At w' rb ro (Tz (I0 ps))/\At w' w.heap.size 1 (Iz h.last):=λw' hb'=>⟨hb',(hb'.cell (p:=⟨rb,ro,none⟩) o1).trans c0,(hb'.cell (p:=⟨w.heap.size,1,none⟩) w5).trans k5⟩;have Mk:Hid (∀w',Up wa w'->Up wa w'/\At w' rb ro (Tz (I0 ps))/\At w' w.heap.size 1 (Iz h.last)):=mk;have HC11:Hid (∀X,Up wa X->Calls prog 29 #[.agg #[Tz nm,Sy rb ro ps.length rc,Sy sb so sl.length sc,Tz (I0 ps),Iz (-1),Iz (h.last+1)]] X λe w'=>(∃ru su,e=.returned (.agg #[Tz nm,ru,su,Tz (I0 ps),Iz (-1),Iz (h.last+1)])/\Z5 w' X.heap.size (L3 h nm ps sl,ru,su))/\Up X w'):=λX hX=>Jd (L3 h nm ps sl) _ _ X (HR5.out.up hX);clear mk c0 k5 r9;go_upto_region 6 with fail;go_cut [11] (λv11 wd=>∃(L:Nat)(ru su:Value),v11=Pz L 0/\Up wa wd/\wd.ownsRow wa.heap.size 40 6 (Sz L 1 1) 1 (Q7 (L3 h nm ps sl,ru,su))/\Z5 wd wa.heap.size (L3 h nm ps sl,ru,su))
   case first =>
    have hC:NB wa (L3 h nm ps sl) wa.drew none none:=(YK wa _).up (A5 _ _).drew;refine F5 99 (λw'=>Up wa w'/\At w' rb ro (Tz (I0 ps))/\At w' w.heap.size 1 (Iz h.last)) (by kernel_rfl) ?_;generalize wa.drew=X1 at hC ⊢
    have a6:=Mk.out _ hC.B;refine D6 0 rfl a6 ?_;refine D6 1 rfl a6 ?_;refine D6 2 rfl a6 ?_;refine D6 3 rfl a6 ?_;refine D6 4 rfl a6 ?_;refine D6 5 rfl a6 ?_;refine D6 6 rfl a6 ?_;refine D6 7 rfl a6 ?_;refine D6 8 rfl a6 ?_;refine D6 9 rfl a6 ?_;refine D6 10 rfl a6 ?_;clear a6;refine R4 (i:=11) (j:=12) (by kernel_rfl) rfl rfl (λK hK=>?_) (λK hK=>?_)
    ·(go_simp;go_wp2_with (go_at_call 29;refine (HC11.out _ hC.B).mono ?_;rintro e X2 ⟨⟨ru,su,rfl,d0⟩,a0⟩;replace hC:=hC.call a0 d0;have i0:NN ru:=d0.nr;have i1:NN su:=d0.ns;clear d0 a0;obtain⟨g3,n3,m3,rfl⟩:=i0;obtain⟨g4,n4,m4,rfl⟩:=i1);refine E6 hK (Mk.out _ hC.B) ?_;clear hK K)
     refine E7 12 rfl (λK hK=>?_)
     (go_simp;replace hC:=hC.new;refine E6 hK (Mk.out _ hC.B) ?_;clear hK K;generalize World.alloc _ (Kz [Ez,Nz,Nz,Ez,Iz 0,Iz 0] 40)=X4 at hC ⊢)
     (have kY:=D7 (hC.s12 _ rfl);obtain⟨j0,j1,j2,j3,j4,j5⟩:=kY.c6;obtain⟨m0,m1,m2,m6,m7,m5⟩:=kY.f6;have hF:=hC.fin;refine E7 13 rfl (λK hK=>?_);go_simp;refine E6 hK (Mk.out _ hF.1) ?_;clear hK K j0 j1 j2 j3 j4 j5 m0 m1 m2 m6 m7 m5 kY;(try simp only[Act.put,List.setIfInBounds_toArray,List.set_cons_zero,List.set_cons_succ]);refine F0 (by kernel_rfl) ?_ _;go_wp2_with fail;go_meet;exact⟨_,_,_,rfl,hF⟩)
    ·(go_simp;replace hC:=hC.new;refine E6 hK (Mk.out _ hC.B) ?_;clear hK K;generalize World.alloc _ (Kz [Ez,Nz,Nz,Ez,Iz 0,Iz 0] 40)=X4 at hC ⊢)
     refine E7 11 rfl (λK hK=>?_)
     (go_simp;go_wp2_with (go_at_call 29;refine (HC11.out _ hC.B).mono ?_;rintro e X2 ⟨⟨ru,su,rfl,d0⟩,a0⟩;replace hC:=hC.call a0 d0;have i0:NN ru:=d0.nr;have i1:NN su:=d0.ns;clear d0 a0;obtain⟨g3,n3,m3,rfl⟩:=i0;obtain⟨g4,n4,m4,rfl⟩:=i1);refine E6 hK (Mk.out _ hC.B) ?_;clear hK K)
     (have kY:=D7 (hC.s12 _ rfl);obtain⟨j0,j1,j2,j3,j4,j5⟩:=kY.c6;obtain⟨m0,m1,m2,m6,m7,m5⟩:=kY.f6;have hF:=hC.fin;refine E7 13 rfl (λK hK=>?_);go_simp;refine E6 hK (Mk.out _ hF.1) ?_;clear hK K j0 j1 j2 j3 j4 j5 m0 m1 m2 m6 m7 m5 kY;(try simp only[Act.put,List.setIfInBounds_toArray,List.set_cons_zero,List.set_cons_succ]);refine F0 (by kernel_rfl) ?_ _;go_wp2_with fail;go_meet;exact⟨_,_,_,rfl,hF⟩)
   case rest =>
    obtain⟨L,ru,su,rfl,f8,kL,a9⟩:=hcut;obtain⟨wd,rfl⟩:∃wd,wd=wc:=⟨_,rfl⟩;have i0:NN ru:=a9.nr;have i1:NN su:=a9.ns;obtain⟨g3,n3,m3,rfl⟩:=i0;obtain⟨g4,n4,m4,rfl⟩:=i1;have k6:=E4 g1 f8;have k7:=E4 n9 f8;have s5:=E4 k4 f8;have H6:=H5.up f8;have i2:=D5 o0 f8;have z1:=f8.size;have k8:=a9.v;have HB:Hid (Q6 wd (.agg #[Vz p1 h.sh.tg.length q1,Vz p2 h.sh.bs.length q2]) h.sh):=H6.v.book;have z4:w3.heap.size<wd.heap.size:=(k7.lt w3.heap.size rfl).2;have z5:L<wd.heap.size:=(kL.lt L rfl).2;have kL:wd.ownsRow wa.heap.size 40 6 (Sz L 1 1) 1 [Tz nm,Sz g3 n3 m3,Sz g4 n4 m4,Tz (I0 ps),Iz (-1),Iz (h.last+1)]:=kL;have HDK:Hid (Y0 (K3 h.sh nm (G8 (L3 h nm ps sl) (I0 ps)))/\T8 (K3 h.sh nm (G8 (L3 h nm ps sl) (I0 ps)))):=WG H6.z d9 (Bo k8 _);have HC6:Hid (∀X,Up wd X->Calls prog 31 #[.agg #[Tz nm,Sz g3 n3 m3,Sz g4 n4 m4,Tz (I0 ps),Iz (-1),Iz (h.last+1)],Tz (I0 ps)] X λe w'=>(∃u,e=.returned u/\R8 w' u (G8 (L3 h nm ps sl) (I0 ps)))/\Up X w'):=λX hX=>EY (L3 h nm ps sl) _ _ (I0 ps) X (k8.up hX);have HC7:Hid (∀X v,Up wd X->R8 X v (G8 (L3 h nm ps sl) (I0 ps))->Calls prog 30 #[.agg #[Vz p1 h.sh.tg.length q1,Vz p2 h.sh.bs.length q2],Tz nm,v] X λe w'=>(∃v',e=.returned (.tuple #[v',Iz (T4 h nm ps sl)])/\L6 w' X.heap.size v' (K3 h.sh nm (G8 (L3 h nm ps sl) (I0 ps))))/\Up X w'):=λX v hX hv=>NZ h.sh _ _ nm _ X (HB.out.up hX) ((Ac.ls (.inr hv)) (Bo k8 _)) n7 (B3 (Pv _ _) (by omega))
    have mk:∀w',Up wd w'->Up wd w'/\At w' w3.heap.size 2 (Vz p1 h.sh.tg.length q1)/\At w' w3.heap.size 3 (Vz p2 h.sh.bs.length q2)/\At w' L 0 (Tz nm)/\At w' L 1 (Sz g3 n3 m3)/\At w' L 2 (Sz g4 n4 m4)/\At w' L 3 (Tz (I0 ps))/\At w' L 4 (Iz (-1))/\At w' L 5 (Iz (h.last+1)):=λw' hb'=>by
     obtain⟨-,-,z2,z3,-,-⟩:=(D7 (E4 k7 hb')).c6;obtain⟨l0,l1,l2,l3,l4,l5⟩:=(D7 (E4 kL hb')).c6;exact⟨hb',z2,z3,l0,l1,l2,l3,l4,l5⟩
    have Mk2:Hid (∀w',Up wd w'->Up wd w'/\At w' w3.heap.size 2 (Vz p1 h.sh.tg.length q1)/\At w' w3.heap.size 3 (Vz p2 h.sh.bs.length q2)/\At w' L 0 (Tz nm)/\At w' L 1 (Sz g3 n3 m3)/\At w' L 2 (Sz g4 n4 m4)/\At w' L 3 (Tz (I0 ps))/\At w' L 4 (Iz (-1))/\At w' L 5 (Iz (h.last+1))):=mk;clear mk Mk HC11 g1 n9 k4 H5 o0 HR5;go_upto_region 7 with fail;go_cut [12,13] (λv12 v13 we=>∃(Y:Nat)(tw bw:Value),v12=Pz Y 0/\v13=.int .i64 (T4 h nm ps sl)/\Up wd we/\L6 we wd.heap.size (.agg #[tw,bw]) (K3 h.sh nm (G8 (L3 h nm ps sl) (I0 ps)))/\CB we Y [tw,bw])
    case first =>
     have hC:EN wd h (L3 h nm ps sl) wd.drew none none none:=(YL wd h _).up (A5 _ _).drew;refine F5 99 (λw'=>Up wd w'/\At w' w3.heap.size 2 (Vz p1 h.sh.tg.length q1)/\At w' w3.heap.size 3 (Vz p2 h.sh.bs.length q2)/\At w' L 0 (Tz nm)/\At w' L 1 (Sz g3 n3 m3)/\At w' L 2 (Sz g4 n4 m4)/\At w' L 3 (Tz (I0 ps))/\At w' L 4 (Iz (-1))/\At w' L 5 (Iz (h.last+1))) (by kernel_rfl) ?_;generalize wd.drew=X1 at hC ⊢
     have a6:=Mk2.out _ hC.B;refine D6 0 rfl a6 ?_;refine D6 1 rfl a6 ?_;refine D6 2 rfl a6 ?_;refine D6 3 rfl a6 ?_;refine D6 4 rfl a6 ?_;refine D6 5 rfl a6 ?_;clear a6;refine R4 (i:=6) (j:=11) (by kernel_rfl) rfl rfl (λK hK=>?_) (λK hK=>?_)
     ·(go_simp;go_wp2_with (go_at_call 31;refine (HC6.out _ hC.B).mono ?_;rintro e X2 ⟨⟨u8,rfl,hu⟩,a0⟩;replace hC:=hC.c6 a0 hu;clear a0;obtain⟨g9,c9,rfl,-⟩:=hu);refine E6 hK (Mk2.out _ hC.B) ?_;clear hK K)
      refine R4 (i:=7) (j:=11) (by kernel_rfl) rfl rfl (λK hK=>?_) (λK hK=>?_)
      ·(go_simp;go_wp2_with (go_at_call 30;refine (HC7.out _ _ hC.B (hC.s6 _ rfl)).mono ?_;rintro e X5 ⟨⟨v8,rfl,b2⟩,d8⟩;replace hC:=hC.c7 d8 b2;obtain⟨t1,d1,t2,d2,q0,rfl,-⟩:=b2.parts;clear b2 d8);refine E6 hK (Mk2.out _ hC.B) ?_;clear hK K;(refine D6 8 rfl (Mk2.out _ hC.B) ?_);(refine D6 9 rfl (Mk2.out _ hC.B) ?_);(refine D6 10 rfl (Mk2.out _ hC.B) ?_))
       refine E7 11 rfl (λK hK=>?_)
       (go_simp;replace hC:=hC.c11;refine E6 hK (Mk2.out _ hC.B) ?_;clear hK K;generalize World.alloc _ (Kz [Nz,Nz] 26)=X4 at hC ⊢)
       (have kY:=D7 (hC.s11 _ rfl);obtain⟨⟨j0,j1⟩,m0,m1⟩:=kY.c2;have hF:=hC.fin;refine E7 12 rfl (λK hK=>?_);go_simp;refine E6 hK (Mk2.out _ hF.1) ?_;clear hK K j0 j1 m0 m1 kY;(try simp only[Act.put,List.setIfInBounds_toArray,List.set_cons_zero,List.set_cons_succ]);refine E7 13 rfl (λK hK=>?_);go_simp;refine E6 hK (Mk2.out _ hF.1) ?_;clear hK K;(try simp only[Act.put,List.setIfInBounds_toArray,List.set_cons_zero,List.set_cons_succ]);refine F0 (by kernel_rfl) ?_ _;go_wp2_with fail;go_meet;exact⟨_,_,_,rfl,rfl,hF⟩)
      ·(go_simp;replace hC:=hC.c11;refine E6 hK (Mk2.out _ hC.B) ?_;clear hK K;generalize World.alloc _ (Kz [Nz,Nz] 26)=X4 at hC ⊢)
       refine E7 7 rfl (λK hK=>?_)
       (go_simp;go_wp2_with (go_at_call 30;refine (HC7.out _ _ hC.B (hC.s6 _ rfl)).mono ?_;rintro e X5 ⟨⟨v8,rfl,b2⟩,d8⟩;replace hC:=hC.c7 d8 b2;obtain⟨t1,d1,t2,d2,q0,rfl,-⟩:=b2.parts;clear b2 d8);refine E6 hK (Mk2.out _ hC.B) ?_;clear hK K;(refine D6 8 rfl (Mk2.out _ hC.B) ?_);(refine D6 9 rfl (Mk2.out _ hC.B) ?_);(refine D6 10 rfl (Mk2.out _ hC.B) ?_))
       (have kY:=D7 (hC.s11 _ rfl);obtain⟨⟨j0,j1⟩,m0,m1⟩:=kY.c2;have hF:=hC.fin;refine E7 12 rfl (λK hK=>?_);go_simp;refine E6 hK (Mk2.out _ hF.1) ?_;clear hK K j0 j1 m0 m1 kY;(try simp only[Act.put,List.setIfInBounds_toArray,List.set_cons_zero,List.set_cons_succ]);refine E7 13 rfl (λK hK=>?_);go_simp;refine E6 hK (Mk2.out _ hF.1) ?_;clear hK K;(try simp only[Act.put,List.setIfInBounds_toArray,List.set_cons_zero,List.set_cons_succ]);refine F0 (by kernel_rfl) ?_ _;go_wp2_with fail;go_meet;exact⟨_,_,_,rfl,rfl,hF⟩)
     ·(go_simp;replace hC:=hC.c11;refine E6 hK (Mk2.out _ hC.B) ?_;clear hK K;generalize World.alloc _ (Kz [Nz,Nz] 26)=X4 at hC ⊢)
      refine E7 6 rfl (λK hK=>?_)
      (go_simp;go_wp2_with (go_at_call 31;refine (HC6.out _ hC.B).mono ?_;rintro e X2 ⟨⟨u8,rfl,hu⟩,a0⟩;replace hC:=hC.c6 a0 hu;clear a0;obtain⟨g9,c9,rfl,-⟩:=hu);refine E6 hK (Mk2.out _ hC.B) ?_;clear hK K)
      refine E7 7 rfl (λK hK=>?_)
      (go_simp;go_wp2_with (go_at_call 30;refine (HC7.out _ _ hC.B (hC.s6 _ rfl)).mono ?_;rintro e X5 ⟨⟨v8,rfl,b2⟩,d8⟩;replace hC:=hC.c7 d8 b2;obtain⟨t1,d1,t2,d2,q0,rfl,-⟩:=b2.parts;clear b2 d8);refine E6 hK (Mk2.out _ hC.B) ?_;clear hK K;(refine D6 8 rfl (Mk2.out _ hC.B) ?_);(refine D6 9 rfl (Mk2.out _ hC.B) ?_);(refine D6 10 rfl (Mk2.out _ hC.B) ?_))
      (have kY:=D7 (hC.s11 _ rfl);obtain⟨⟨j0,j1⟩,m0,m1⟩:=kY.c2;have hF:=hC.fin;refine E7 12 rfl (λK hK=>?_);go_simp;refine E6 hK (Mk2.out _ hF.1) ?_;clear hK K j0 j1 m0 m1 kY;(try simp only[Act.put,List.setIfInBounds_toArray,List.set_cons_zero,List.set_cons_succ]);refine E7 13 rfl (λK hK=>?_);go_simp;refine E6 hK (Mk2.out _ hF.1) ?_;clear hK K;(try simp only[Act.put,List.setIfInBounds_toArray,List.set_cons_zero,List.set_cons_succ]);refine F0 (by kernel_rfl) ?_ _;go_wp2_with fail;go_meet;exact⟨_,_,_,rfl,rfl,hF⟩)
    case rest =>
     obtain⟨Y,tw,bw,rfl,rfl,b8,m8,kY⟩:=hcut;obtain⟨we,rfl⟩:∃we,we=wc:=⟨_,rfl⟩;obtain⟨t1,d1,t2,d2,qs,e9,-⟩:=m8.parts;simp only[Value.agg.injEq,Array.mk.injEq,List.cons.injEq,and_true] at e9;obtain⟨rfl,rfl⟩:=e9;have a8:=E4 k6 b8;have d6:=E4 k7 b8;have s7:=E4 s5 b8;have k9:=E4 kL b8;have H7:=H6.up b8;have g2:=D5 i2 b8;have i3:=a9.up b8;have z6:=b8.size;have HST:Hid (∀cd h',AX h nm ps sl cd h'↔AX h nm ps sl cd h'):=λ_ _=>Iff.rfl;have HS3:Hid (T4 h nm ps sl≠0->AX h nm ps sl (T4 h nm ps sl) h):=λhc=>.inr (.inr (.inl ⟨HK.out,HCB.out,hc,rfl,rfl⟩));have HS4:Hid (T4 h nm ps sl=0->1000000<=h.last->AX h nm ps sl 4 h):=λhc hl=>.inr (.inr (.inr (.inl ⟨HK.out,HCB.out,hc,hl,rfl,rfl⟩)));have HS0:Hid (T4 h nm ps sl=0->¬1000000<=h.last->∀h',S3 (As h nm ps sl) (As h nm ps sl).bs.length h'->AX h nm ps sl 0 h'):=λhc hl h' ha=>.inr (.inr (.inr (.inr ⟨HK.out,HCB.out,hc,hl,rfl,ha⟩)));clear HST k6 k7 s5 kL H6 i2 b8 a9 Mk2 HC6 HC7 HB k8;generalize T4 h nm ps sl=cc at *;obtain⟨p5,p6,p7,p8,k0,p9⟩:=(D7 d6).c6;obtain⟨y0,y1,y2,y3,y4,y5⟩:=(D7 a8).c6;obtain⟨f0,f1,f2,f3,f4,f5⟩:=(D7 a8).f6;have k5:At we w.heap.size 1 (Iz h.last):=(D7 s7).c6.2.1;by_cases hcc:cc=0
     case neg =>
      go_wp2_with fail;refine R7 results6 underlying30 rfl G6 (D7 a8) rfl rfl ?_
      exact⟨⟨h,_,_,_,_,cc,rfl,HS3.out (by simpa using hcc),⟨d9,by omega,by omega⟩,FH H7 a8 (by omega) _ _⟩,I9 g2 (by omega) _ _ _ _ _ _⟩
     case pos =>
      subst hcc;by_cases hll:1000000<=h.last
      case pos =>
       go_wp2_with fail;refine R7 results6 underlying30 rfl G6 (D7 a8) rfl rfl ?_
       exact⟨⟨h,_,_,_,_,4,rfl,HS4.out (by simp) hll,⟨d9,by omega,by omega⟩,FH H7 a8 (by omega) _ _⟩,I9 g2 (by omega) _ _ _ _ _ _⟩
      case neg =>
       obtain⟨v0,v1⟩:=kY.c2';obtain⟨l0,l1,l2,l3,l4,l5⟩:=(D7 k9).c6;obtain⟨t8,t9,u0,u5,u6,u7⟩:=(D7 d6).f6;generalize eB:K3 h.sh nm (G8 (L3 h nm ps sl) (I0 ps))=B' at *;have s1:=B4 d6 2 (Vz t1 B'.tg.length d1);have s2:=B4 s1.1 3 (Vz t2 B'.bs.length d2);have s3:=B4 s2.1 1 (Iz (h.last+1));have g5:we.grownBy (((we.setCell ⟨w3.heap.size,2,none⟩ (Vz t1 B'.tg.length d1)).setCell ⟨w3.heap.size,3,none⟩ (Vz t2 B'.bs.length d2)).setCell ⟨w3.heap.size,1,none⟩ (Iz (h.last+1))) (Vz (some ⟨w3.heap.size,0,none⟩) 1 1).ownBlock:=E0 (E0 s1.2 s2.2) s3.2
       obtain⟨W8,q5,k1,q6,m9,H8,h0,h4,q7⟩:∃W8,((we.setCell ⟨w3.heap.size,2,none⟩ (Vz t1 B'.tg.length d1)).setCell ⟨w3.heap.size,3,none⟩ (Vz t2 B'.bs.length d2)).setCell ⟨w3.heap.size,1,none⟩ (Iz (h.last+1))=W8/\W8.ownsRow w3.heap.size 30 6 (Sz w3.heap.size 1 1) 1 [Iz h.now,Iz (h.last+1),Vz t1 B'.tg.length d1,Vz t2 B'.bs.length d2,Vz p3 h.bs.length q3,Vz p4 h.ds.length q4]/\W8.ownsRow w.heap.size 30 6 (Sz (w.heap.size+1) 1 1) 1 [Iz 0,Iz 0,Nz,Nz,Nz,Nz]/\W8.ownsRow wa.heap.size 40 6 (Sz L 1 1) 1 [Tz nm,Sz g3 n3 m3,Sz g4 n4 m4,Tz (I0 ps),Iz (-1),Iz (h.last+1)]/\HW W8 w2.heap.size h (Vz p1 h.sh.tg.length q1) (Vz p2 h.sh.bs.length q2) (Vz p3 h.bs.length q3) (Vz p4 h.ds.length q4)/\L6 W8 w2.heap.size (.agg #[Vz t1 B'.tg.length d1,Vz t2 B'.bs.length d2]) B'/\Z5 W8 w2.heap.size (L3 h nm ps sl,Sz g3 n3 m3,Sz g4 n4 m4)/\Up w W8 :=
        ⟨_,rfl,s3.1,E5 a8 g5 (by simp[Value.ownBlock];omega),E5 k9 g5 (E9 k9 d6 (by decide)),H7.box d6 g5,(m8.step d6 (by decide) (by decide) g5).low (by omega),(i3.step d6 (by decide) (by decide) g5).low (by omega),((g2.setCell (p:=⟨w3.heap.size,2,none⟩) (by show _<=w3.heap.size;omega) _).setCell (p:=⟨w3.heap.size,3,none⟩) (by show _<=w3.heap.size;omega) _).setCell (p:=⟨w3.heap.size,1,none⟩) (by show _<=w3.heap.size;omega) _⟩
       go_upto_region 14 with fail;try rw[q5]
       clear q5 s1 s2 s3 g5 d6 a8 k9 s7 H7 m8 i3 g2 v0 v1 l0 l1 l2 l3 l4 l5 t8 t9 u0 u5 u6 u7 p5 p6 p7 p8 k0 p9 y0 y1 y2 y3 y4 y5 f0 f1 f2 f3 f4 f5 k5 kY;obtain⟨l0,l1,l2,l3,l4,l5⟩:=(D7 m9).c6;obtain⟨-,-,-,-,k0,-⟩:=(D7 k1).c6;obtain⟨rs,h5,n0⟩:=H8.x;have w8:rs.length=h.bs.length:=by have:=congrArg List.length n0;rwa [B5] at this
       obtain⟨u9,n1,r0,r1,r2⟩:=info_parts Ij;obtain⟨W9,v5,b9,d3⟩:∃W9,W8.alloc (Kz [Tz nm,Sz g3 n3 m3,Sz g4 n4 m4,Tz (I0 ps),Iz (-1),Iz (h.last+1)] 40)=W9/\Up W8 W9/\∀(j:Nat)(u:Value),(Q7 (L3 h nm ps sl,Sz g3 n3 m3,Sz g4 n4 m4))[j]?=some u->W9.cell? ((⟨W8.heap.size,0,none⟩:Addr).add j)=some u:=⟨_,rfl,(A5 _ _).alloc (A4 _) _,λj u hj=>Oh _ _ _ _ _ _ _ _ hj⟩;have e8:=h5.up b9;have H9:=H8.up b9;have f7:=h4.up b9;have i4:=h0.up b9;have o2:=E4 k1 b9;have o3:=E4 q6 b9;have o4:=D5 q7 b9;have i5:=Gi f7;have a7:=e8.1;have z7:W8.heap.size<=W9.heap.size:=b9.size;have z8:w3.heap.size<W8.heap.size:=(k1.lt w3.heap.size rfl).2;have z9:L<W8.heap.size:=(m9.lt L rfl).2;clear h5 H8 h4 h0 k1 q6 q7 m9;obtain⟨v',w',n2,n5,h7,-⟩:=run_append_own (P:=prog) W9 w2.heap.size 27 27 40 u9 _ 6 96 underlying27 n1 r0 r1 r2 rfl (by decide) _ rs.length (F8 Q7 rs) a7 ⟨W8.heap.size,0,none⟩ 1 1 (Q7 (L3 h nm ps sl,Sz g3 n3 m3,Sz g4 n4 m4)) rfl d3 i5 (by unfold maxLen;omega) (by omega) (by omega);have H10:=H9.comes e8 n0 i4 HDK.out.1 f7 h7 n5 (h.last+1);have b1:=E5 o2 h7 (E9 o2 a7 (by decide));have i6:=E5 o3 h7 (E9 o3 a7 (by decide));have i7:=o4.trans (Gm h7 o4.size (λk e=>by have:=H9.xb k e;omega));obtain⟨g7,c7,rfl⟩:=I6 n5 (by omega);rw[w8] at n2 H10;go_upto_region 15 with (at_builtin;(try rw[v5]);refine Fo _ rfl _ _ 27 rfl _ _ rfl rfl (Sz g7 (h.bs.length+1) c7) w' n2 ?_;obtain⟨e0,e1,e2,e3,e4,e5⟩:=(D7 b1).c6;obtain⟨f0,f1,f2,f3,f4,f5⟩:=(D7 b1).f6)
       have st:=B4 b1 4 (Sz g7 (h.bs.length+1) c7);have o5:w'.grownBy (w'.setCell ⟨w3.heap.size,4,none⟩ (Sz g7 (h.bs.length+1) c7)) (Vz (some ⟨w3.heap.size,0,none⟩) 1 1).ownBlock:=st.2
       obtain⟨WB,q8,q9,r3,HWB,r4⟩:∃WB,w'.setCell ⟨w3.heap.size,4,none⟩ (Sz g7 (h.bs.length+1) c7)=WB/\WB.ownsRow w3.heap.size 30 6 (Sz w3.heap.size 1 1) 1 [Iz h.now,Iz (h.last+1),Vz t1 B'.tg.length d1,Vz t2 B'.bs.length d2,Sz g7 (h.bs.length+1) c7,Vz p4 h.ds.length q4]/\WB.ownsRow w.heap.size 30 6 (Sz (w.heap.size+1) 1 1) 1 [Iz 0,Iz 0,Nz,Nz,Nz,Nz]/\HW WB w2.heap.size {h with last:=h.last+1,sh:=B',bs:=h.bs++[L3 h nm ps sl]} (Vz t1 B'.tg.length d1) (Vz t2 B'.bs.length d2) (Sz g7 (h.bs.length+1) c7) (Vz p4 h.ds.length q4)/\Up w WB :=
        ⟨_,rfl,st.1,E5 i6 o5 (by simp[Value.ownBlock];omega),H10.box b1 o5,i7.setCell (p:=⟨w3.heap.size,4,none⟩) (by show _<=w3.heap.size;omega) _⟩
       try rw[q8]
       have w9:w2.heap.size<=WB.heap.size:=by have:=(q9.lt w3.heap.size rfl).2;omega
       clear q8 st o5 e0 e1 e2 e3 e4 e5 f0 f1 f2 f3 f4 f5 b1 i6 H10 i7 n2 n5 h7 H9 e8 f7 i4 o2 o3 o4 i5 a7 d3 b9 n0 l0 l1 l2 l3 l4 l5 k0;have HEQ:Hid (As h nm ps sl={h with last:=h.last+1,sh:=B',bs:=h.bs++[L3 h nm ps sl]}):=by show _=_;unfold As;rw[eB]
       have i8:({h with last:=h.last+1,sh:=B',bs:=h.bs++[L3 h nm ps sl]}:House).bs.length<=6:=by show (h.bs++[L3 h nm ps sl]).length<=6;rw[B0,List.length_singleton];omega
       have o6:=Jg {h with last:=h.last+1,sh:=B',bs:=h.bs++[L3 h nm ps sl]} _ _ _ _ w2.heap.size WB HWB w9 HDK.out.2
       have HCop:Hid (∀(w6:World)(h':House)(t5 b5 x5 d5:Value),HV w6 h' t5 b5 x5 d5->S3 {h with last:=h.last+1,sh:=B',bs:=h.bs++[L3 h nm ps sl]} ({h with last:=h.last+1,sh:=B',bs:=h.bs++[L3 h nm ps sl]}:House).bs.length h'->T8 h'.sh->Gl h'/\Calls prog 25 #[.agg #[Iz h.now,Iz (h.last+1),t5,b5,x5,d5]] w6 λe w'=>(∃tu bu xu du,e=.returned (.agg #[Iz h'.now,Iz h'.last,tu,bu,xu,du])/\HW w' w6.heap.size h' tu bu xu du)/\Up w6 w'):=λw6 h' t5 b5 x5 d5 h1 h2 h3=>by
        obtain⟨s1,s2,s3,s4⟩:=h2.same;have hd:h'.ds.length<=20:=by rw[s3];exact l8
        have aa:h'.bs.length<=6:=by rw[s4];exact i8
        refine⟨⟨h3,by omega,by omega⟩,?_⟩;have:=Cv h' t5 b5 x5 d5 w6 h1 (by have:=h3.1;omega) (by have:=h3.2.1;omega) (λy hy=>by have:=h3.2.2 y hy;omega) (by omega) (by omega);rw[s1,s2] at this;rw[s1,s2];exact this
       obtain⟨r5,h8,-⟩:=HWB.x;have HrB:Hid (WB.ownsRow w2.heap.size 40 6 (Sz g7 (h.bs.length+1) c7) r5.length (F8 Q7 r5)):=h8.1;have Hxb:Hid _:=HWB.xb;have x0:=r4.size;obtain⟨e0,e1,e2,e3,e4,e5⟩:=(D7 q9).c6;clear h8 HWB eB i8
       go_wp2_with (first
        | (go_at_call 32;refine o6.mono ?_;rintro e w6 ⟨⟨h6,t6,b6,rfl,s8,x4,H6⟩,s9⟩;have k6:=E5 r3 s9 (E9 r3 HrB.out (by decide));have i2:=r4.trans (Gm s9 x0 (λk e=>by have:=Hxb.out k e;omega)))
        | (go_at_call 25;obtain⟨n6,v6⟩:=HCop.out w6 h6 t6 b6 _ _ H6.v s8 x4;refine v6.mono ?_;rintro e w7 ⟨⟨t7,b7,x7,d7,rfl,H7⟩,t0⟩;have a8:=E4 k6 t0;have g2:=D5 i2 t0;obtain⟨u1,v1,u2,v2,u3,v3,u4,v4,rfl,rfl,rfl,rfl⟩:=H7.v.shapes;obtain⟨y0,y1,y2,y3,y4,y5⟩:=(D7 a8).c6;obtain⟨f0,f1,f2,f3,f4,f5⟩:=(D7 a8).f6))
       refine R7 results6 underlying30 rfl G6 (D7 a8) rfl rfl ?_;exact⟨⟨h6,_,_,_,_,0,rfl,HS0.out (by simp) (by omega) h6 (by rw[HEQ.out];exact s8),n6,FH H7 a8 i2.size _ _⟩,I9 g2 (by omega) _ _ _ _ _ _⟩
end Go.Proofs.YtmonodehegcfhaaGreatDoor
