/- Houses: whose recipes are in a house that was led to. -/
import Derived.Test.YtmonodehegcfhaaGreatDoorC9
import Derived.Test.YtmonodehegcfhaaGreatDoorC10
import Derived.Test.YtmonodehegcfhaaGreatDoorJ37
import Derived.Test.YtmonodehegcfhaaGreatDoorJ41
set_option maxRecDepth 20000
set_option maxHeartbeats 8000000
namespace Go.Proofs.YtmonodehegcfhaaGreatDoor
open Go.Proofs.Tryz
open Go.RowKit
variable{tmps:Array Value}{nm:BA}{h h':House}{cd:Int}{ls:List BA}{ps:List Ph}{l:List Rb}{sl:List Sl}{xs:List Value}{B b base hb k r rb rk:Nat}{P:Program}{x:Rb}{T:TypeId}{bv dv su tv u x0 x1 x2 x3 x4 xv:Value}{w w':World}
def AV(Q:List Ph->List Sl->Prop)(h:House):Prop:=∀x∈h.bs,Q x.ps x.sl
theorem RU{Q:List Ph->List Sl->Prop}(h:∀y∈l,Q y.ps y.sl)(hx:Q x.ps x.sl):∀y∈l.set k x,Q y.ps y.sl:=λy hy=>by
 rcases List.mem_or_eq_of_mem_set hy with h1|rfl
 ·exact h y h1
 ·exact hx
theorem EZ.q{Q:List Ph->List Sl->Prop}(H:EZ h k h')(hq:AV Q h):AV Q h':=by
 obtain⟨x,hx,⟨-,rfl⟩|⟨-,cd,b',-,⟨-,rfl⟩|⟨-,rfl⟩⟩⟩:=H
 ·exact hq
 ·exact hq
 ·exact RU hq (hq x (A7 hx))
theorem S3.q{Q:List Ph->List Sl->Prop}:∀{k:Nat} {h':House},S3 h k h'->AV Q h->AV Q h'
 | 0,_,H,hq=>by obtain rfl:=H;exact hq
 | _+1,_,⟨_,H1,H2⟩,hq=>H2.q (H1.q hq)
theorem Xs{Q:List Ph->List Sl->Prop}(k:Nat)(nm:BA)(hq:AV Q h):AV Q (AB h k nm):=by
 unfold AB;split
 ·exact hq
 ·rename_i x hx;split
  ·exact RU hq (hq x (A7 hx))
  ·intro y hy;rcases D0.1 hy with h1|h1
   ·exact hq y (List.mem_of_mem_take h1)
   ·exact hq y (List.mem_of_mem_drop h1)
theorem Xc{Q:List Ph->List Sl->Prop}(k:Nat)(hq:AV Q h):AV Q (Ci h k):=by
 unfold Ci;split
 ·exact hq
 ·split
  ·exact Xs _ _ hq
  ·exact hq
theorem Qb{Q:List Ph->List Sl->Prop}:∀(k:Nat) {h:House},AV Q h->AV Q (V4 h k)
 | 0,_,hq=>hq
 | k+1,_,hq=>Qb k (Xc k hq)
theorem Yn{Q:List Ph->List Sl->Prop}(hq:AV Q h):AV Q (Cx h):=λy hy=>by
 obtain⟨x,hx,rfl⟩:=List.mem_map.1 hy;have e:(Bg x).ps=x.ps:=by unfold Bg;split<;>rfl
 have e2:(Bg x).sl=x.sl:=by unfold Bg;split<;>rfl
 rw[e,e2];exact hq x hx
theorem Qc(Q:List Ph->List Sl->Prop):AV Q N9:=λy hy=>by simp[N9] at hy
theorem Il.q{Q:List Ph->List Sl->Prop}(H:Il h cd h')(hq:AV Q h):AV Q h':=by
 rcases H with⟨-,-,rfl⟩|⟨-,-,-,rfl⟩|⟨-,-,-,H⟩
 ·exact Qc Q
 ·exact hq
 ·exact H.q (Qb _ (Yn hq))
theorem Jj.q{Q:List Ph->List Sl->Prop}{well:Bool}(H:Jj h nm well cd h')(hq:AV Q h):AV Q h':=by
 rcases H with⟨-,-,rfl⟩|⟨-,-,-,rfl⟩|⟨k,x,-,-,-,⟨-,-,rfl⟩|⟨-,-,H⟩⟩
 ·exact Qc Q
 ·exact hq
 ·exact hq
 ·exact H.q (Xs _ _ hq)
theorem Xd{Q:List Ph->List Sl->Prop}(hq:AV Q h)(hp:Q ps sl):AV Q (As h nm ps sl):=λy hy=>by
 rcases D0.1 hy with h1|h1
 ·exact hq y h1
 ·obtain rfl:=D1.1 h1;exact hp
theorem AX.q{Q:List Ph->List Sl->Prop}(H:AX h nm ps sl cd h')(hq:AV Q h)(hp:Q ps sl):AV Q h':=by
 rcases H with⟨-,-,rfl⟩|⟨-,-,-,rfl⟩|⟨-,-,-,-,rfl⟩|⟨-,-,-,-,-,rfl⟩|⟨-,-,-,-,-,H⟩
 ·exact Qc Q
 ·exact hq
 ·exact hq
 ·exact hq
 ·exact H.q (Xd hq hp)
theorem CB.c5(h:CB w b [x0,x1,x2,x3,x4]):At w b 0 x0/\At w b 1 x1/\At w b 2 x2/\At w b 3 x3/\At w b 4 x4 :=
 ⟨h.1 0 _ rfl,h.1 1 _ rfl,h.1 2 _ rfl,h.1 3 _ rfl,h.1 4 _ rfl⟩
theorem HX.shapes(H:HX w base h tv bv xv dv):∃a1 n1 c1 a2 n2 c2 a3 n3 c3 a4 n4 c4,tv=Vz a1 n1 c1/\bv=Vz a2 n2 c2/\xv=Vz a3 n3 c3/\dv=Vz a4 n4 c4:=by
 obtain⟨a1,c1,a2,c2,a3,c3,a4,c4,rfl,rfl,rfl,rfl⟩:=H.v.shapes;exact⟨a1,_,c1,a2,_,c2,a3,_,c3,a4,_,c4,rfl,rfl,rfl,rfl⟩
theorem Tj(h:House)(tv bv xv dv:Value)(kd:Int)(nm:BA)(ps:List Ph)(sl:List Sl)(ar asl:Option Addr)(nr cr ns cs:Nat)(well:Bool)(w:World)(H:HV w h tv bv xv dv)(hd:kd=1->T1 w (L3 h nm ps sl) (Vz ar nr cr) (Vz asl ns cs)):
  Calls prog 115 #[.agg #[Iz h.now,Iz h.last,tv,bv,xv,dv],.agg #[Iz kd,Tz nm,Vz ar nr cr,Vz asl ns cs,.bool well]] w λe w'=>(∃h' tu bu xu du,e=.returned (.agg #[Iz h'.now,Iz h'.last,tu,bu,xu,du])/\Gl h'/\(∀(Q:List Ph->List Sl->Prop),AV Q h->(kd=1->Q ps sl)->AV Q h')/\HX w' w.heap.size h' tu bu xu du)/\Up w w':=by
 obtain⟨a1,c1,a2,c2,a3,c3,a4,c4,rfl,rfl,rfl,rfl⟩:=H.shapes;obtain⟨W1,b5,kA,kD,kR,b1,b6⟩:=cbE3 w (Hcz h a1 c1 a2 c2 a3 c3 a4 c4) 30 [Iz kd,Tz nm,Vz ar nr cr,Vz asl ns cs,.bool well] 151 [Iz 0,Iz 0,Nz,Nz,Nz,Nz] 30;have a9:w.heap.size<W1.heap.size:=by omega
 have b0:w.heap.size+2<W1.heap.size:=by omega
 have b7:w.heap.size<=W1.heap.size:=by omega
 clear b6;go_in;go_upto_region 1 with fail;try rw[b5]
 clear b5;have H1:=H.up b1;obtain⟨e0,e1,e2,e3,e4,e5⟩:=kA.c6;obtain⟨d0,d1,d2,d3,d4⟩:=kD.c5;by_cases h1:kd=1
 ·subst h1;have hc:=Mg h _ _ _ _ nm ps sl _ _ W1 H1 ((hd rfl).up b1);go_upto_region 7 with (go_at_call 6;refine hc.mono ?_;rintro e w2 ⟨⟨h',tu,bu,xu,du,cd,rfl,a8,a6,H2⟩,a7⟩;have HQ:Hid (∀(Q:List Ph->List Sl->Prop),AV Q h->((1:Int)=1->Q ps sl)->AV Q h'):=λQ hq hp=>a8.q hq (hp rfl);clear a8;have kA:=kA.up a7 a9;have kR:=kR.up a7 b0;have hB:=D5 b1 a7;obtain⟨p1,i1,q1,p2,i2,q2,p3,i3,q3,p4,i4,q4,rfl,rfl,rfl,rfl⟩:=H2.shapes;clear e0 e1 e2 e3 e4 e5;obtain⟨e0,e1,e2,e3,e4,e5⟩:=kA.c6;obtain⟨f0,f1,f2,f3,f4,f5⟩:=kA.f6)
  have b2:=kA.copy6 (Iz h'.now) (Iz h'.last) (Vz p1 i1 q1) (Vz p2 i2 q2) (Vz p3 i3 q3) (Vz p4 i4 q4);have a0:=G3 w2 w.heap.size (Iz h'.now) (Iz h'.last) (Vz p1 i1 q1) (Vz p2 i2 q2) (Vz p3 i3 q3) (Vz p4 i4 q4);have a5:=kR.kept a0 (by simp);have H9:=H2.gr a0 a9;have b3:=I9 hB (A4 _) (Iz h'.now) (Iz h'.last) (Vz p1 i1 q1) (Vz p2 i2 q2) (Vz p3 i3 q3) (Vz p4 i4 q4);clear e0 e1 e2 e3 e4 e5 f0 f1 f2 f3 f4 f5 a0 H2 kA kR hB;generalize ((((((w2.setCell ⟨w.heap.size,0,none⟩ (Iz h'.now)).setCell ⟨w.heap.size,1,none⟩ (Iz h'.last)).setCell ⟨w.heap.size,2,none⟩ (Vz p1 i1 q1)).setCell ⟨w.heap.size,3,none⟩ (Vz p2 i2 q2)).setCell ⟨w.heap.size,4,none⟩ (Vz p3 i3 q3)).setCell ⟨w.heap.size,5,none⟩ (Vz p4 i4 q4))=W9 at *;obtain⟨e0,e1,e2,e3,e4,e5⟩:=b2.c6;obtain⟨y0,y1,y2,y3,y4,y5⟩:=a5.c6;obtain⟨f0,f1,f2,f3,f4,f5⟩:=a5.f6;go_wp2_with fail;refine N8 results115 underlying30 rfl G6 a5 rfl ?_;have b4:=G3 W9 (w.heap.size+2) (Iz h'.now) (Iz h'.last) (Vz p1 i1 q1) (Vz p2 i2 q2) (Vz p3 i3 q3) (Vz p4 i4 q4);exact⟨⟨h',_,_,_,_,rfl,a6,(by intro Q hq;first|exact HQ.out Q hq|exact λhp=>HQ.out Q hq (λ_=>hp)|exact HQ.out Q hq (λe=>by simp at e)),(H9.gr b4 b0).low (by omega)⟩,I9 b3 (by omega) _ _ _ _ _ _⟩
 ·by_cases h2:kd=2
  ·subst h2;have hc:=WR h _ _ _ _ nm well W1 H1;go_upto_region 7 with (go_at_call 155;refine hc.mono ?_;rintro e w2 ⟨⟨h',tu,bu,xu,du,cd,rfl,a8,a6,H2⟩,a7⟩;have HQ:Hid (∀(Q:List Ph->List Sl->Prop),AV Q h->((2:Int)=1->Q ps sl)->AV Q h'):=λQ hq hp=>a8.q hq;clear a8;have kA:=kA.up a7 a9;have kR:=kR.up a7 b0;have hB:=D5 b1 a7;obtain⟨p1,i1,q1,p2,i2,q2,p3,i3,q3,p4,i4,q4,rfl,rfl,rfl,rfl⟩:=H2.shapes;clear e0 e1 e2 e3 e4 e5;obtain⟨e0,e1,e2,e3,e4,e5⟩:=kA.c6;obtain⟨f0,f1,f2,f3,f4,f5⟩:=kA.f6)
   have b2:=kA.copy6 (Iz h'.now) (Iz h'.last) (Vz p1 i1 q1) (Vz p2 i2 q2) (Vz p3 i3 q3) (Vz p4 i4 q4);have a0:=G3 w2 w.heap.size (Iz h'.now) (Iz h'.last) (Vz p1 i1 q1) (Vz p2 i2 q2) (Vz p3 i3 q3) (Vz p4 i4 q4);have a5:=kR.kept a0 (by simp);have H9:=H2.gr a0 a9;have b3:=I9 hB (A4 _) (Iz h'.now) (Iz h'.last) (Vz p1 i1 q1) (Vz p2 i2 q2) (Vz p3 i3 q3) (Vz p4 i4 q4);clear e0 e1 e2 e3 e4 e5 f0 f1 f2 f3 f4 f5 a0 H2 kA kR hB;generalize ((((((w2.setCell ⟨w.heap.size,0,none⟩ (Iz h'.now)).setCell ⟨w.heap.size,1,none⟩ (Iz h'.last)).setCell ⟨w.heap.size,2,none⟩ (Vz p1 i1 q1)).setCell ⟨w.heap.size,3,none⟩ (Vz p2 i2 q2)).setCell ⟨w.heap.size,4,none⟩ (Vz p3 i3 q3)).setCell ⟨w.heap.size,5,none⟩ (Vz p4 i4 q4))=W9 at *;obtain⟨e0,e1,e2,e3,e4,e5⟩:=b2.c6;obtain⟨y0,y1,y2,y3,y4,y5⟩:=a5.c6;obtain⟨f0,f1,f2,f3,f4,f5⟩:=a5.f6;go_wp2_with fail;refine N8 results115 underlying30 rfl G6 a5 rfl ?_;have b4:=G3 W9 (w.heap.size+2) (Iz h'.now) (Iz h'.last) (Vz p1 i1 q1) (Vz p2 i2 q2) (Vz p3 i3 q3) (Vz p4 i4 q4);exact⟨⟨h',_,_,_,_,rfl,a6,(by intro Q hq;first|exact HQ.out Q hq|exact λhp=>HQ.out Q hq (λ_=>hp)|exact HQ.out Q hq (λe=>by simp at e)),(H9.gr b4 b0).low (by omega)⟩,I9 b3 (by omega) _ _ _ _ _ _⟩
  ·have hc:=UZ h _ _ _ _ W1 H1;go_upto_region 7 with (go_at_call 156;refine hc.mono ?_;rintro e w2 ⟨⟨h',tu,bu,xu,du,cd,rfl,a8,a6,H2⟩,a7⟩;have HQ:Hid (∀(Q:List Ph->List Sl->Prop),AV Q h->(kd=1->Q ps sl)->AV Q h'):=λQ hq hp=>a8.q hq;clear a8;have kA:=kA.up a7 a9;have kR:=kR.up a7 b0;have hB:=D5 b1 a7;obtain⟨p1,i1,q1,p2,i2,q2,p3,i3,q3,p4,i4,q4,rfl,rfl,rfl,rfl⟩:=H2.shapes;clear e0 e1 e2 e3 e4 e5;obtain⟨e0,e1,e2,e3,e4,e5⟩:=kA.c6;obtain⟨f0,f1,f2,f3,f4,f5⟩:=kA.f6)
   have b2:=kA.copy6 (Iz h'.now) (Iz h'.last) (Vz p1 i1 q1) (Vz p2 i2 q2) (Vz p3 i3 q3) (Vz p4 i4 q4);have a0:=G3 w2 w.heap.size (Iz h'.now) (Iz h'.last) (Vz p1 i1 q1) (Vz p2 i2 q2) (Vz p3 i3 q3) (Vz p4 i4 q4);have a5:=kR.kept a0 (by simp);have H9:=H2.gr a0 a9;have b3:=I9 hB (A4 _) (Iz h'.now) (Iz h'.last) (Vz p1 i1 q1) (Vz p2 i2 q2) (Vz p3 i3 q3) (Vz p4 i4 q4);clear e0 e1 e2 e3 e4 e5 f0 f1 f2 f3 f4 f5 a0 H2 kA kR hB;generalize ((((((w2.setCell ⟨w.heap.size,0,none⟩ (Iz h'.now)).setCell ⟨w.heap.size,1,none⟩ (Iz h'.last)).setCell ⟨w.heap.size,2,none⟩ (Vz p1 i1 q1)).setCell ⟨w.heap.size,3,none⟩ (Vz p2 i2 q2)).setCell ⟨w.heap.size,4,none⟩ (Vz p3 i3 q3)).setCell ⟨w.heap.size,5,none⟩ (Vz p4 i4 q4))=W9 at *;obtain⟨e0,e1,e2,e3,e4,e5⟩:=b2.c6;obtain⟨y0,y1,y2,y3,y4,y5⟩:=a5.c6;obtain⟨f0,f1,f2,f3,f4,f5⟩:=a5.f6;go_wp2_with fail;refine N8 results115 underlying30 rfl G6 a5 rfl ?_;have b4:=G3 W9 (w.heap.size+2) (Iz h'.now) (Iz h'.last) (Vz p1 i1 q1) (Vz p2 i2 q2) (Vz p3 i3 q3) (Vz p4 i4 q4);exact⟨⟨h',_,_,_,_,rfl,a6,(by intro Q hq;first|exact HQ.out Q hq|exact λhp=>HQ.out Q hq (λ_=>hp)|exact HQ.out Q hq (λe=>by simp at e)),(H9.gr b4 b0).low (by omega)⟩,I9 b3 (by omega) _ _ _ _ _ _⟩
theorem Qd:(prog.info? 151).map (·.size)=some 5:=by kernel_rfl
theorem MP{fn:Func}{q:Tmp}(h:fn.results=#[.cell q T]){d:TypeDesc}(hu:P.underlying T=some d)(hd:d.isRow=true)(hi:(P.info? T).map (·.size)=some 5){R:Ending->World->Prop}{y0 y1 y2 y3 y4:Value}
  (k:CB w rk [y0,y1,y2,y3,y4]) (ht:tmps.getD q undef=Pz rk 0) (hR:R (.returned (.agg #[x0,x1,x2,x3,x4])) (((((w.setCell ⟨rk,0,none⟩ x0).setCell ⟨rk,1,none⟩ x1).setCell ⟨rk,2,none⟩ x2).setCell ⟨rk,3,none⟩ x3).setCell ⟨rk,4,none⟩ x4)) :
  bodyPost P fn R .ret {tmps:=tmps,defers:=[]} (((((w.setCell ⟨rk,0,none⟩ x0).setCell ⟨rk,1,none⟩ x1).setCell ⟨rk,2,none⟩ x2).setCell ⟨rk,3,none⟩ x3).setCell ⟨rk,4,none⟩ x4) :=
 bodyPost_ret (JC (cs:=[x0,x1,x2,x3,x4]) h hu hd hi ht (k.copy [x0,x1,x2,x3,x4] rfl)) rfl hR
theorem CB.f5(h:CB w b [x0,x1,x2,x3,x4]):w.frozen? ⟨b,0,none⟩=false/\w.frozen? ⟨b,1,none⟩=false/\w.frozen? ⟨b,2,none⟩=false/\w.frozen? ⟨b,3,none⟩=false/\w.frozen? ⟨b,4,none⟩=false :=
 ⟨(h.2.1 0 (by simp)).2,(h.2.1 1 (by simp)).2,(h.2.1 2 (by simp)).2,(h.2.1 3 (by simp)).2,(h.2.1 4 (by simp)).2⟩
theorem Js(w:World)(b:Nat)(x0 x1 x2 x3 x4:Value):w.grownBy (((((w.setCell ⟨b,0,none⟩ x0).setCell ⟨b,1,none⟩ x1).setCell ⟨b,2,none⟩ x2).setCell ⟨b,3,none⟩ x3).setCell ⟨b,4,none⟩ x4) (some b) :=
 E1 (rb:=b) (E1 (rb:=b) (E1 (rb:=b) (E1 (rb:=b) (E1 (rb:=b) (E2 w _) _) _) _) _) _
theorem Jt:∀ps:List Ph,R0 ps=F8 Ph.cells ps
 | []=>rfl
 | p::r=>by rw[R0,F8,Jt r]
def KR(ps:List Ph)(sl:List Sl):Prop:=1<=ps.length/\ps.length<=12/\(∀p∈ps,p.sz)/\sl.length<=24
theorem Vx{base2:Nat}(h1:w.ownsRow base 43 8 u ps.length (R0 ps))(hp:1<=ps.length)(hp2:ps.length<=12)(hz:∀p∈ps,p.sz)(h2:w.ownsRow base2 58 2 su sl.length (F8 Sl.cells sl))(hn:NN su)(hl:sl.length<=24)(hzs:∀y∈sl,y.s.size<=maxLen/\y.t.size<=maxLen)(hzn:x.nm.size<=maxLen)(e1:x.ps=ps)(e2:x.sl=sl):T1 w x u su:=by
 subst e1 e2;obtain⟨g,a0,rfl⟩:=I6 h1 (by omega);obtain⟨g2,n2,c2,rfl⟩:=hn;obtain⟨_,_,e⟩:=I7 h2;simp only[Value.slice.injEq] at e;obtain⟨-,rfl,-⟩:=e;have hc:=BP h1;refine⟨⟨g,0,a0,rfl,DZ h1,(h1.lt g rfl).2,hc.1,?_⟩,⟨g2,0,c2,rfl,λi q hq=>?_,(h2.lt g2 rfl).2⟩,λp hp=>?_,hzs,hzn,by omega,by omega⟩
 ·have:=hc.2;unfold maxLen at this;omega
 ·rw[Nat.zero_add];exact V2 Z3 h2 hq
 ·have:=hz p hp;exact⟨this.1,this.2.1,this.2.2.1,this.2.2.2.1,this.2.2.2.2.1⟩
theorem Tk(rb len N:Nat)(v:Value)(h:House)(tv bv xv dv:Value)(w:World)(hR:Rd w rb v len N)(hN:N<=600000)(H:HS rb w h tv bv xv dv)(hf:Gl h):
  Calls prog 116 #[Pz rb 0,.agg #[Iz h.now,Iz h.last,tv,bv,xv,dv]] w λe w'=>(∃(kd:Int)(nm:BA)(ps:List Ph)(sl:List Sl)(ar asl:Option Addr)(nr cr ns cs:Nat)(well:Bool),e=.returned (.agg #[Iz kd,Tz nm,Vz ar nr cr,Vz asl ns cs,.bool well])/\(kd=1->T1 w' (L3 h nm ps sl) (Vz ar nr cr) (Vz asl ns cs)/\KR ps sl))/\Rd w' rb v len (N+340)/\w.grownBy w' (some rb):=by
 obtain⟨a1,c1,a2,c2,a3,c3,a4,c4,rfl,rfl,rfl,rfl⟩:=H.v.shapes;obtain⟨W1,e9,kA,kR,b1,g3⟩:=cbE2 w (Hcz h a1 c1 a2 c2 a3 c3 a4 c4) 30 [Iz 0,Ez,Nz,Nz,.bool false] 151;have f7:=hR.kept b1;have H1:=H.up b1;have f8:w.grownBy W1 (some rb):=⟨b1.os,b1.tape,b1.output,b1.size,λi hi _=>b1.block i hi⟩;have h9:rb<w.heap.size:=hR.lt;have i0:w.heap.size<W1.heap.size:=by omega
 have i1:w.heap.size+1<W1.heap.size:=by omega
 clear g3 hR H;go_in;go_upto_region 1 with fail;try rw[e9]
 clear e9 b1;go_wp2_with fail;refine (K2 rb len _ v 8 _ f7 (by omega)).mono ?_;rintro e w1 ⟨⟨x,rfl,j0,g0⟩,c7,b6⟩;have i2:=g0 (by omega);have d7:=kA.kept b6 (by simp;omega);have b4:=kR.kept b6 (by simp;omega);have H2:=H1.gr b6;have b9:=E0 f8 b6;have i3:=b6.size;clear f7 f8 H1 kA kR b6 g0;have g4:(x=0∨x=1)∨(x=2∨x=3∨x=4)∨(x=5∨x=6∨x=7):=by omega
 have g5:h.sh.tg.length<=100:=by have:=hf.1.1;omega
 rcases g4 with (rfl|rfl)|(rfl|rfl|rfl)|(rfl|rfl|rfl)
 iterate 2
  ·(go_upto_region 5 with (first|(go_at_call 19;refine (Fd _).mono ?_;rintro e x1 ⟨rfl,rfl⟩)|(go_at_call 18;refine (Ar rb len _ v Aw 6 _ 0 6 _ rfl (c7.alloc (.cells (Aw.map Value.string).toArray 9)) (by omega) (K8 _ _ _) (by omega) (by omega) (by omega)).mono ?_;rintro e w3 ⟨⟨s,hs,rfl⟩,c9,a8⟩;have i4:=a8.size)|(go_at_call 16;refine (Kk rb len _ v _ c9 (by omega)).mono ?_;rintro e w4 ⟨⟨u,ps,rfl,h1,g1,e7,a9⟩,d5,b0⟩;obtain⟨gu,cu,rfl⟩:=I6 a9 (by omega);have g6:=(a9.lt gu rfl).2));have b7:Up w1 (w1.alloc (.cells (Aw.map Value.string).toArray 9)):=(A5 _ _).alloc (A4 _) _;have d8:=((d7.up b7 (by omega)).kept a8 (by simp;omega)).kept b0 (by simp;omega);have b3:=((b4.up b7 (by omega)).kept a8 (by simp;omega)).kept b0 (by simp;omega);have H4:=((H2.up b7).gr a8).gr b0;have a6:=E0 (E0 (F4 b9 (.cells (Aw.map Value.string).toArray 9)) a8) b0;have i5:=b0.size;have i6:=b7.size;obtain⟨W5,f6,kD,a0⟩:∃W5,w4.alloc (Kz [Iz 1,Tz s,Sz gu ps.length cu,Nz,.bool false] 151)=W5/\CB W5 w4.heap.size [Iz 1,Tz s,Sz gu ps.length cu,Nz,.bool false]/\Up w4 W5:=⟨_,rfl,F3 w4 _ _,(A5 _ _).alloc (A4 _) _⟩;(try rw[f6]);have g7:w4.heap.size<W5.heap.size:=kD.2.2;have g9:=d8.up a0 d8.2.2;have h0:=b3.up a0 b3.2.2;have H5:=H4.up a0;have h2:=d5.kept a0;have h3:w.grownBy W5 (some rb):=⟨a0.os.trans a6.os,a0.tape.trans a6.tape,a0.output.trans a6.output,B3 a6.size a0.size,λi hi hne=>(a0.block i (A2 hi a6.size)).trans (a6.block i hi hne)⟩;have a5:=E4 a9 a0;have i7:=a0.size;have i8:=a6.size;clear f6 d8 b3 H4 d5 a6 a9 d7 b4 H2 b9 c7 c9 a8 b0 b7 a0;obtain⟨d0,d1,d2,d3,d4⟩:=kD.c5;obtain⟨e0,e1,e2,e3,e4,e5⟩:=g9.c6;have f9:Dd ps:=(λp hp=>by have:=e7 p hp;exact⟨this.1,this.2.1,this.2.2.1,this.2.2.2.1,this.2.2.2.2.1⟩);have hc:=KP rb len _ v ps gu 0 cu h.sh.tg _ W5 h2 (by omega) (DZ a5) (a5.lt gu rfl).2 f9 (by omega) H5.v.t g5;go_upto_region 6 with (go_at_call 17;refine hc.mono ?_;rintro e w6 ⟨⟨us,sl,rfl,h7,e8,hl,h8⟩,g2,d6⟩;obtain⟨g8,n8,c8,rfl⟩:=h7;have c0:=kD.kept d6 (by simp;omega);clear d0 d1 d2 d3 d4;obtain⟨d0,d1,d2,d3,d4⟩:=c0.c5;obtain⟨f0,f1,f2,f3,f4⟩:=c0.f5);have b5:w6.grownBy (w6.setCell ⟨w4.heap.size,3,none⟩ (Sz g8 n8 c8)) (some w4.heap.size):=E1 (E2 _ _) _;have h4:CB (w6.setCell ⟨w4.heap.size,3,none⟩ (Sz g8 n8 c8)) w4.heap.size [Iz 1,Tz s,Sz gu ps.length cu,Sz g8 n8 c8,.bool false]:=c0.set (j:=3) (by simp);have d9:=(h0.kept d6 (by simp;omega)).kept b5 (by simp;omega);have b2:=F2 a5 d6 (by omega);have i9:gu<w4.heap.size:=g6;have b8:=E5 b2 b5 (by intro g hg e;simp[Value.ownBlock] at hg e;omega);have e6:=E5 e8 b5 (by intro g hg e;have:=(e8.lt g hg).1;simp at e;omega);have h5:=g2.row b5 (by omega);have h6:=I3 (E0 h3 d6) b5 (by omega);clear d0 d1 d2 d3 d4 f0 f1 f2 f3 f4 c0 b5 b2 g2 e8 hc kD e0 e1 e2 e3 e4 e5;generalize w6.setCell ⟨w4.heap.size,3,none⟩ (Sz g8 n8 c8)=W7 at *;obtain⟨d0,d1,d2,d3,d4⟩:=h4.c5;obtain⟨y0,y1,y2,y3,y4⟩:=d9.c5;obtain⟨f0,f1,f2,f3,f4⟩:=d9.f5;go_wp2_with fail;refine MP results116 underlying151 rfl Qd d9 rfl ?_;have a7:=Js W7 (w.heap.size+1) (Iz 1) (Tz s) (Sz gu ps.length cu) (Sz g8 n8 c8) (.bool false);refine⟨⟨1,s,ps,sl,_,_,_,_,_,_,false,rfl,λ_=>?_⟩,(h5.row a7 (by omega)).mono (by omega),I3 h6 a7 (by omega)⟩;exact⟨Vx (F2 b8 a7 (by omega)) h1 g1 e7 (F2 e6 a7 (by omega)) ⟨_,_,_,rfl⟩ hl h8 (by have:=Jh s hs;show s.size<=maxLen;unfold maxLen;omega) rfl rfl,h1,g1,e7,hl⟩)
 iterate 3
  ·(obtain⟨e0,e1,e2,e3,e4,e5⟩:=d7.c6;go_wp2_with (first|(go_at_call 157;refine (QU rb len _ v h _ _ _ _ _ c7 (by omega) H2 hf).mono ?_;rintro e w3 ⟨⟨s,rfl,f9⟩,c9,a8⟩)|(go_at_call 20;refine (K2 rb len _ v 4 _ c9 (by omega)).mono ?_;rintro e w4 ⟨⟨y,rfl,j1,-⟩,d5,b0⟩;have b3:=(b4.kept a8 (by simp;omega)).kept b0 (by simp;omega);have a6:=E0 (E0 b9 a8) b0;obtain⟨y0,y1,y2,y3,y4⟩:=b3.c5;obtain⟨f0,f1,f2,f3,f4⟩:=b3.f5));refine MP results116 underlying151 rfl Qd b3 rfl ?_;have a7:=Js w4 (w.heap.size+1) (Iz 2) (Tz s) (Nz) (Nz) (.bool (decide (0<y)));exact⟨⟨2,s,[],[],none,none,0,0,0,0,_,rfl,λh=>by cases h⟩,(d5.row a7 (by omega)).mono (by omega),I3 a6 a7 (by omega)⟩)
 iterate 3
  ·(obtain⟨y0,y1,y2,y3,y4⟩:=b4.c5;obtain⟨f0,f1,f2,f3,f4⟩:=b4.f5;go_wp2_with fail;refine MP results116 underlying151 rfl Qd b4 rfl ?_;have a7:=Js w1 (w.heap.size+1) (Iz 3) (Ez) (Nz) (Nz) (.bool false);exact⟨⟨3,⟨#[]⟩,[],[],none,none,0,0,0,0,false,rfl,λh=>by cases h⟩,(c7.row a7 (by omega)).mono (by omega),I3 b9 a7 (by omega)⟩)
theorem Ay{e n:Nat}{v:Value}(h:w.ownsRow base e k v n xs)(hb:∀i,base<=i->i<w.heap.size->w'.heap[i]?=w.heap[i]?):w'.ownsRow base e k v n xs:=Gp h λg e=>hb g (h.lt g e).1 (h.lt g e).2
theorem HW.keepB(H:HW w base h tv bv xv dv)(hb:∀i,base<=i->i<w.heap.size->w'.heap[i]?=w.heap[i]?):HW w' base h tv bv xv dv:=by
 obtain⟨ps,h1,h2⟩:=H.x;obtain⟨tu,bu,qs,e,k1,k2,k3⟩:=H.k;obtain⟨g,a0,a1,e4,d1,d2⟩:=H.d;exact⟨⟨tu,bu,qs,e,Ay k1 hb,⟨Ay k2.1 hb,λp hp=>⟨Ay (k2.2 p hp).1 hb,Ay (k2.2 p hp).2.1 hb,(k2.2 p hp).2.2⟩⟩,k3⟩,H.z,⟨ps,⟨Ay h1.1 hb,λp hp=>⟨Ay (h1.2 p hp).r hb,Ay (h1.2 p hp).s hb,(h1.2 p hp).nr,(h1.2 p hp).ns,(h1.2 p hp).zp,(h1.2 p hp).zs,(h1.2 p hp).zn,(h1.2 p hp).np,(h1.2 p hp).nl⟩⟩,h2⟩,⟨g,a0,a1,e4,Ay d1 hb,d2⟩⟩
def HT(B hb:Nat)(w:World)(h:House)(tv bv xv dv:Value):Prop:=∀w',(∀k,B<k->k<w.heap.size->k≠hb->w'.heap[k]?=w.heap[k]?)->w.heap.size<=w'.heap.size->HV w' h tv bv xv dv
theorem HT.step(H:HT B hb w h tv bv xv dv)(hk:∀k,B<k->k<w.heap.size->k≠hb->w'.heap[k]?=w.heap[k]?)(hz:w.heap.size<=w'.heap.size):HT B hb w' h tv bv xv dv:=λw2 k2 z2=>H w2 (λk h1 h2 h3=>(k2 k h1 (by omega) h3).trans (hk k h1 h2 h3)) (B3 hz z2)
theorem HT.gr(H:HT B hb w h tv bv xv dv)(hg:w.grownBy w' (some r))(hr:r<=B∨r=hb):HT B hb w' h tv bv xv dv:=H.step (λk h1 h2 h3=>hg.block k h2 (by simp;omega)) hg.size
theorem HT.hs(H:HT B hb w h tv bv xv dv)(hr:rb<=B):HS rb w h tv bv xv dv:=λw' hg=>H w' (λk h1 h2 _=>hg.block k h2 (by simp;omega)) hg.size
theorem HT.v(H:HT B hb w h tv bv xv dv):HV w h tv bv xv dv:=H w (λ_ _ _ _=>rfl) (A4 _)
theorem HT.as(H:HT B hb w h tv bv xv dv)(h1:h'.sh=h.sh)(h2:h'.bs=h.bs)(h3:h'.ds=h.ds):HT B hb w h' tv bv xv dv:=λw' hk hz=>by
 obtain⟨a,b,c,d⟩:=H w' hk hz;exact⟨by rw[h1];exact a,by rw[h1];exact b,by rw[h2];exact c,by rw[h3];exact d⟩
theorem HX.ht(H:HX w base h tv bv xv dv)(h1:B<base)(h2:hb<base):HT B hb w h tv bv xv dv:=λw' hk _=>by
 rcases H with H|⟨rfl,rfl,rfl,rfl,rfl⟩
 ·exact (H.keepB λi hi hz=>hk i (by omega) hz (by omega)).v
 ·exact KB w'
theorem YV(H:RR w base u ls)(hz:∀s∈ls,s.size<=maxLen)(h1:B<base)(h2:w.heap.size<=hb):∃tv bv,u=.agg #[Iz 0,Iz 0,tv,bv,Nz,Nz]/\HT B hb w ⟨0,0,⟨ls,[]⟩,[],[]⟩ tv bv (Nz) (Nz):=by
 obtain⟨a1,c1,a2,c2,rfl,ho⟩:=H;refine⟨_,_,rfl,λw' hk _=>?_⟩;have a0:F7 w' base (Vz a1 ls.length c1) ls:=Gp ho λg e=>hk g (by have:=(ho.lt g e).1;omega) (ho.lt g e).2 (by have:=(ho.lt g e).2;omega);exact⟨a0.lst.ls hz,⟨a2,c2,rfl,by simp,λh=>by simp at h⟩,⟨none,0,rfl,by simp,λh=>by simp at h⟩,⟨none,0,rfl,by simp,λh=>by simp at h⟩⟩
def DO(w:World)(base:Nat)(h:House)(xv:Value):Prop:=0<h.bs.length->∃ps,V3 w base xv ps/\ps.map (·.1)=h.bs
theorem HX.rows(H:HX w base h tv bv xv dv):DO w base h xv:=λhp=>by
 rcases H with H|⟨rfl,rfl,rfl,rfl,rfl⟩
 ·exact H.x
 ·simp[N9] at hp
theorem DO.gr(H:DO w base h xv)(hg:w.grownBy w' (some r))(hr:r<base):DO w' base h xv:=λhp=>(H hp).imp λ_ x=>⟨x.1.gr hg hr,x.2⟩
theorem DO.low{base':Nat}(H:DO w base h xv)(hb:base'<=base):DO w base' h xv:=λhp=>(H hp).imp λ_ x=>⟨x.1.low hb,x.2⟩
theorem DO.as(H:DO w base h xv)(e:h'.bs=h.bs):DO w base h' xv:=λhp=>by rw[e] at hp ⊢;exact H hp
structure HJ (w w':World) (rb len N HB:Nat) (v:Value) (h:House) (tv bv xv dv:Value):Prop where
 r:CB w' w.heap.size [.int .i64 0,.int .i64 0,.slice none 0 0,.slice none 0 0,.slice none 0 0,.slice none 0 0]
 x:CB w' HB [.int .i64 h.now,.int .i64 h.last,tv,bv,xv,dv]
 rd:Rd w' rb v len N
 g:w.grownBy w' (some rb)
 ht:HT w.heap.size HB w' h tv bv xv dv
 few:Gl h
 q:AV KR h
 o:DO w' (HB+1) h xv
 qz:w.heap.size<HB
 rz:rb<w.heap.size
theorem HJ.gr{w1 w2:World}{len N M HB:Nat}{v:Value}(J:HJ w w1 rb len N HB v h tv bv xv dv)(hg:w1.grownBy w2 (some rb))(hR:Rd w2 rb v len M):HJ w w2 rb len M HB v h tv bv xv dv :=
 ⟨J.r.kept hg (by have:=J.rz;simp;omega),J.x.kept hg (by have:=J.rz;have:=J.qz;simp;omega),hR,E0 J.g hg,J.ht.gr hg (.inl (Nat.le_of_lt J.rz)),J.few,J.q,J.o.gr hg (by have:=J.rz;have:=J.qz;omega),J.qz,J.rz⟩
theorem HT.shapes(H:HT rb hb w h tv bv xv dv):∃a1 n1 c1 a2 n2 c2 a3 n3 c3 a4 n4 c4,tv=Vz a1 n1 c1/\bv=Vz a2 n2 c2/\xv=Vz a3 n3 c3/\dv=Vz a4 n4 c4:=by
 obtain⟨a1,c1,a2,c2,a3,c3,a4,c4,rfl,rfl,rfl,rfl⟩:=H.v.shapes;exact⟨a1,_,c1,a2,_,c2,a3,_,c3,a4,_,c4,rfl,rfl,rfl,rfl⟩
theorem QY(rb len N:Nat)(v:Value)(w:World)(hR:Rd w rb v len N)(hN:N<=400000):
  Calls prog 60 #[Pz rb 0] w λe w'=>(∃h tv bv xv dv,e=.returned (.agg #[Iz h.now,Iz h.last,tv,bv,xv,dv])/\Gl h/\AV KR h/\HS rb w' h tv bv xv dv/\DO w' (w.heap.size+1) h xv/\∃HB,HT w.heap.size HB w' h tv bv xv dv)/\Rd w' rb v len (N+9000)/\w.grownBy w' (some rb):=by
 have g5:=hR.lt;obtain⟨W1,c3,kR,c4,c5,b7⟩:∃W1,w.alloc (Kz [Iz 0,Iz 0,Nz,Nz,Nz,Nz] 30)=W1/\CB W1 w.heap.size [Iz 0,Iz 0,Nz,Nz,Nz,Nz]/\Rd W1 rb v len N/\w.grownBy W1 (some rb)/\w.heap.size<W1.heap.size:=⟨_,rfl,F3 w _ _,hR.alloc _,F4 (E2 _ _) _,by simp⟩;go_in;go_upto_region 1 with fail;try rw[c3]
 clear c3 hR
 go_upto_region 2 with (first
  | (go_at_call 114;refine (Px rb len _ v _ c4 (by omega)).mono ?_;rintro e w2 ⟨⟨u,ss,rfl,e6,h3,g1⟩,e7,c0⟩;have b8:=c0.size;have c8:∀s∈ss,s.size<=maxLen:=λs hs=>(by have:=QQ s (g1 s hs);unfold maxLen;omega))
  | (go_at_call 113;refine (PO ss _ _ (e6.lst.ls c8) (by omega)).mono ?_;rintro e w3 ⟨⟨u3,rfl,e8⟩,a9⟩;have g6:=a9.size;obtain⟨tv,bv,rfl,HT3⟩:=YV (B:=w.heap.size) (hb:=w3.heap.size) e8 (YO c8) (by omega) (A4 _);obtain⟨p1,q1,p2,q2,-,-,-,-,rfl,rfl,-,-⟩:=HT3.v.shapes))
 obtain⟨W4,c7,J4⟩:∃W4,w3.alloc (Kz [Iz 0,Iz 0,Vz p1 (Jx ss).length q1,Vz p2 0 q2,Nz,Nz] 30)=W4/\HJ w W4 rb len (N+6) w3.heap.size v ⟨0,0,⟨Jx ss,[]⟩,[],[]⟩ (Vz p1 (Jx ss).length q1) (Vz p2 0 q2) (Nz) (Nz):=by
  refine⟨_,rfl,?_⟩;have a6:Up w3 (w3.alloc (Kz [Iz 0,Iz 0,Vz p1 (Jx ss).length q1,Vz p2 0 q2,Nz,Nz] 30)):=(A5 _ _).alloc (A4 _) _;refine⟨((kR.kept c0 (by simp;omega)).up a9 (by omega)).up a6 (by omega),F3 w3 _ _,(e7.kept a9).kept a6,?_,HT3.step (λk _ h2 _=>a6.block k h2) a6.size,?_,?_,λhp=>(by simp at hp),by omega,by omega⟩
  ·have hg:=E0 c5 c0;exact E0 (E0 hg (L2 a9)) (L2 a6)
  ·have:=Yd ss;exact⟨⟨by show (Jx ss).length<=_;omega,by simp,by simp⟩,by simp,by simp⟩
  ·exact λx hx=>(by simp at hx)
 try rw[c7]
 clear c7 HT3 e8 a9 e6 e7 c0 kR c5 c4;generalize hHB:w3.heap.size=HB at *;go_wp2_with fail;refine (K2 rb len _ v 24 _ J4.rd (by omega)).mono ?_;rintro e w5 ⟨⟨n,rfl,g2,e9⟩,b0,b5⟩;have g7:=e9 (by omega);obtain⟨m,rfl⟩:∃m:Nat,n=(m:Int):=⟨n.toNat,by omega⟩;have J5:=J4.gr b5 b0;clear J4 b0 b5 g2 e9;go_wp2_with fail;(try dsimp only[Iz,Sz,Sy,Nz,Vz,Tz,Ez,Pz]);go_loopw [5] (λi w'=>∃(k:Nat)(h:House)(b1:Option Addr)(l1 d1:Nat)(b2:Option Addr)(l2 d2:Nat)(b3:Option Addr)(l3 d3:Nat)(b4:Option Addr)(l4 d4:Nat),k<=m/\i=.int .i64 k/\HJ w w' rb len (N+7+340*(m-k)) HB v h (Vz b1 l1 d1) (Vz b2 l2 d2) (Vz b3 l3 d3) (Vz b4 l4 d4)) (λi _=>(intOf i).toNat)
 case atStart=>exact⟨m,_,_,_,_,_,_,_,_,_,_,_,_,_,by omega,rfl,by simpa using J5⟩
 case round =>
  clear J5;obtain⟨k,h,b1,l1,d1,b2,l2,d2,b3,l3,d3,b4,l4,d4,hk,rfl,J⟩:=hrel;by_cases hp:0<k
  ·have g8:(0:Int)<(k:Int):=by omega
   have b9:At wr.drew HB 0 (Iz h.now)/\At wr.drew HB 1 (Iz h.last)/\At wr.drew HB 2 (Vz b1 l1 d1)/\At wr.drew HB 3 (Vz b2 l2 d2)/\At wr.drew HB 4 (Vz b3 l3 d3)/\At wr.drew HB 5 (Vz b4 l4 d4):=J.x.c6;have Hm:Hid (340*(m-(k-1))=340*(m-k)+340):=by show _=_;omega
   have a7:N+7+340*(m-k)<=600000:=by omega
   go_wp2_with fail;refine F5 5 (λw'=>At w' HB 0 (Iz h.now)/\At w' HB 1 (Iz h.last)/\At w' HB 2 (Vz b1 l1 d1)/\At w' HB 3 (Vz b2 l2 d2)/\At w' HB 4 (Vz b3 l3 d3)/\At w' HB 5 (Vz b4 l4 d4)) (by kernel_rfl) ?_;refine D6 0 rfl b9 ?_;refine D6 1 rfl b9 ?_;refine D6 2 rfl b9 ?_;refine E7 3 rfl (λK hK=>?_);go_simp;go_wp2_with (go_at_call 116;refine (Tk rb len _ v h _ _ _ _ _ J.rd.drew a7 ((J.ht.hs (Nat.le_of_lt J.rz)).up (A5 _ _).drew) J.few).mono ?_;rintro e w6 ⟨⟨kd,nm,ps,sl,ar,g3,nr,cr,ns,cs,c1,rfl,hd⟩,a4,a1⟩)
   have a1:wr.grownBy w6 (some rb):=⟨a1.os,a1.tape,a1.output,a1.size,a1.block⟩;have J6:=J.gr a1 a4;have c9:At w6 HB 0 (Iz h.now)/\At w6 HB 1 (Iz h.last)/\At w6 HB 2 (Vz b1 l1 d1)/\At w6 HB 3 (Vz b2 l2 d2)/\At w6 HB 4 (Vz b3 l3 d3)/\At w6 HB 5 (Vz b4 l4 d4):=J6.x.c6;clear J a4 a1 b9 a7;refine E6 hK c9 ?_;clear hK K;refine E7 4 rfl (λK hK=>?_);go_simp;go_wp2_with (go_at_call 115;refine (Tj h _ _ _ _ kd nm ps sl ar g3 nr cr ns cs c1 _ J6.ht.v (λe=>(hd e).1)).mono ?_;rintro e w7 ⟨⟨h',tu,bu,xu,du,rfl,b6,hQ,H7⟩,a5⟩)
   have d0:AV KR h':=hQ _ J6.q λe=>(hd e).2;clear hQ;obtain⟨p1,i1,q1,p2,i2,q2,p3,i3,q3,p4,i4,q4,rfl,rfl,rfl,rfl⟩:=H7.shapes;have a2:=J6.x.2.2;have d5:=J6.qz;have f7:=J6.rz;have a8:=J6.x.up a5 a2;have d6:=J6.r.up a5 J6.r.2.2;have d7:At w7 HB 0 (Iz h.now)/\At w7 HB 1 (Iz h.last)/\At w7 HB 2 (Vz b1 l1 d1)/\At w7 HB 3 (Vz b2 l2 d2)/\At w7 HB 4 (Vz b3 l3 d3)/\At w7 HB 5 (Vz b4 l4 d4):=a8.c6;have d8:=J6.rd.kept a5;have d9:=E0 J6.g (L2 a5);have g9:=a5.size;have a0:=G3 w7 HB (Iz h'.now) (Iz h'.last) (Vz p1 i1 q1) (Vz p2 i2 q2) (Vz p3 i3 q3) (Vz p4 i4 q4);have J8:=(⟨d6.kept a0 (by simp;omega),a8.copy6 (Iz h'.now) (Iz h'.last) (Vz p1 i1 q1) (Vz p2 i2 q2) (Vz p3 i3 q3) (Vz p4 i4 q4),d8.row a0 (by omega),I3 d9 a0 (by omega),(H7.gr a0 a2).ht (by omega) a2,b6,d0,((H7.gr a0 a2).rows).low a2,d5,f7⟩:HJ w _ rb len (N+7+340*(m-k)+340) HB v h' (Vz p1 i1 q1) (Vz p2 i2 q2) (Vz p3 i3 q3) (Vz p4 i4 q4));clear J6 c9 a5 d8 d9 d6 a0 hd H7 b6 d5 a2 d0;refine E6 hK d7 ?_;clear hK K;obtain⟨j0,j1,j2,j3,j4,j5⟩:=a8.c6;obtain⟨f0,f1,f2,f3,f4,f5⟩:=a8.f6;refine E7 5 rfl (λK hK=>?_);go_simp;refine Bf hK ?_;clear hK K;refine F0 (by kernel_rfl) ?_ _;clear j0 j1 j2 j3 j4 j5 f0 f1 f2 f3 f4 f5 d7 a8;go_wp2_with fail;go_roundw
   case rel=>exact⟨k-1,h',_,_,_,_,_,_,_,_,_,_,_,_,by omega,by go_num,by rw[Hm.out];exact J8⟩
   case measure=>simp[intOf];omega
  ·obtain rfl:k=0:=by omega
   go_wp2_with fail;refine (K2 rb len _ v 24 _ J.rd (by omega)).mono ?_;rintro e w5 ⟨⟨x,rfl,-,-⟩,b0,b5⟩;have J5:=J.gr b5 b0;clear J b0 b5;by_cases h0:x=0
   ·subst h0;go_upto_region 11 with (go_at_call 20;refine (K2 rb len _ v 2 _ J5.rd (by omega)).mono ?_;rintro e w6 ⟨⟨y,rfl,g4,c2⟩,a4,a1⟩;have f8:=c2 (by omega);have J6:=J5.gr a1 a4;obtain⟨e0,-,-,-,-,-⟩:=J6.x.c6;obtain⟨f0,-,-,-,-,-⟩:=J6.x.f6)
    clear e0 f0
    (have a3:w6.grownBy (w6.setCell ⟨HB,0,none⟩ (Iz (100000-y))) (some HB):=E1 (E2 _ _) _;have b7:=J6.qz;have b8:=J6.rz;have JE:HJ w (w6.setCell ⟨HB,0,none⟩ (Iz (100000-y))) rb len _ HB v ({h with now:=100000-y}:House) (Vz b1 l1 d1) (Vz b2 l2 d2) (Vz b3 l3 d3) (Vz b4 l4 d4):=⟨J6.r.kept a3 (by simp;omega),J6.x.set (j:=0) (by simp),J6.rd.row a3 (by omega),I3 J6.g a3 (by omega),(J6.ht.gr a3 (.inr rfl)).as rfl rfl rfl,J6.few,J6.q,(J6.o.gr a3 (Nat.lt_succ_self _)).as rfl,b7,b8⟩;clear J5 J6 a3 a4 a1;generalize w6.setCell ⟨HB,0,none⟩ (Iz (100000-y))=WE at *)
    (obtain⟨e0,e1,e2,e3,e4,e5⟩:=JE.x.c6;obtain⟨y0,y1,y2,y3,y4,y5⟩:=JE.r.c6;obtain⟨f0,f1,f2,f3,f4,f5⟩:=JE.r.f6;go_wp2_with fail;refine N8 results60 underlying30 rfl G6 JE.r rfl ?_;have a0:=G3 WE w.heap.size (Iz ({h with now:=100000-y}:House).now) (Iz ({h with now:=100000-y}:House).last) (Vz b1 l1 d1) (Vz b2 l2 d2) (Vz b3 l3 d3) (Vz b4 l4 d4);exact⟨⟨({h with now:=100000-y}:House),_,_,_,_,rfl,JE.few,JE.q,(JE.ht.gr a0 (.inl (A4 _))).hs (Nat.le_of_lt JE.rz),(JE.o.gr a0 (Nat.lt_succ_of_lt JE.qz)).low (Nat.succ_le_succ (Nat.le_of_lt JE.qz)),⟨_,JE.ht.gr a0 (.inl (A4 _))⟩⟩,(JE.rd.row a0 JE.rz).mono (by omega),I3 JE.g a0 (A4 _)⟩)
   ·by_cases h1:x=1
    ·subst h1;go_upto_region 11 with (go_at_call 20;refine (K2 rb len _ v 2 _ J5.rd (by omega)).mono ?_;rintro e w6 ⟨⟨y,rfl,g4,c2⟩,a4,a1⟩;have f8:=c2 (by omega);have J6:=J5.gr a1 a4;obtain⟨-,e1,-,-,-,-⟩:=J6.x.c6;obtain⟨-,f1,-,-,-,-⟩:=J6.x.f6)
     clear e1 f1
     (have a3:w6.grownBy (w6.setCell ⟨HB,1,none⟩ (Iz (1000000-y))) (some HB):=E1 (E2 _ _) _;have b7:=J6.qz;have b8:=J6.rz;have JE:HJ w (w6.setCell ⟨HB,1,none⟩ (Iz (1000000-y))) rb len _ HB v ({h with last:=1000000-y}:House) (Vz b1 l1 d1) (Vz b2 l2 d2) (Vz b3 l3 d3) (Vz b4 l4 d4):=⟨J6.r.kept a3 (by simp;omega),J6.x.set (j:=1) (by simp),J6.rd.row a3 (by omega),I3 J6.g a3 (by omega),(J6.ht.gr a3 (.inr rfl)).as rfl rfl rfl,J6.few,J6.q,(J6.o.gr a3 (Nat.lt_succ_self _)).as rfl,b7,b8⟩;clear J5 J6 a3 a4 a1;generalize w6.setCell ⟨HB,1,none⟩ (Iz (1000000-y))=WE at *)
     (obtain⟨e0,e1,e2,e3,e4,e5⟩:=JE.x.c6;obtain⟨y0,y1,y2,y3,y4,y5⟩:=JE.r.c6;obtain⟨f0,f1,f2,f3,f4,f5⟩:=JE.r.f6;go_wp2_with fail;refine N8 results60 underlying30 rfl G6 JE.r rfl ?_;have a0:=G3 WE w.heap.size (Iz ({h with last:=1000000-y}:House).now) (Iz ({h with last:=1000000-y}:House).last) (Vz b1 l1 d1) (Vz b2 l2 d2) (Vz b3 l3 d3) (Vz b4 l4 d4);exact⟨⟨({h with last:=1000000-y}:House),_,_,_,_,rfl,JE.few,JE.q,(JE.ht.gr a0 (.inl (A4 _))).hs (Nat.le_of_lt JE.rz),(JE.o.gr a0 (Nat.lt_succ_of_lt JE.qz)).low (Nat.succ_le_succ (Nat.le_of_lt JE.qz)),⟨_,JE.ht.gr a0 (.inl (A4 _))⟩⟩,(JE.rd.row a0 JE.rz).mono (by omega),I3 JE.g a0 (A4 _)⟩)
    ·have f9:(x==0)=false:=by simpa using h0
     have g0:(x==1)=false:=by simpa using h1
     go_upto_region 11 with fail;clear f9 g0;obtain⟨WE,rfl⟩:∃WE,WE=w5:=⟨_,rfl⟩;have JE:=J5
     (obtain⟨e0,e1,e2,e3,e4,e5⟩:=JE.x.c6;obtain⟨y0,y1,y2,y3,y4,y5⟩:=JE.r.c6;obtain⟨f0,f1,f2,f3,f4,f5⟩:=JE.r.f6;go_wp2_with fail;refine N8 results60 underlying30 rfl G6 JE.r rfl ?_;have a0:=G3 WE w.heap.size (Iz h.now) (Iz h.last) (Vz b1 l1 d1) (Vz b2 l2 d2) (Vz b3 l3 d3) (Vz b4 l4 d4);exact⟨⟨h,_,_,_,_,rfl,JE.few,JE.q,(JE.ht.gr a0 (.inl (A4 _))).hs (Nat.le_of_lt JE.rz),(JE.o.gr a0 (Nat.lt_succ_of_lt JE.qz)).low (Nat.succ_le_succ (Nat.le_of_lt JE.qz)),⟨_,JE.ht.gr a0 (.inl (A4 _))⟩⟩,(JE.rd.row a0 JE.rz).mono (by omega),I3 JE.g a0 (A4 _)⟩)
theorem NH(h1:w.ownsRow base 43 8 u ps.length (R0 ps))(hp:1<=ps.length)(hp2:ps.length<=13)(hz:∀p∈ps,p.sz)(h2:w.ownsRow base 58 2 su sl.length (F8 Sl.cells sl))(hn:NN su)(hl:sl.length<=1000)(hzs:∀y∈sl,y.s.size<=maxLen/\y.t.size<=maxLen)(hzn:x.nm.size<=maxLen)(e1:x.ps=ps)(e2:x.sl=sl):Z5 w base (x,u,su):=by
 subst e1 e2;refine⟨by rw[← Jt];exact h1,h2,?_,hn,λp hp=>?_,hzs,hzn,?_,?_⟩
 ·obtain⟨g,a0,rfl⟩:=I6 h1 (by omega);exact⟨_,_,_,rfl⟩
 ·have:=hz p hp;exact⟨this.1,this.2.1,this.2.2.1,this.2.2.2.1,this.2.2.2.2.1⟩
 ·show x.ps.length<=1048576;omega
 ·show x.sl.length<=1048576;omega
theorem DO.up(H:DO w base h xv)(hb:Up w w'):DO w' base h xv:=λhp=>(H hp).imp λ_ x=>⟨x.1.up hb,x.2⟩
end Go.Proofs.YtmonodehegcfhaaGreatDoor
