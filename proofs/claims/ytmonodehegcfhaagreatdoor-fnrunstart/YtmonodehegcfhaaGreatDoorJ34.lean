/- The specification's l23Late (chapter 23): those that are late go on, from the last one back. -/
import Derived.Test.YtmonodehegcfhaaGreatDoorJ32
import Derived.Test.YtmonodehegcfhaaGreatDoorV11
import Derived.Test.YtmonodehegcfhaaGreatDoorJ31
set_option maxRecDepth 20000
set_option maxHeartbeats 8000000
namespace Go.Proofs.YtmonodehegcfhaaGreatDoor
open Go.Proofs.Tryz
open Go.RowKit
variable{nm:BA}{h:House}{x2 xs:List Value}{base e k n:Nat}{x:Rb}{v:Value}{w w':World}
theorem UW{l:List K0}(h:l.length<=21):(GI l).length<=20:=by
 unfold GI;split
 ·rw[A9];omega
 ·omega
theorem Lp(hk:k<h.bs.length):(AB h k nm).now=h.now/\(AB h k nm).last=h.last/\(h.ds.length<=20->(AB h k nm).ds.length<=20)/\k<=(AB h k nm).bs.length/\(AB h k nm).bs.length<=h.bs.length/\∀j,j<k->(AB h k nm).bs[j]?=h.bs[j]?:=by
 unfold AB;rw[A0 hk];dsimp only
 split
 ·refine⟨rfl,rfl,λh=>h,?_,?_,λj hj=>?_⟩
  ·rw[List.length_set];omega
  ·rw[List.length_set];omega
  ·rw[List.getElem?_set_ne (by omega)]
 ·refine⟨rfl,rfl,λh=>UW (by rw[B0,List.length_singleton];omega),?_,?_,λj hj=>?_⟩
  ·rw[B0,B8,A9];omega
  ·rw[B0,B8,A9];omega
  ·rw[List.getElem?_append_left (by rw[B8];omega),List.getElem?_take_of_lt hj]
theorem Gp(h:w.ownsRow base e k v n xs)(hb:∀g,v.ownBlock=some g->w'.heap[g]?=w.heap[g]?):w'.ownsRow base e k v n xs:=by
 refine⟨h.1,?_⟩;rcases h.2 with⟨rfl,rfl⟩|⟨g,cap,cur,rfl,h1,h2,h3⟩
 ·exact .inl ⟨rfl,rfl⟩
 ·exact .inr ⟨g,cap,cur,rfl,h1,by rw[hb g rfl];exact h2,h3⟩
theorem Kh{b2 b3 n2 n3:Nat}{p:Value}{q:Value}{ds:List K0}(h:w.ownsRow base e k v n xs)(hg:G2 w w' p.ownBlock q.ownBlock)(hp:w.ownsRow b2 40 n2 p n3 x2)(hq:Aq w b3 q ds)(h1:e≠40)(h2:e≠74):w'.ownsRow base e k v n xs:=by
 obtain⟨gd,a0,a1,rfl,h3,-⟩:=hq;exact Gp h λg e=>hg.block g (h.lt g e).2 (λe2=>E9 h hp h1 g e e2) (λe2=>E9 h h3 h2 g e e2)
theorem PJ(h:House)(tv bv xv dv:Value)(base k:Nat)(x:Rb)(nm:BA)(w:World)(H:HW w base h tv bv xv dv)(hbase:base<=w.heap.size)(hT:T8 h.sh)(hk:h.bs[k]?=some x)(hrec:P3 x.ps=true)(hnb:h.bs.length<=1048576)(hnd:h.ds.length<=1048576):
  Calls prog 187 #[.agg #[Iz h.now,Iz h.last,tv,bv,xv,dv],Iz k,Tz nm] w λe w'=>(∃tu bu xu du,e=.returned (.agg #[Iz h.now,Iz h.last,tu,bu,xu,du])/\T8 (AB h k nm).sh/\HW w' base (AB h k nm) tu bu xu du/\P0 w xv xu/\P0 w dv du)/\G2 w w' xv.ownBlock dv.ownBlock:=by
 by_cases he:M6 nm=0
 ·refine (WM h tv bv xv dv base k x nm w H hbase hT hk hrec he).mono ?_;rintro e w' ⟨⟨tu,bu,rfl,h1,h2⟩,hg⟩;exact⟨⟨tu,bu,_,_,rfl,h1,h2,P0.refl _ _,P0.refl _ _⟩,.of1 hg _⟩
 ·refine (UV h tv bv xv dv base k x nm w H hbase hT hk he hnb hnd).mono ?_;rintro e w' ⟨⟨tu,bu,xu,du,rfl,h1,h2,h3,h4⟩,hg⟩;exact⟨⟨tu,bu,xu,du,rfl,h1,h2,h3,h4⟩,.of2 hg _⟩
theorem Yb(hx:h.bs[k]?=some x)(hl:¬(AF x.ps x.ad).wi<=x.si):Ci h k=h:=by
 unfold Ci;rw[hx];dsimp only
 rw[if_neg hl]
theorem WP(hx:h.bs[k]?=some x)(hl:(AF x.ps x.ad).wi<=x.si):Ci h k=AB h k (AF x.ps x.ad).e:=by
 unfold Ci;rw[hx];dsimp only
 rw[if_pos hl]
def Lq(h:House)(k:Nat):Prop:=∀(j:Nat)(x:Rb),j<k->h.bs[j]?=some x->P3 x.ps=true/\O6 x.ps x.ad=true
theorem SR(h:House)(tv bv xv dv:Value)(base:Nat)(w:World)(H:HW w base h tv bv xv dv)(hbase:base<=w.heap.size)(hT:T8 h.sh)(hok:Lq h h.bs.length)(hnb:h.bs.length<=1048576)(hnd:h.ds.length<=20):
  Calls prog 188 #[.agg #[Iz h.now,Iz h.last,tv,bv,xv,dv]] w λe w'=>(∃tu bu xu du,e=.returned (.agg #[Iz h.now,Iz h.last,tu,bu,xu,du])/\T8 (V4 h h.bs.length).sh/\HW w' base (V4 h h.bs.length) tu bu xu du/\P0 w xv xu/\P0 w dv du)/\G2 w w' xv.ownBlock dv.ownBlock:=by
 obtain⟨a1,c1,a2,c2,a3,c3,a4,c4,rfl,rfl,rfl,rfl⟩:=H.v.shapes;obtain⟨W1,g6,kA,kR,e6⟩:∃W1,(w.alloc (.cells (Hcz h a1 c1 a2 c2 a3 c3 a4 c4).toArray 30)).alloc (Kz [Iz 0,Iz 0,Nz,Nz,Nz,Nz] 30)=W1/\W1.ownsRow w.heap.size 30 6 (Sz w.heap.size 1 1) 1 (Hcz h a1 c1 a2 c2 a3 c3 a4 c4)/\W1.ownsRow w.heap.size 30 6 (Sz (w.heap.size+1) 1 1) 1 [Iz 0,Iz 0,Nz,Nz,Nz,Nz]/\Up w W1:=⟨_,rfl,DM w (Hcz h a1 c1 a2 c2 a3 c3 a4 c4) [Iz 0,Iz 0,Nz,Nz,Nz,Nz] rfl rfl⟩;go_in;go_upto_region 1 with fail;try rw[g6]
 clear g6;have H1:=H.up e6;have h3:G2 w W1 (Vz a3 h.bs.length c3).ownBlock (Vz a4 h.ds.length c4).ownBlock:=.of_below e6 _ _;obtain⟨e0,e1,e2,e3,e4,e5⟩:=(D7 kA).c6;have c7:IntKind.i64.wrap ((h.bs.length:Int)-1)=(h.bs.length:Int)-1:=by rw[IntKind.wrap_i64];omega
 go_upto_region 2 with fail;clear e0 e1 e2 e3 e4 e5;(try dsimp only[Iz,Sz,Sy,Nz,Vz,Tz,Ez,Pz]);go_loopw [3] (λi w'=>∃(k:Nat)(hk:House)(tu bu xu du:Value),i=.int .i64 ((k:Int)-1)/\V4 hk k=V4 h h.bs.length/\k<=hk.bs.length/\hk.bs.length<=1048576/\hk.ds.length<=20/\Lq hk k/\hk.now=h.now/\hk.last=h.last/\T8 hk.sh/\w'.ownsRow w.heap.size 30 6 (Sz w.heap.size 1 1) 1 [Iz h.now,Iz h.last,tu,bu,xu,du]/\w'.ownsRow w.heap.size 30 6 (Sz (w.heap.size+1) 1 1) 1 [Iz 0,Iz 0,Nz,Nz,Nz,Nz]/\HW w' base hk tu bu xu du/\P0 w (Vz a3 h.bs.length c3) xu/\P0 w (Vz a4 h.ds.length c4) du/\G2 w w' (Vz a3 h.bs.length c3).ownBlock (Vz a4 h.ds.length c4).ownBlock) (λi _=>(intOf i+1).toNat)
 case atStart=>exact⟨h.bs.length,h,_,_,_,_,by first|rfl|rw[c7],rfl,A4 _,hnb,hnd,hok,rfl,rfl,hT,kA,kR,H1,P0.refl _ _,P0.refl _ _,h3⟩
 case round =>
  clear kA kR H1 h3 e6 H hT hok hnb hnd c7;obtain⟨k,hk,tu,bu,xu,du,rfl,a8,g7,hnb,hnd,hok,c0,a9,hT,kA,kR,HH,g8,g9,hG⟩:=hrel;have HL:Hid (V4 hk k=V4 h h.bs.length):=a8;have HO:Hid (Lq hk k):=hok;have HN:Hid (hk.now=h.now/\hk.last=h.last):=⟨c0,a9⟩;have Hx:Hid (P0 w (Vz a3 h.bs.length c3) xu/\P0 w (Vz a4 h.ds.length c4) du):=⟨g8,g9⟩;clear a8 hok c0 a9 g8 g9;obtain⟨e0,e1,e2,e3,e4,e5⟩:=(D7 kA).c6;by_cases hk0:k=0
  ·subst hk0;have HE:Hid (V4 h h.bs.length=hk):=HL.out.symm;obtain⟨y0,y1,y2,y3,y4,y5⟩:=(D7 kR).c6;obtain⟨f0,f1,f2,f3,f4,f5⟩:=(D7 kR).f6;obtain⟨t1,d1,t2,d2,qs,e9,-⟩:=HH.k.parts;simp only[Value.agg.injEq,Array.mk.injEq,List.cons.injEq,and_true] at e9;obtain⟨rfl,rfl⟩:=e9
   obtain⟨ax,nx,cx,rfl⟩:∃a n c,xu=Vz a n c:=by
    obtain⟨ps,hW,-⟩:=HH.x;obtain⟨a,c,e⟩:=I7 hW.1;exact⟨a,_,c,e⟩
   obtain⟨ad,nd,cd,rfl⟩:∃a n c,du=Vz a n c:=by
    obtain⟨g,c,h9,e,-⟩:=HH.d;exact⟨_,_,_,e⟩
   clear HL;go_wp2_with fail;refine N8 results188 underlying30 rfl G6 (D7 kR) rfl ?_;have b8:=G3 wr (w.heap.size+1) (Iz h.now) (Iz h.last) (Vz t1 hk.sh.tg.length d1) (Vz t2 hk.sh.bs.length d2) (Vz ax nx cx) (Vz ad nd cd);rw[HE.out];refine⟨⟨_,_,_,_,rfl,hT,HH.box kR b8,Hx.out.1,Hx.out.2⟩,?_⟩;exact⟨b8.os.trans hG.os,b8.tape.trans hG.tape,b8.output.trans hG.output,B3 hG.size b8.size,λi hi h1 h2=>(b8.block i (A2 hi hG.size) (by simp;omega)).trans (hG.block i hi h1 h2)⟩
  ·obtain⟨m,rfl⟩:∃m,k=m+1:=⟨k-1,by omega⟩;have ei:(((m+1:Nat):Int))-1=(m:Int):=by omega
   rw[ei];clear ei;have c7:IntKind.i64.wrap ((m:Int)-1)=(m:Int)-1:=by rw[IntKind.wrap_i64];omega
   obtain⟨ps,hW,hm⟩:=HH.x;have h4:ps.length=hk.bs.length:=by have:=congrArg List.length hm;rwa [B5] at this
   obtain⟨g,i0,rfl⟩:=I6 hW.1 (by omega);obtain⟨⟨x0,ru,su⟩,d5⟩:∃p,ps[m]?=some p:=⟨ps[m]'(by omega),A0 _⟩;have f8:hk.bs[m]?=some x0:=by rw[← hm,B1,d5];rfl
   have Hx0:Hid (hk.bs[m]?=some x0):=f8;have h5:=hW.2 _ (A7 d5);have hv:T1 wr x0 ru su:=h5.v;obtain⟨b,o,c,rfl,hr,hb,-,-⟩:=hv.r;obtain⟨gs,qs,d,rfl,-,-⟩:=hv.s;have b6:=V2 S6 hW.1 d5;have q0:At wr g (m*6) (Tz x0.nm):=b6 0 _ rfl;have q1:At wr g (m*6+1) (Sy b o x0.ps.length c):=b6 1 _ rfl;have q2:At wr g (m*6+2) (Sy gs qs x0.sl.length d):=b6 2 _ rfl;have q3:At wr g (m*6+3) (Tz x0.ad):=b6 3 _ rfl;have q4:At wr g (m*6+4) (Iz x0.si):=b6 4 _ rfl;have q5:At wr g (m*6+5) (Iz x0.st):=b6 5 _ rfl;obtain⟨e7,c5⟩:=HO.out m x0 (by omega) f8;obtain⟨j,hj,e8⟩:=EH c5;have Hph:Hid (AF x0.ps x0.ad=x0.ps[j]):=EB hj e8;have np:=hv.np;have f9:=λW (hW:M2 W b o x0.ps)=>Bb x0.ps b o c x0.ad W hW np;rw[e8] at f9;have Hat:Hid (∀W,M2 W b o x0.ps->Calls prog 77 #[Sy b o x0.ps.length c,Tz x0.ad] W λe w'=>e=.returned (Iz (j:Int))/\w'=W):=f9;have Hrow:Hid (wr.ownsRow base 40 6 (Sz g ps.length i0) ps.length (F8 Q7 ps)):=hW.1;have i6:m<ps.length:=by omega
   have Hpl:Hid (ps.length=hk.bs.length):=h4;clear b6 d5 h5 hm f9 e8 c5 f8 hW h4;go_upto_region 5 with fail;obtain⟨W2,h0,kL,d6⟩:∃W2,wr.alloc (Kz [Tz x0.nm,Sy b o x0.ps.length c,Sy gs qs x0.sl.length d,Tz x0.ad,Iz x0.si,Iz x0.st] 40)=W2/\CB W2 wr.heap.size [Tz x0.nm,Sy b o x0.ps.length c,Sy gs qs x0.sl.length d,Tz x0.ad,Iz x0.si,Iz x0.st]/\Up wr W2:=⟨_,rfl,F3 wr _ _,(A5 _ _).alloc (A4 _) _⟩;try rw[h0]
   clear h0 q0 q1 q2 q3 q4 q5;have Hr:Hid (M2 W2 b o x0.ps):=hr.up d6 hb;have a7:b<W2.heap.size:=A2 hb d6.size;have c9:wr.heap.size<W2.heap.size:=kL.2.2;obtain⟨r0,r1,r2,r3,r4,r5,r6,r7⟩:=Hr.out.cells j hj;generalize x0.ps[j]=p at *
   have mk:∀w',Up W2 w'->Up W2 w'/\At w' wr.heap.size 1 (Sy b o x0.ps.length c)/\At w' wr.heap.size 3 (Tz x0.ad)/\At w' b (o+j*8) (Tz p.nm)/\At w' b (o+j*8+1) (Iz p.k)/\At w' b (o+j*8+2) (Tz p.a)/\At w' b (o+j*8+3) (Tz p.b)/\At w' b (o+j*8+4) (Iz p.n)/\At w' b (o+j*8+5) (Iz p.wi)/\At w' b (o+j*8+6) (Tz p.t)/\At w' b (o+j*8+7) (Tz p.e):=λw' hb'=>by
    obtain⟨z0,z1,z2,z3,z4,z5⟩:=(kL.up hb' c9).c6;exact⟨hb',z1,z3,(hb'.cell (p:=⟨b,o+j*8,none⟩) a7).trans r0,(hb'.cell (p:=⟨b,o+j*8+1,none⟩) a7).trans r1,(hb'.cell (p:=⟨b,o+j*8+2,none⟩) a7).trans r2,(hb'.cell (p:=⟨b,o+j*8+3,none⟩) a7).trans r3,(hb'.cell (p:=⟨b,o+j*8+4,none⟩) a7).trans r4,(hb'.cell (p:=⟨b,o+j*8+5,none⟩) a7).trans r5,(hb'.cell (p:=⟨b,o+j*8+6,none⟩) a7).trans r6,(hb'.cell (p:=⟨b,o+j*8+7,none⟩) a7).trans r7⟩
   have Mk:Hid (∀w',Up W2 w'->Up W2 w'/\At w' wr.heap.size 1 (Sy b o x0.ps.length c)/\At w' wr.heap.size 3 (Tz x0.ad)/\At w' b (o+j*8) (Tz p.nm)/\At w' b (o+j*8+1) (Iz p.k)/\At w' b (o+j*8+2) (Tz p.a)/\At w' b (o+j*8+3) (Tz p.b)/\At w' b (o+j*8+4) (Iz p.n)/\At w' b (o+j*8+5) (Iz p.wi)/\At w' b (o+j*8+6) (Tz p.t)/\At w' b (o+j*8+7) (Tz p.e)):=mk;clear mk r0 r1 r2 r3 r4 r5 r6 r7 e0 e1 e2 e3 e4 e5;go_cut [5] (λv5 wc=>∃Y:Nat,v5=Pz Y 0/\CB wc Y [Tz p.nm,Iz p.k,Tz p.a,Tz p.b,Iz p.n,Iz p.wi,Tz p.t,Tz p.e]/\Up W2 wc)
   case first =>
    have hC:Up W2 W2.drew:=(A5 _ _).drew;refine F5 99 (λw'=>Up W2 w'/\At w' wr.heap.size 1 (Sy b o x0.ps.length c)/\At w' wr.heap.size 3 (Tz x0.ad)/\At w' b (o+j*8) (Tz p.nm)/\At w' b (o+j*8+1) (Iz p.k)/\At w' b (o+j*8+2) (Tz p.a)/\At w' b (o+j*8+3) (Tz p.b)/\At w' b (o+j*8+4) (Iz p.n)/\At w' b (o+j*8+5) (Iz p.wi)/\At w' b (o+j*8+6) (Tz p.t)/\At w' b (o+j*8+7) (Tz p.e)) (by kernel_rfl) ?_;generalize W2.drew=X1 at hC ⊢
    have hX:W2.heap.size<=X1.heap.size:=hC.size;have b7:=Mk.out _ hC;refine D6 0 rfl b7 ?_;refine D6 1 rfl b7 ?_;refine D6 2 rfl b7 ?_;refine D6 3 rfl b7 ?_;refine D6 4 rfl b7 ?_;refine D6 5 rfl b7 ?_;clear b7;refine R4 (i:=6) (j:=9) (by kernel_rfl) rfl rfl (λK hK=>?_) (λK hK=>?_)
    ·(go_simp;go_wp2_with (go_at_call 77;refine (Hat.out _ (Hr.out.up hC a7)).mono ?_;rintro e X2 ⟨rfl,hw⟩;obtain rfl:=hw.symm;clear hw);refine E6 hK (Mk.out _ hC) ?_;clear hK K;(refine D6 7 rfl (Mk.out _ hC) ?_);(refine D6 8 rfl (Mk.out _ hC) ?_))
     refine E7 9 rfl (λK hK=>?_)
     (go_simp;have kY:=F3 X1 [Ez,Iz 0,Ez,Ez,Iz 0,Iz 0,Ez,Ez] 43;replace hC:Up W2 (X1.alloc (Kz [Ez,Iz 0,Ez,Ez,Iz 0,Iz 0,Ez,Ez] 43)):=hC.alloc hC.size _;have hy:=hX;refine E6 hK (Mk.out _ hC) ?_;clear hK K;have kY:CB (X1.alloc (Kz [Ez,Iz 0,Ez,Ez,Iz 0,Iz 0,Ez,Ez] 43)) X1.heap.size [Ez,Iz 0,Ez,Ez,Iz 0,Iz 0,Ez,Ez]:=kY;generalize X1.alloc (Kz [Ez,Iz 0,Ez,Ez,Iz 0,Iz 0,Ez,Ez] 43)=X4 at hC kY ⊢)
     (obtain⟨⟨j0,j1,j2,j3,j4,j5,j6,j7⟩,m0,m1,m2,m3,m4,m5,m6,m7⟩:=kY.c8;have kF:=kY.copy8 (Tz p.nm) (Iz p.k) (Tz p.a) (Tz p.b) (Iz p.n) (Iz p.wi) (Tz p.t) (Tz p.e);have hF:=Db hC hy (Tz p.nm) (Iz p.k) (Tz p.a) (Tz p.b) (Iz p.n) (Iz p.wi) (Tz p.t) (Tz p.e);refine E7 10 rfl (λK hK=>?_);go_simp;refine E6 hK (Mk.out _ hF) ?_;clear hK K j0 j1 j2 j3 j4 j5 j6 j7 m0 m1 m2 m3 m4 m5 m6 m7 kY;(try simp only[Act.put,List.setIfInBounds_toArray,List.set_cons_zero,List.set_cons_succ]);refine F0 (by kernel_rfl) ?_ _;go_wp2_with fail;go_meet;exact⟨_,rfl,kF,hF⟩)
    ·(go_simp;have kY:=F3 X1 [Ez,Iz 0,Ez,Ez,Iz 0,Iz 0,Ez,Ez] 43;replace hC:Up W2 (X1.alloc (Kz [Ez,Iz 0,Ez,Ez,Iz 0,Iz 0,Ez,Ez] 43)):=hC.alloc hC.size _;have hy:=hX;refine E6 hK (Mk.out _ hC) ?_;clear hK K;have kY:CB (X1.alloc (Kz [Ez,Iz 0,Ez,Ez,Iz 0,Iz 0,Ez,Ez] 43)) X1.heap.size [Ez,Iz 0,Ez,Ez,Iz 0,Iz 0,Ez,Ez]:=kY;generalize X1.alloc (Kz [Ez,Iz 0,Ez,Ez,Iz 0,Iz 0,Ez,Ez] 43)=X4 at hC kY ⊢)
     refine E7 6 rfl (λK hK=>?_)
     (go_simp;go_wp2_with (go_at_call 77;refine (Hat.out _ (Hr.out.up hC a7)).mono ?_;rintro e X2 ⟨rfl,hw⟩;obtain rfl:=hw.symm;clear hw);refine E6 hK (Mk.out _ hC) ?_;clear hK K;(refine D6 7 rfl (Mk.out _ hC) ?_);(refine D6 8 rfl (Mk.out _ hC) ?_))
     (obtain⟨⟨j0,j1,j2,j3,j4,j5,j6,j7⟩,m0,m1,m2,m3,m4,m5,m6,m7⟩:=kY.c8;have kF:=kY.copy8 (Tz p.nm) (Iz p.k) (Tz p.a) (Tz p.b) (Iz p.n) (Iz p.wi) (Tz p.t) (Tz p.e);have hF:=Db hC hy (Tz p.nm) (Iz p.k) (Tz p.a) (Tz p.b) (Iz p.n) (Iz p.wi) (Tz p.t) (Tz p.e);refine E7 10 rfl (λK hK=>?_);go_simp;refine E6 hK (Mk.out _ hF) ?_;clear hK K j0 j1 j2 j3 j4 j5 j6 j7 m0 m1 m2 m3 m4 m5 m6 m7 kY;(try simp only[Act.put,List.setIfInBounds_toArray,List.set_cons_zero,List.set_cons_succ]);refine F0 (by kernel_rfl) ?_ _;go_wp2_with fail;go_meet;exact⟨_,rfl,kF,hF⟩)
   case rest =>
    obtain⟨Y,rfl,kY,f7⟩:=hcut;have a0:Up wr wc:=D5 d6 f7;have HHc:=HH.up a0;have d7:=E4 kA a0;have g0:=E4 kR a0;have a5:=E4 Hrow.out a0;have b9:G2 w wc (Vz a3 h.bs.length c3).ownBlock (Vz a4 h.ds.length c4).ownBlock:=hG.trans (.of_below a0 none none) (λk _ h=>by cases h) (λk _ h=>by cases h);obtain⟨-,-,-,-,l4,-⟩:=(kL.up f7 c9).c6;obtain⟨⟨-,-,-,-,-,z5,-,z7⟩,-⟩:=kY.c8;have h6:m<hk.bs.length:=by omega
    clear Mk Hat Hr kL f7 d6 HH kA kR Hrow hG kY hr hv;by_cases hlt:p.wi<=x0.si
    ·have HL2:Hid (V4 (AB hk m p.e) m=V4 h h.bs.length):=by
      have e1:=HL.out;have e2:=WP Hx0.out (by rw[Hph.out];exact hlt);rw[Hph.out] at e2;show _=_
      rw[← e2];exact e1
     have HF:Hid _:=Lp (nm:=p.e) h6;have HO2:Hid (Lq (AB hk m p.e) m):=λj x hj hx=>HO.out j x (by omega) (by rw[← HF.out.2.2.2.2.2 j hj];exact hx);have a6:=PJ hk _ _ _ _ base m x0 p.e wc HHc (B3 hbase b9.size) hT Hx0.out e7 hnb (by omega);rw[HN.out.1,HN.out.2] at a6;obtain⟨e0,e1,e2,e3,e4,e5⟩:=(D7 d7).c6;have Hd:Hid (Aq wc base du hk.ds):=HHc.d;go_upto_region 3 with (go_at_call 187;refine a6.mono ?_;rintro e w5 ⟨⟨tn,bn,xn,dn,rfl,i4,HH5,d3,d4⟩,d9⟩;have d0:=Kh d7 d9 a5 Hd.out (by decide) (by decide);have h7:=Kh g0 d9 a5 Hd.out (by decide) (by decide);clear e0 e1 e2 e3 e4 e5;obtain⟨e0,e1,e2,e3,e4,e5⟩:=(D7 d0).c6;obtain⟨f0,f1,f2,f3,f4,f5⟩:=(D7 d0).f6;obtain⟨t1,d1,t2,d2,i5,e9,-⟩:=HH5.k.parts;simp only[Value.agg.injEq,Array.mk.injEq,List.cons.injEq,and_true] at e9;obtain⟨rfl,rfl⟩:=e9;obtain⟨ax,nx,cx,rfl⟩:∃a n c,xn=Vz a n c:=(by obtain⟨ps,hW,-⟩:=HH5.x;obtain⟨a,c,e⟩:=I7 hW.1;exact⟨a,_,c,e⟩);obtain⟨ad,nd,cd,rfl⟩:∃a n c,dn=Vz a n c:=(by obtain⟨g,c,h9,e,-⟩:=HH5.d;exact⟨_,_,_,e⟩))
     have b0:=Y5 (j:=0) d0 (Iz h.now);have b1:=Y5 (j:=1) b0.1 (Iz h.last);have b2:=Y5 (j:=2) b1.1 (Vz t1 (AB hk m p.e).sh.tg.length d1);have b3:=Y5 (j:=3) b2.1 (Vz t2 (AB hk m p.e).sh.bs.length d2);have b4:=Y5 (j:=4) b3.1 (Vz ax nx cx);have b5:=Y5 (j:=5) b4.1 (Vz ad nd cd);have d8:=G3 w5 w.heap.size (Iz h.now) (Iz h.last) (Vz t1 (AB hk m p.e).sh.tg.length d1) (Vz t2 (AB hk m p.e).sh.bs.length d2) (Vz ax nx cx) (Vz ad nd cd);have HH8:=HH5.box d0 d8;have i1:=E5 h7 d8 (by simp[Value.ownBlock]);have i2:=b5.1;have h8:G2 w w5 (Vz a3 h.bs.length c3).ownBlock (Vz a4 h.ds.length c4).ownBlock:=b9.trans d9 (λk hk e=>.inl (Hx.out.1.old k hk e)) (λk hk e=>.inr (Hx.out.2.old k hk e));have i3:=h8.trans (.of1 d8 none) (λk hk e=>by cases e;omega) (λk hk e=>by cases e);have Hx2:Hid (P0 w (Vz a3 h.bs.length c3) (Vz ax nx cx)/\P0 w (Vz a4 h.ds.length c4) (Vz ad nd cd)):=⟨Hx.out.1.trans b9.size d3,Hx.out.2.trans b9.size d4⟩;clear e0 e1 e2 e3 e4 e5 f0 f1 f2 f3 f4 f5 b0 b1 b2 b3 b4 b5 d8 HH5 d0 h7 d7 g0 HHc a5 h8 d9 b9 a6 d3 d4 Hd l4 z5 z7;generalize (((((w5.setCell ⟨w.heap.size,0,none⟩ (Iz h.now)).setCell ⟨w.heap.size,1,none⟩ (Iz h.last)).setCell ⟨w.heap.size,2,none⟩ (Vz t1 (AB hk m p.e).sh.tg.length d1)).setCell ⟨w.heap.size,3,none⟩ (Vz t2 (AB hk m p.e).sh.bs.length d2)).setCell ⟨w.heap.size,4,none⟩ (Vz ax nx cx)).setCell ⟨w.heap.size,5,none⟩ (Vz ad nd cd)=W8 at *;clear HO HL g7;go_wp2_with fail;go_roundw
     case rel =>
      obtain⟨g1,g2,g3,g4,g5,-⟩:=HF.out;exact⟨m,AB hk m p.e,_,_,_,_,by first|rfl|rw[c7],HL2.out,g4,by omega,g3 hnd,HO2.out,g1.trans HN.out.1,g2.trans HN.out.2,i4,i2,i1,HH8,Hx2.out.1,Hx2.out.2,i3⟩
     case measure=>simp[intOf]
    ·have HL2:Hid (V4 hk m=V4 h h.bs.length):=by
      have e1:=HL.out;have e2:=Yb Hx0.out (by rw[Hph.out];exact hlt);show _=_
      rw[V4,e2] at e1;exact e1
     have HO2:Hid (Lq hk m):=λj x hj hx=>HO.out j x (by omega) hx;clear HO HL g7;go_wp2_with fail;go_roundw
     case rel=>exact⟨m,hk,tu,bu,_,du,by first|rfl|rw[c7],HL2.out,Nat.le_of_lt h6,hnb,hnd,HO2.out,HN.out.1,HN.out.2,hT,d7,g0,HHc,Hx.out.1,Hx.out.2,b9⟩
     case measure=>simp[intOf]
theorem F6.at(H:F6 h):Lq h h.bs.length:=λ_ _ _ hx=>⟨(H.batch hx).2.1,(H.batch hx).2.2.2.2.1⟩
def Bh(h:House)(k:Nat):House:={h with now:=h.now+1,bs:=(h.bs.take k).map Bg++h.bs.drop k}
theorem PK(hk:k<h.bs.length):(Bh h k).bs[k]?=h.bs[k]?:=by
 show ((h.bs.take k).map Bg++h.bs.drop k)[k]?=_
 have hl:((h.bs.take k).map Bg).length=k:=by rw[B5,B8];omega
 rw[C8 (by omega),hl,Nat.sub_self,List.getElem?_drop,Nat.add_zero]
theorem Mh(hx:h.bs[k]?=some x):(Bh h k).bs.set k (Bg x)=(Bh h (k+1)).bs:=by
 obtain⟨hk,rfl⟩:=A3.1 hx;show ((h.bs.take k).map Bg++h.bs.drop k).set k _=(h.bs.take (k+1)).map Bg++h.bs.drop (k+1)
 have hl:((h.bs.take k).map Bg).length=k:=by rw[B5,B8];omega
 rw[List.set_append_right _ _ (by omega),hl,Nat.sub_self,A8 hk,List.map_append,List.append_assoc,D4 hk];rfl
theorem UX(h:House)(k:Nat):(Bh h k).bs.length=h.bs.length:=by
 show ((h.bs.take k).map Bg++h.bs.drop k).length=_
 rw[B0,B5,B8,A9];omega
theorem SS(hx:h.bs[k]?=some x)(hs:¬0<=x.si):Bh h (k+1)=Bh h k:=by
 have h1:=Mh hx;have h2:Bg x=x:=by unfold Bg;rw[if_neg hs]
 rw[h2] at h1
 have h3:(Bh h k).bs.set k x=(Bh h k).bs:=by
  obtain⟨hk,e⟩:=A3.1 hx;have h4:=PK hk;rw[hx] at h4;obtain⟨a0,e2⟩:=A3.1 h4;rw[← e2];exact List.set_getElem_self a0
 rw[h3] at h1;show (⟨_,_,_,_,_⟩:House)=_
 unfold Bh at h1 ⊢
 dsimp only at h1 ⊢
 rw[h1]
theorem UY(h:House):Bh h h.bs.length=Cx h:=by
 unfold Bh Cx;rw[List.take_length,List.drop_length,List.append_nil]
theorem WQ(H:F6 h):Lq (Cx h) (Cx h).bs.length:=λj x _ hx=>by
 have hx':(h.bs.map Bg)[j]?=some x:=hx;rw[B1,B6] at hx';obtain⟨y,hy,rfl⟩:=hx';have h1:=(H.batch hy).2.1;have h2:=(H.batch hy).2.2.2.2.1;unfold Bg;split
 ·exact⟨h1,h2⟩
 ·exact⟨h1,h2⟩
def Il(h:House)(cd:Int)(h':House):Prop :=
 (¬F6 h/\cd=1/\h'=N9)∨(F6 h/\100000<=h.now/\cd=7/\h'=h)∨
 (F6 h/\¬100000<=h.now/\cd=0/\S3 (V4 (Cx h) h.bs.length) (V4 (Cx h) h.bs.length).bs.length h')
theorem ST:∀{k:Nat},k<=h.bs.length->(V4 h k).now=h.now/\(V4 h k).last=h.last/\(h.ds.length<=20->(V4 h k).ds.length<=20)/\(V4 h k).bs.length<=h.bs.length:=by
 intro k;induction k generalizing h with
 | zero=>exact λ_=>⟨rfl,rfl,λh=>h,A4 _⟩
 | succ k ih =>
  intro hk;have a0:k<h.bs.length:=by omega
  have hf:(Ci h k).now=h.now/\(Ci h k).last=h.last/\(h.ds.length<=20->(Ci h k).ds.length<=20)/\k<=(Ci h k).bs.length/\(Ci h k).bs.length<=h.bs.length:=by
   unfold Ci;rw[A0 a0];dsimp only
   split
   ·obtain⟨g1,g2,g3,g4,g5,-⟩:=Lp (nm:=(AF (h.bs[k]).ps (h.bs[k]).ad).e) a0;exact⟨g1,g2,g3,g4,g5⟩
   ·exact⟨rfl,rfl,λh=>h,by omega,A4 _⟩
  obtain⟨g1,g2,g3,g4,g5⟩:=hf;obtain⟨i1,i2,i3,i4⟩:=ih g4;exact⟨i1.trans g1,i2.trans g2,λh=>i3 (g3 h),B3 i4 g5⟩
theorem UZ(h:House)(tv bv xv dv:Value)(w:World)(H:HV w h tv bv xv dv):
  Calls prog 156 #[.agg #[Iz h.now,Iz h.last,tv,bv,xv,dv]] w λe w'=>(∃h' tu bu xu du cd,e=.returned (.tuple #[.agg #[Iz h'.now,Iz h'.last,tu,bu,xu,du],Iz cd])/\Il h cd h'/\Gl h'/\HX w' w.heap.size h' tu bu xu du)/\Up w w':=by
 obtain⟨a1,c1,a2,c2,a3,c3,a4,c4,rfl,rfl,rfl,rfl⟩:=H.shapes;obtain⟨W1,g2,kA,kR,b0⟩:∃W1,(w.alloc (.cells (Hcz h a1 c1 a2 c2 a3 c3 a4 c4).toArray 30)).alloc (Kz [Iz 0,Iz 0,Nz,Nz,Nz,Nz] 30)=W1/\W1.ownsRow w.heap.size 30 6 (Sz w.heap.size 1 1) 1 (Hcz h a1 c1 a2 c2 a3 c3 a4 c4)/\W1.ownsRow w.heap.size 30 6 (Sz (w.heap.size+1) 1 1) 1 [Iz 0,Iz 0,Nz,Nz,Nz,Nz]/\Up w W1:=⟨_,rfl,DM w (Hcz h a1 c1 a2 c2 a3 c3 a4 c4) [Iz 0,Iz 0,Nz,Nz,Nz,Nz] rfl rfl⟩;go_in;go_upto_region 1 with fail;try rw[g2]
 clear g2;have H1:=H.up b0;obtain⟨e0,e1,e2,e3,e4,e5⟩:=(D7 kA).c6;have a0:=Ep h _ _ _ _ W1 H1;by_cases hk:F6 h
 case neg =>
  rw[I5 hk] at a0;have HI:Hid (Il h 1 N9):=.inl ⟨hk,rfl,rfl⟩;go_upto_region 2 with (go_at_call 9;refine a0.mono ?_;rintro e w2 ⟨rfl,a9⟩)
  have b3:=E4 kR a9;obtain⟨y0,y1,y2,y3,y4,y5⟩:=(D7 b3).c6;obtain⟨f0,f1,f2,f3,f4,f5⟩:=(D7 b3).f6;have d1:=D5 b0 a9;clear a0 a9;go_wp2_with fail;refine R7 results156 underlying30 rfl G6 (D7 b3) rfl rfl ?_;exact⟨⟨N9,_,_,_,_,1,rfl,HI.out,Ln,MH _ _⟩,I9 d1 (by omega) _ _ _ _ _ _⟩
 have HK:Hid (F6 h):=hk;obtain⟨c5,k6,c7⟩:=hk.tiny;rw[L9 hk] at a0;clear hk;go_upto_region 3 with (go_at_call 9;refine a0.mono ?_;rintro e w2 ⟨rfl,a9⟩)
 have e6:=E4 kA a9;have b3:=E4 kR a9;have d1:=D5 b0 a9;have H2:=H1.up a9;clear a0 a9 e0 e1 e2 e3 e4 e5 kA kR H1 H b0;obtain⟨e0,e1,e2,e3,e4,e5⟩:=(D7 e6).c6;have b1:=Cv h _ _ _ _ w2 H2 (by have:=c5.1;omega) (by have:=c5.2.1;omega) (λy hy=>by have:=c5.2.2 y hy;omega) (by omega) (by omega);go_upto_region 4 with (go_at_call 25;refine b1.mono ?_;rintro e w3 ⟨⟨tu,bu,xu,du,rfl,H3⟩,g0⟩;obtain⟨p1,q1,p2,q2,p3,q3,p4,q4,rfl,rfl,rfl,rfl⟩:=H3.v.shapes)
 obtain⟨W4,g3,kX,c9⟩:∃W4,w3.alloc (.cells (Hcz h p1 q1 p2 q2 p3 q3 p4 q4).toArray 30)=W4/\W4.ownsRow w3.heap.size 30 6 (Sz w3.heap.size 1 1) 1 (Hcz h p1 q1 p2 q2 p3 q3 p4 q4)/\Up w3 W4:=⟨_,rfl,C0 w3 _ 1 (A4 _) (by unfold maxLen;omega) rfl,(A5 _ _).alloc (A4 _) _⟩;try rw[g3]
 have a7:=D5 g0 c9;have H4:=H3.up c9;have g8:=E4 e6 a7;have b9:=E4 b3 a7;have e7:=D5 d1 a7;have l0:w.heap.size+1<w2.heap.size:=(b3.lt _ rfl).2;have l1:=g0.size;have l2:=c9.size;clear g3 b1 e0 e1 e2 e3 e4 e5 H3 H2 g0 c9 a7 e6 b3 d1;obtain⟨e0,-⟩:=(D7 g8).c6;obtain⟨i3,i4,i5,i6,i7,i8⟩:=(D7 kX).c6;obtain⟨i9,j0,j1,j2,j3,j4⟩:=(D7 kX).f6;by_cases hnow:100000<=h.now
 ·have HI:Hid (Il h 7 h):=.inr (.inl ⟨HK.out,hnow,rfl,rfl⟩);obtain⟨y0,y1,y2,y3,y4,y5⟩:=(D7 b9).c6;obtain⟨f0,f1,f2,f3,f4,f5⟩:=(D7 b9).f6;go_wp2_with fail;refine R7 results156 underlying30 rfl G6 (D7 b9) rfl rfl ?_;have e8:=G3 W4 (w.heap.size+1) (Iz h.now) (Iz h.last) (Vz p1 h.sh.tg.length q1) (Vz p2 h.sh.bs.length q2) (Vz p3 h.bs.length q3) (Vz p4 h.ds.length q4);exact⟨⟨h,_,_,_,_,7,rfl,HI.out,⟨c5,by omega,by omega⟩,HX.low (.inl (H4.box b9 e8)) (by omega)⟩,I9 e7 (by omega) _ _ _ _ _ _⟩
 ·have l3:0<=h.now:=HK.out.1.1;have l4:IntKind.i64.wrap (h.now+1)=h.now+1:=by rw[IntKind.wrap_i64];omega
  have st:=B4 kX 0 (Iz (h.now+1));have e9:W4.grownBy (W4.setCell ⟨w3.heap.size,0,none⟩ (Iz (h.now+1))) (Vz (some ⟨w3.heap.size,0,none⟩) 1 1).ownBlock:=st.2
  obtain⟨W6,g4,g5,d0,H6,c8⟩:∃W6,W4.setCell ⟨w3.heap.size,0,none⟩ (Iz (h.now+1))=W6/\W6.ownsRow w3.heap.size 30 6 (Sz w3.heap.size 1 1) 1 [Iz (h.now+1),Iz h.last,Vz p1 h.sh.tg.length q1,Vz p2 h.sh.bs.length q2,Vz p3 h.bs.length q3,Vz p4 h.ds.length q4]/\W6.ownsRow w.heap.size 30 6 (Sz (w.heap.size+1) 1 1) 1 [Iz 0,Iz 0,Nz,Nz,Nz,Nz]/\HW W6 w2.heap.size (Bh h 0) (Vz p1 h.sh.tg.length q1) (Vz p2 h.sh.bs.length q2) (Vz p3 h.bs.length q3) (Vz p4 h.ds.length q4)/\Up w W6 :=
   ⟨_,rfl,st.1,E5 b9 e9 (by simp[Value.ownBlock];omega),(H4.box kX e9).as rfl (by simp[Bh]) rfl,e7.setCell (p:=⟨w3.heap.size,0,none⟩) (by show _<=w3.heap.size;omega) _⟩
  go_upto_region 8 with fail;try rw[g4]
  clear g4 st e9 kX b9 g8 H4 e7 e0 i3 i4 i5 i6 i7 i8 i9 j0 j1 j2 j3 j4;(try dsimp only[Iz,Sz,Sy,Nz,Vz,Tz,Ez,Pz]);go_loopw [5] (λi w'=>∃k:Nat,k<=h.bs.length/\i=.int .i64 k/\w'.ownsRow w3.heap.size 30 6 (Sz w3.heap.size 1 1) 1 [Iz (h.now+1),Iz h.last,Vz p1 h.sh.tg.length q1,Vz p2 h.sh.bs.length q2,Vz p3 h.bs.length q3,Vz p4 h.ds.length q4]/\w'.ownsRow w.heap.size 30 6 (Sz (w.heap.size+1) 1 1) 1 [Iz 0,Iz 0,Nz,Nz,Nz,Nz]/\HW w' w2.heap.size (Bh h k) (Vz p1 h.sh.tg.length q1) (Vz p2 h.sh.bs.length q2) (Vz p3 h.bs.length q3) (Vz p4 h.ds.length q4)/\Up w w') (λi _=>h.bs.length-(intOf i).toNat)
  case atStart=>exact⟨0,Nat.zero_le _,rfl,g5,d0,H6,c8⟩
  case round =>
   clear g5 d0 H6 c8;obtain⟨k,k7,rfl,kX,kR,HH,hB⟩:=hrel;by_cases hp:k<h.bs.length
   ·obtain⟨ps,hW,hm⟩:=HH.x;have g9:ps.length=h.bs.length:=by have:=congrArg List.length hm;rwa [B5,UX] at this
    obtain⟨g,k8,eg⟩:=I6 hW.1 (by omega);simp only[Value.slice.injEq] at eg;obtain⟨rfl,-,rfl⟩:=eg;have a6:=hW.1;rw[g9] at a6;obtain⟨⟨x0,ru,su⟩,d8⟩:∃p,ps[k]?=some p:=⟨ps[k]'(by omega),A0 _⟩;have f7:(Bh h k).bs[k]?=some x0:=by rw[← hm,B1,d8];rfl
    have h0:h.bs[k]?=some x0:=by rw[← PK hp];exact f7
    have Hx0:Hid (h.bs[k]?=some x0):=h0;have Hxk:Hid ((Bh h k).bs[k]?=some x0):=f7;have q4:At wr g (k*6+4) (Iz x0.si):=(V2 S6 a6 d8) 4 _ rfl;have f4:=a6.frozenAt (k*6+4);have e4:=(D7 kX).c6.2.2.2.2.1;have j7:g<wr.heap.size:=(a6.lt g rfl).2;clear d8 hm g9 f7 h0 hW;by_cases hsi:0<=x0.si
    ·have d2:=HK.out.batch Hx0.out
     have l5:x0.si<1000:=by
      have h1:=d2.2.2.2.2.2.2;have h2:=(Kc (FN d2.2.1 (DL d2.2.2.2.2.1))).2;omega
     have l6:IntKind.i64.wrap (x0.si+1)=x0.si+1:=by rw[IntKind.wrap_i64];omega
     clear d2;go_upto_region 11 with fail;have a5:At wr.drew w3.heap.size 4 (Sz g h.bs.length q3)/\At wr.drew g (k*6+4) (Iz x0.si):=⟨e4,q4⟩;have d3:=Bp kX;have d4:=Bp kR;have c0:=Bp a6;have f8:=HH.up (A5 _ _).drew;have b0:=hB.drew;have h4:World.frozen? wr.drew ⟨g,k*6+4,none⟩=false:=f4;clear e4 q4 f4;refine F5 12 (λw'=>At w' w3.heap.size 4 (Sz g h.bs.length q3)/\At w' g (k*6+4) (Iz x0.si)) (by kernel_rfl) ?_;generalize wr.drew=X1 at a5 d3 d4 c0 f8 b0 h4 ⊢
     refine D6 0 rfl a5 ?_;refine D6 1 rfl a5 ?_;refine D6 2 rfl a5 ?_;refine D6 3 rfl a5 ?_;refine D6 4 rfl a5 ?_;refine D6 5 rfl a5 ?_;refine D6 6 rfl a5 ?_;refine D6 7 rfl a5 ?_;refine D6 8 rfl a5 ?_;refine D6 9 rfl a5 ?_;refine E7 10 rfl (λK hK=>?_);go_simp;refine E6 hK a5 ?_;clear hK K;refine D6 11 rfl a5 ?_;refine E7 12 rfl (λK hK=>?_);have j8:=a5.2;go_simp;refine Bf hK ?_;clear hK K;refine F0 (by kernel_rfl) ?_ _;have f9:X1.grownBy (X1.setCell ⟨g,k*6+4,none⟩ (Iz (x0.si+1))) (Vz (some ⟨g,0,none⟩) h.bs.length q3).ownBlock:=(B4 c0 _ _).2;have HT:Hid (Bg x0={x0 with si:=x0.si+1}):=by show _=_;unfold Bg;rw[if_pos hsi]
     have HH8:HW (X1.setCell ⟨g,k*6+4,none⟩ (Iz (x0.si+1))) w2.heap.size (Bh h (k+1)) (Vz p1 h.sh.tg.length q1) (Vz p2 h.sh.bs.length q2) (Sz g h.bs.length q3) (Vz p4 h.ds.length q4):=(f8.since Hxk.out (x0.si+1)).as rfl (by rw[← Mh Hx0.out,HT.out]) rfl;have j9:=E5 d3 f9 (E9 d3 c0 (by decide));have k0:=E5 d4 f9 (E9 d4 c0 (by decide));have k1:Up w (X1.setCell ⟨g,k*6+4,none⟩ (Iz (x0.si+1))):=b0.setCell (p:=⟨g,k*6+4,none⟩) (by have:=(c0.lt g rfl).1;show _<=g;omega) _;clear a5 d3 d4 c0 f8 b0 h4 j8 f9 kX kR HH hB a6;go_wp2_with fail;go_roundw
     case rel=>exact⟨k+1,by omega,by go_num,j9,k0,HH8,k1⟩
     case measure=>simp[intOf];omega
    ·have HT:Hid (Bh h (k+1)=Bh h k):=SS Hx0.out hsi;go_wp2_with fail;go_roundw
     case rel=>exact⟨k+1,by omega,by go_num,kX,kR,by rw[HT.out];exact HH,hB⟩
     case measure=>simp[intOf];omega
   ·obtain rfl:k=h.bs.length:=by omega
    rw[UY] at HH;obtain⟨e0,e1,e2,e3,e4,e5⟩:=(D7 kX).c6;have a8:(Cx h).bs.length=h.bs.length:=by simp[Cx]
    have hz:=hB.size;have l7:w3.heap.size<wr.heap.size:=(kX.lt w3.heap.size rfl).2;have h5:w2.heap.size<=wr.heap.size:=by omega
    have b2:=SR (Cx h) _ _ _ _ w2.heap.size wr HH h5 c5 (WQ HK.out) (by rw[a8];omega) c7;rw[a8] at b2;obtain⟨b4,b8,g6,g7⟩:=ST (h:=Cx h) (k:=h.bs.length) (by rw[a8];exact A4 _);rw[a8] at g7;have HTI:Hid (∀h',S3 (V4 (Cx h) h.bs.length) (V4 (Cx h) h.bs.length).bs.length h'->Il h 0 h'):=λh' ha=>.inr (.inr ⟨HK.out,by omega,rfl,ha⟩);generalize V4 (Cx h) h.bs.length=L at *;have b4:L.now=h.now+1:=b4;have b8:L.last=h.last:=b8;have h7:L.ds.length<=20:=g6 c7
    have HAsk:Hid (∀(w5:World)(t5 b5 x5 d5:Value),HW w5 w2.heap.size L t5 b5 x5 d5->w2.heap.size<=w5.heap.size->T8 L.sh->Calls prog 32 #[.agg #[Iz (h.now+1),Iz h.last,t5,b5,x5,d5]] w5 λe w'=>(∃h' tu bu,e=.returned (.agg #[Iz (h.now+1),Iz h.last,tu,bu,x5,d5])/\S3 L L.bs.length h'/\T8 h'.sh/\HW w' w2.heap.size h' tu bu x5 d5)/\w5.grownBy w' x5.ownBlock):=λw5 t5 b5 x5 d5 h1 h2 h3=>by
     have:=Jg L t5 b5 x5 d5 w2.heap.size w5 h1 h2 h3;rw[b4,b8] at this;exact this
    have HCop:Hid (∀(w6:World)(h':House)(t5 b5 x5 d5:Value),HV w6 h' t5 b5 x5 d5->S3 L L.bs.length h'->T8 h'.sh->Gl h'/\Calls prog 25 #[.agg #[Iz (h.now+1),Iz h.last,t5,b5,x5,d5]] w6 λe w'=>(∃tu bu xu du,e=.returned (.agg #[Iz h'.now,Iz h'.last,tu,bu,xu,du])/\HW w' w6.heap.size h' tu bu xu du)/\Up w6 w'):=λw6 h' t5 b5 x5 d5 h1 h2 h3=>by
     obtain⟨s1,s2,s3,s4⟩:=h2.same;have hd:h'.ds.length<=20:=by rw[s3];exact h7
     refine⟨⟨h3,by omega,by omega⟩,?_⟩;have:=Cv h' t5 b5 x5 d5 w6 h1 (by have:=h3.1;omega) (by have:=h3.2.1;omega) (λy hy=>by have:=h3.2.2 y hy;omega) (by omega) (by omega);rw[s1,s2,b4,b8] at this;rw[s1,s2,b4,b8];exact this
    obtain⟨ps,hW,-⟩:=HH.x;have Hrow:Hid (wr.ownsRow w2.heap.size 40 6 (Vz p3 h.bs.length q3) ps.length (F8 Q7 ps)):=hW.1;have Hd:Hid (Aq wr w2.heap.size (Vz p4 h.ds.length q4) (Cx h).ds):=HH.d;have Hxb:Hid _:=HH.xb;have Hdb:Hid _:=HH.db;clear hW b4 b8 g6 g7 h7
    go_wp2_with (first
     | (go_at_call 188;refine b2.mono ?_;rintro e w5 ⟨⟨t5,b5,x5,d5,rfl,k4,H5,-,-⟩,g1⟩;have h8:=Kh kR g1 Hrow.out Hd.out (by decide) (by decide);have k2:=hB.trans (g1.below hz (λk e=>by have:=Hxb.out k e;omega) (λk e=>by have:=Hdb.out k e;omega));have h9:=g1.size)
     | (go_at_call 32;refine (HAsk.out w5 t5 b5 x5 d5 H5 (B3 h5 h9) k4).mono ?_;rintro e w6 ⟨⟨h6,t6,b6,rfl,i0,k5,H6⟩,i1⟩;obtain⟨k9,j5,-⟩:=H5.x;have d0:=E5 h8 i1 (E9 h8 j5.1 (by decide));have c8:=k2.trans (Gm i1 (B3 hz h9) (λk e=>by have:=H5.xb k e;omega)))
     | (go_at_call 25;obtain⟨d9,j6⟩:=HCop.out w6 h6 t6 b6 x5 d5 H6.v i0 k5;refine j6.mono ?_;rintro e w7 ⟨⟨t7,b7,x7,d7,rfl,H7⟩,i2⟩;have d6:=E4 d0 i2;have k3:=D5 c8 i2;obtain⟨u1,v1,u2,v2,u3,v3,u4,v4,rfl,rfl,rfl,rfl⟩:=H7.v.shapes;obtain⟨y0,y1,y2,y3,y4,y5⟩:=(D7 d6).c6;obtain⟨f0,f1,f2,f3,f4,f5⟩:=(D7 d6).f6))
    refine R7 results156 underlying30 rfl G6 (D7 d6) rfl rfl ?_;have e8:=G3 w7 (w.heap.size+1) (Iz h6.now) (Iz h6.last) (Vz u1 h6.sh.tg.length v1) (Vz u2 h6.sh.bs.length v2) (Vz u3 h6.bs.length v3) (Vz u4 h6.ds.length v4);exact⟨⟨h6,_,_,_,_,0,rfl,HTI.out h6 i0,d9,HX.low (.inl (H7.box d6 e8)) c8.size⟩,I9 k3 (by omega) _ _ _ _ _ _⟩
end Go.Proofs.YtmonodehegcfhaaGreatDoor
