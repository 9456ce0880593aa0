/- Houses in memory. -/
import Derived.Test.YtaffjphkobhagaaGreatDoorJ28
import Derived.Test.YtaffjphkobhagaaGreatDoorU8
set_option maxRecDepth 20000
set_option maxHeartbeats 8000000
namespace Go.Proofs.YtaffjphkobhagaaGreatDoor
open Proofs.Tryz
open Go.RowKit
variable{h:House}{ds:List Done}{bs:List Rb}{vs:List Value}{b o q r:Nat}{a:Option Addr}{x:Rb}{bv dv rv sv tv v x0 x1 x10 x11 x2 x3 x4 x5 x6 x7 x8 x9 xv:Value}{W w w' w0:World}
def Mi(w:World)(b o:Nat)(x:Rb):Prop:=∃rv sv,w.rangeAt b o [.string x.nm,rv,sv,.string x.ad,.int .i64 x.si,.int .i64 x.st]/\CU w x rv sv
def JC(w:World)(b o:Nat)(bs:List Rb):Prop:=∀(i:Nat)(x:Rb),bs[i]?=some x->Mi w b (o+i*6) x
def Pt(w:World)(v:Value)(bs:List Rb):Prop:=∃a c,v=.slice a bs.length c/\bs.length<=maxLen/\(0<bs.length->∃b o,a=some ⟨b,o,none⟩/\JC w b o bs/\b<w.heap.size)
def DU(w:World)(b o:Nat)(ds:List Done):Prop:=∀(i:Nat)(d:Done),ds[i]?=some d->w.rangeAt b (o+i*3) [.string d.nm,.int .i64 d.e,.int .i64 d.t]/\d.nm.size<=maxLen
def EO(w:World)(v:Value)(ds:List Done):Prop:=∃a c,v=.slice a ds.length c/\ds.length<=maxLen/\(0<ds.length->∃b o,a=some ⟨b,o,none⟩/\DU w b o ds/\b<w.heap.size)
theorem Gi{B:Nat}(h:w.rangeAt b o vs)(hb:Below B w w')(hB:b<B):w'.rangeAt b o vs:=λj v hv=>by
 rw[hb.cell hB];exact h j v hv
theorem Mi.up(h:Mi w b o x)(hb:Up w w')(hB:b<w.heap.size):Mi w' b o x:=by
 obtain⟨rv,sv,h1,h2⟩:=h;exact⟨rv,sv,Gi h1 hb hB,h2.up hb⟩
theorem JC.up(h:JC w b o bs)(hb:Up w w')(hB:b<w.heap.size):JC w' b o bs:=λi x hx=>(h i x hx).up hb hB
theorem JC.at(h:JC w b o bs){k:Nat}(hk):Mi w b (o+k*6) bs[k]:=h k _ (A0 hk)
theorem Pt.up(h:Pt w v bs)(hb:Up w w'):Pt w' v bs:=by
 obtain⟨a,c,rfl,h1,h2⟩:=h;exact⟨a,c,rfl,h1,λhp=>by obtain⟨b,o,e,hr,a0⟩:=h2 hp;exact⟨b,o,e,hr.up hb a0,A1 a0 hb.size⟩⟩
theorem DU.up(h:DU w b o ds)(hb:Up w w')(hB:b<w.heap.size):DU w' b o ds:=λi d hd=>⟨Gi (h i d hd).1 hb hB,(h i d hd).2⟩
theorem EO.up(h:EO w v ds)(hb:Up w w'):EO w' v ds:=by
 obtain⟨a,c,rfl,h1,h2⟩:=h;exact⟨a,c,rfl,h1,λhp=>by obtain⟨b,o,e,hr,a0⟩:=h2 hp;exact⟨b,o,e,hr.up hb a0,A1 a0 hb.size⟩⟩
structure HV (w:World) (h:House) (tv bv xv dv:Value):Prop where
 t:Ls w tv h.sh.tg
 b:Bs w bv h.sh.bs
 x:Pt w xv h.bs
 d:EO w dv h.ds
theorem HV.up(H:HV w h tv bv xv dv)(hb:Up w w'):HV w' h tv bv xv dv:=⟨H.t.up hb,H.b.up hb,H.x.up hb,H.d.up hb⟩
theorem HV.shapes(H:HV w h tv bv xv dv):∃a1 c1 a2 c2 a3 c3 a4 c4,tv=Vz a1 h.sh.tg.length c1/\bv=Vz a2 h.sh.bs.length c2/\xv=Vz a3 h.bs.length c3/\dv=Vz a4 h.ds.length c4:=by
 obtain⟨a1,c1,e1,-⟩:=H.t;obtain⟨a2,c2,e2,-⟩:=H.b;obtain⟨a3,c3,e3,-⟩:=H.x;obtain⟨a4,c4,e4,-⟩:=H.d;grind
theorem HV.book(H:HV w h tv bv xv dv):Z5 w (.agg #[tv,bv]) h.sh:=⟨tv,bv,rfl,H.t,H.b⟩
theorem Aal(bs:List Rb)(k:Nat)(hk:k<bs.length):G5 (bs.take (k+1))=G5 (bs.take k)++[(bs[k]).nm]:=by
 unfold G5;rw[A7 hk,List.map_append];rfl
theorem Pt.inv(h:Pt w v bs){n c:Nat}(e:v=Vz a n c):bs.length<=maxLen/\(0<bs.length->∃b o,a=some ⟨b,o,none⟩/\JC w b o bs/\b<w.heap.size):=by
 obtain⟨a',c',e',h1,h2⟩:=h;rw[e'] at e;simp only[Value.slice.injEq] at e;obtain⟨rfl,-,-⟩:=e;exact⟨h1,h2⟩
theorem Mi.open(h:Mi w b o x):∃p q c g r d,(AS w b o (Tz x.nm)/\AS w b (o+1) (Sx p q x.ps.length c)/\AS w b (o+2) (Sx g r x.sl.length d)/\AS w b (o+3) (Tz x.ad)/\AS w b (o+4) (Iz x.si)/\AS w b (o+5) (Iz x.st))/\CU w x (Sx p q x.ps.length c) (Sx g r x.sl.length d):=by
 obtain⟨rv,sv,hr,hv⟩:=h;obtain⟨p,q,c,rfl,-⟩:=hv.r;obtain⟨g,r,d,rfl,-⟩:=hv.s;exact⟨p,q,c,g,r,d,⟨hr 0 _ rfl,hr 1 _ rfl,hr 2 _ rfl,hr 3 _ rfl,hr 4 _ rfl,hr 5 _ rfl⟩,hv⟩
theorem Gj(h:Up W w0/\AS w0 q 0 x0/\AS w0 q 1 x1/\AS w0 q 2 x2/\AS w0 q 3 x3/\AS w0 q 4 x4/\AS w0 q 5 x5/\AS w0 r 0 x6/\AS w0 r 1 x7/\AS w0 r 2 x8/\AS w0 r 3 x9/\AS w0 r 4 x10/\AS w0 r 5 x11):Up W w0.drew/\w0.drew.cell? ⟨q,0,none⟩=some x0/\w0.drew.cell? ⟨q,1,none⟩=some x1/\w0.drew.cell? ⟨q,2,none⟩=some x2/\w0.drew.cell? ⟨q,3,none⟩=some x3/\w0.drew.cell? ⟨q,4,none⟩=some x4/\w0.drew.cell? ⟨q,5,none⟩=some x5/\w0.drew.cell? ⟨r,0,none⟩=some x6/\w0.drew.cell? ⟨r,1,none⟩=some x7/\w0.drew.cell? ⟨r,2,none⟩=some x8/\w0.drew.cell? ⟨r,3,none⟩=some x9/\w0.drew.cell? ⟨r,4,none⟩=some x10/\w0.drew.cell? ⟨r,5,none⟩=some x11 :=
 ⟨h.1.drew,h.2⟩
theorem Gk{w1:World}(hq:q<W.heap.size)(hr:r<W.heap.size)(h:Up W w0/\AS w0 q 0 x0/\AS w0 q 1 x1/\AS w0 q 2 x2/\AS w0 q 3 x3/\AS w0 q 4 x4/\AS w0 q 5 x5/\AS w0 r 0 x6/\AS w0 r 1 x7/\AS w0 r 2 x8/\AS w0 r 3 x9/\AS w0 r 4 x10/\AS w0 r 5 x11)(hB:Up w0 w1):Up W w1/\AS w1 q 0 x0/\AS w1 q 1 x1/\AS w1 q 2 x2/\AS w1 q 3 x3/\AS w1 q 4 x4/\AS w1 q 5 x5/\AS w1 r 0 x6/\AS w1 r 1 x7/\AS w1 r 2 x8/\AS w1 r 3 x9/\AS w1 r 4 x10/\AS w1 r 5 x11:=by
 obtain⟨h0,a0,a1,a2,a3,a4,a5,a6,a7,a8,a9,b0,b1⟩:=h;have lq:q<w0.heap.size:=A1 hq h0.size;have lr:r<w0.heap.size:=A1 hr h0.size;exact⟨D3 h0 hB,(hB.cell (p:=⟨q,0,none⟩) lq).trans a0,(hB.cell (p:=⟨q,1,none⟩) lq).trans a1,(hB.cell (p:=⟨q,2,none⟩) lq).trans a2,(hB.cell (p:=⟨q,3,none⟩) lq).trans a3,(hB.cell (p:=⟨q,4,none⟩) lq).trans a4,(hB.cell (p:=⟨q,5,none⟩) lq).trans a5,(hB.cell (p:=⟨r,0,none⟩) lr).trans a6,(hB.cell (p:=⟨r,1,none⟩) lr).trans a7,(hB.cell (p:=⟨r,2,none⟩) lr).trans a8,(hB.cell (p:=⟨r,3,none⟩) lr).trans a9,(hB.cell (p:=⟨r,4,none⟩) lr).trans b0,(hB.cell (p:=⟨r,5,none⟩) lr).trans b1⟩
theorem IH(h:CU w x rv sv)(nm:BA):∀s∈K5 x nm,s.size<=maxLen:=by
 by_cases hk:I7 x
 .rw[HW hk];intro s hs;have h1:=((Jq _ _).2 s.toList).1 (Df.2 hs);simp only[D7,List.mem_map] at h1;obtain⟨_,⟨t,_,rfl⟩,e⟩:=h1;rw[← Aw e];unfold O9;split
  .rename_i y hy;exact (h.zs y (List.mem_of_find?_eq_some hy)).2
  .exact Nat.zero_le _
 .rw[Ia hk];grind
theorem LG(h:CU w x rv sv):∀s∈R6 x,s.size<=maxLen:=by
 by_cases hk:I7 x
 .rw[Mg hk];intro s hs;have h1:=((Jq _ _).2 s.toList).1 (Df.2 hs);simp only[D7,List.mem_map] at h1;obtain⟨_,⟨t,_,rfl⟩,e⟩:=h1;rw[← Aw e];unfold O9;split
  .rename_i y hy;exact (h.zs y (List.mem_of_find?_eq_some hy)).2
  .exact Nat.zero_le _
 .rw[Mh hk];grind
theorem Aam(sa sb:List BA)(n m:Nat)(a1 a2:Option Addr)(c1 c2:Nat)(w:World)(Hn:Hid (sa.length=n))(Hm:Hid (sb.length=m))(hn9:n<=maxLen)(hpa:0<n->∃b o,a1=some ⟨b,o,none⟩/\G0 w b o sa/\b<w.heap.size)(hpb:0<m->∃b o,a2=some ⟨b,o,none⟩/\G0 w b o sb/\b<w.heap.size):
  cU prog 73 #[Vz a1 n c1,Vz a2 m c2] w (.bool (pB (sa=sb))):=by
 unfold maxLen at hn9;by_cases hll:n=m
 case neg =>
  have HN:Hid (pB (sa=sb)=false):=F3 λe=>hll (by rw[← Hn.out,← Hm.out,e]);delta cU;go_in;go_wp2_with fail;go_ret;exact⟨D4 HN.out.symm,A4 _ _⟩
 subst hll;delta cU;go_in;go_wp2_with fail;(try dsimp only[Iz,Sy,Sx,Nz,Vz,Tz,Ez,Pz]);go_loopw [5] (λi w'=>∃k:Nat,k<=n/\i=.int .i64 k/\(∀i,i<k->sa[i]?=sb[i]?)/\Up w w') (λi _=>n-(intOf i).toNat)
 case atStart=>exact⟨0,oM,rfl,λi hi=>oM,A4 _ _⟩
 case round =>
  obtain⟨k,hk,rfl,a0,hB⟩:=hrel;have Hal:Hid (∀i,i<k->sa[i]?=sb[i]?):=a0;clear a0;by_cases hp:k<n
  .obtain⟨b1,o1,rfl,a3,a5⟩:=hpa oM;obtain⟨b2,o2,rfl,a4,a6⟩:=hpb oM;have h1:k<sa.length:=by have:=Hn.out;omega
   have h2:k<sb.length:=by have:=Hm.out;omega
   have e1:=(hB.cell (p:=⟨b1,o1+k,none⟩) a5).trans (a3 k sa[k] (A0 h1));have e2:=(hB.cell (p:=⟨b2,o2+k,none⟩) a6).trans (a4 k sb[k] (A0 h2))
   have N1:Hid (((sa[k]).toList==(sb[k]).toList)=false->¬sa=sb):=λhq e=>by
    subst e;simp at hq
   have N2:Hid (((sa[k]).toList==(sb[k]).toList)=true->∀i,i<k+1->sa[i]?=sb[i]?):=λhq i hi=>by
    rcases Nat.lt_or_ge i k with h'|h'
    .exact Hal.out i h'
    .obtain rfl:i=k:=oM
     have e:sa[i]=sb[i]:=FN (by simpa using hq);rw[A0 h1,A0 h2,e]
   generalize sa[k]=s1 at *;generalize sb[k]=s2 at *;clear a3 a4;cases hq:(s1.toList==s2.toList)
   .have HN:Hid (pB (sa=sb)=false):=F3 (N1.out hq);go_wp2_with fail;go_quiet (fail);go_wp2_with fail;go_ret;exact⟨D4 HN.out.symm,E5 hB _⟩
   .have HY:Hid (∀i,i<k+1->sa[i]?=sb[i]?):=N2.out hq;go_wp2_with fail;go_quiet (fail);go_wp2_with fail;go_roundw
    case rel=>exact⟨k+1,oM,mO,HY.out,E5 hB _⟩
    case measure=>simp[intOf];omega
  .have HY:Hid (pB (sa=sb)=true):=M5 (List.ext_getElem? λi=>by
    by_cases hi:i<k
    .exact Hal.out i hi
    .rw[C6 (by have:=Hn.out;omega),C6 (by have:=Hm.out;omega)])
   go_wp2_with fail;go_ret;exact⟨D4 HY.out.symm,hB⟩
theorem JD(sa sb:List BA)(va vb:Value)(w:World)(ha:Ls w va sa)(hb:Ls w vb sb):
  cU prog 73 #[va,vb] w (.bool (pB (sa=sb))):=by
 obtain⟨a1,c1,rfl,a0,-,a3⟩:=ha;obtain⟨a2,c2,rfl,-,-,a4⟩:=hb;exact Aam sa sb _ _ a1 a2 c1 c2 w rfl rfl a0 a3 a4
theorem Aan(sa sb:List BA)(va vb:Value)(w:World)(ha:Ls w va sa)(hb:Ls w vb sb):
  cE prog 75 #[va,vb] w (.bool (pB (CI sa sb))):=by
 obtain⟨a,c,rfl,hn,hz,a0⟩:=ha;obtain⟨a2,c2,rfl,-⟩:=id hb;unfold maxLen at hn;delta cE;go_in;go_wp2_with fail;go_loop [5] (λi=>∃k:Nat,k<=sa.length/\i=.int .i64 k/\U2 sa sb k) (λi=>sa.length-(intOf i).toNat)
 case atStart=>exact⟨0,oM,rfl,U2.zero _ _⟩
 case round =>
  obtain⟨k,hk,rfl,a1⟩:=hrel;have Hal:Hid (U2 sa sb k):=a1;clear a1;by_cases hp:k<sa.length
  .obtain⟨b,o,rfl,hS,a3⟩:=a0 oM;have c0:=hS.cell hp;cases hq:E1 sb sa[k]
   .have Hq:Hid (¬CI sa sb):=λh=>by rw[KZ h hp] at hq;cases hq
    go_wp2_with (go_at_call 127;refine Swz (Ab sb _ _ _ hb) ?_)
    go_ret;exact⟨D4 (F3 Hq.out).symm,rfl⟩
   .have Hq:Hid (U2 sa sb (k+1)):=Hal.out.step hp hq;go_wp2_with (go_at_call 127;refine Swz (Ab sb _ _ _ hb) ?_)
    go_round
    case rel=>exact⟨k+1,oM,mO,Hq.out⟩
    case measure=>simp[intOf];omega
  .have Hq:Hid (CI sa sb):=LW Hal.out hp;go_wp2_with fail;go_ret;exact⟨D4 (M5 Hq.out).symm,rfl⟩
theorem Acj(h:House)(tv bv xv dv:Value)(s:BA)(w:World)(H:HV w h tv bv xv dv):
  Calls prog 35 #[.agg #[Iz h.now,Iz h.last,tv,bv,xv,dv],Tz s] w λe w'=>e=.returned (Iz (Ar (G5 h.bs) s))/\Up w w':=by
 obtain⟨a1,c1,a2,c2,a3,c3,a4,c4,rfl,rfl,rfl,rfl⟩:=H.shapes;obtain⟨a0,a5⟩:=H.x.inv rfl;unfold maxLen at a0;clear H;have a6:=(A4 w.heap.size w).alloc (A3 _) (.cells (Hcz h a1 c1 a2 c2 a3 c3 a4 c4).toArray 38);have hC:CB (w.alloc (.cells (Hcz h a1 c1 a2 c2 a3 c3 a4 c4).toArray 38)) w.heap.size (Hcz h a1 c1 a2 c2 a3 c3 a4 c4):=E9 w _ _;go_in;go_upto_region 1 with fail;obtain⟨-,-,-,-,d4,-⟩:=hC.c6;go_wp2_with fail;go_loop [5] (λi=>∃k:Nat,k<=h.bs.length/\i=.int .i64 k/\E1 ((G5 h.bs).take k) s=false) (λi=>h.bs.length-(intOf i).toNat)
 case atStart=>exact⟨0,oM,rfl,rfl⟩
 case round =>
  obtain⟨k,hk,rfl,a7⟩:=hrel;have Hal:Hid (E1 ((G5 h.bs).take k) s=false):=a7;clear a7;by_cases hp:k<h.bs.length
  .obtain⟨b,o,a9,hS,hb⟩:=a5 oM;subst a9;have a8:k<(G5 h.bs).length:=by rw[LE];exact hp
   have hg:(G5 h.bs)[k]=(h.bs[k]).nm:=by simp[G5]
   have b0:=((hS.at hp).up a6 hb).open;obtain⟨p,q,c,g,r,d,⟨e0,-⟩,-⟩:=b0;have N1:Hid _:=λhq=>ED a8 Hal.out (by rw[hg];exact hq);have N2:Hid (((h.bs[k]).nm.toList==s.toList)=true->Ar (G5 h.bs) s=(k:Int)):=λhq=>Bz a8 Hal.out (by rw[hg];exact hq);clear hS hg;generalize h.bs[k]=x0 at *;cases hq:(x0.nm.toList==s.toList)
   .have HY:Hid (E1 ((G5 h.bs).take (k+1)) s=false):=N1.out hq;go_wp2_with fail;go_round
    case rel=>exact⟨k+1,oM,mO,HY.out⟩
    case measure=>simp[intOf];omega
   .have HY:Hid (Ar (G5 h.bs) s=(k:Int)):=N2.out hq;go_wp2_with fail;go_ret;exact⟨K8 HY.out.symm,a6⟩
  .have HY:Hid (Ar (G5 h.bs) s=-1):=Dq (FO (by rw[LE];exact hp) Hal.out);go_wp2_with fail;go_ret;exact⟨K8 HY.out.symm,a6⟩
theorem Nq(h:House)(tv bv xv dv:Value)(w:World)(H:HV w h tv bv xv dv):
  cU prog 33 #[.agg #[Iz h.now,Iz h.last,tv,bv,xv,dv]] w (.bool (pB (N0 h))):=by
 obtain⟨-,-,-,b9,c5,b3,-,b0⟩:=id H;obtain⟨a1,c1,a2,c2,a3,c3,a4,c4,rfl,rfl,rfl,rfl⟩:=H.shapes;simp only[Value.slice.injEq] at b3;obtain⟨rfl,-,rfl⟩:=b3;clear H;have a7:=(A4 w.heap.size w).alloc (A3 _) (.cells (Hcz h a1 c1 a2 c2 a3 c3 a4 c4).toArray 38);have hC:CB (w.alloc (.cells (Hcz h a1 c1 a2 c2 a3 c3 a4 c4).toArray 38)) w.heap.size (Hcz h a1 c1 a2 c2 a3 c3 a4 c4):=E9 w _ _;delta cU;go_in;go_upto_region 1 with fail;generalize w.alloc (.cells (Hcz h a1 c1 a2 c2 a3 c3 a4 c4).toArray 38)=W1 at *;have b4:=hC.2.2;obtain⟨d0,d1,d2,d3,d4,d5⟩:=hC.c6;by_cases h20:20<h.ds.length
 .have HN:Hid (pB (N0 h)=false):=F3 λt=>by have:=t.1;omega
  go_wp2_with fail;go_ret;exact⟨D4 HN.out.symm,a7⟩
 go_wp2_with fail;(try dsimp only[Iz,Sy,Sx,Nz,Vz,Tz,Ez,Pz]);go_loopw [3,4] (λi _ w'=>∃k:Nat,k<=h.ds.length/\i=.int .i64 k/\BO h.ds h.now k/\Up W1 w') (λi _ _=>h.ds.length-(intOf i).toNat)
 case atStart=>exact⟨0,oM,rfl,λi d hi=>oM,A4 _ _⟩
 case round =>
  obtain⟨k,hk,rfl,hinv,hB⟩:=hrel;have HI:Hid (BO h.ds h.now k):=hinv;clear hinv d0 d1 d2 d3 d4 d5;obtain⟨d0,d1,d2,d3,d4,d5⟩:=(hC.up hB b4).c6;by_cases hp:k<h.ds.length
  .obtain⟨b,o,ha,hD,hb⟩:=b0 oM;subst ha;have a5:=D3 a7 hB;have b1:=hD.up a5 hb;obtain⟨a6,zn⟩:=b1 k _ (A0 hp);have c0:=a6 0 _ rfl;have b6:=a6 1 _ rfl;have b7:=a6 2 _ rfl;simp only[Nat.add_zero] at c0;have NO:Hid (¬CV h.ds h.now k h.ds[k]->pB (N0 h)=false):=λhn=>F3 λt=>hn (t.2 k _ hp (A0 hp));have YES:Hid (CV h.ds h.now k h.ds[k]->BO h.ds h.now (k+1)):=λhy=>Du (P:=CV h.ds h.now) HI.out hp hy
   have HP:Hid (0<k->∃p:Done,h.ds[k-1]?=some p/\wr.cell? ⟨b,o+(k-1)*3+2,none⟩=some (Iz p.t)/\(¬p.t<=(h.ds[k]).t->¬CV h.ds h.now k h.ds[k])/\(p.t<=(h.ds[k]).t->∀(j:Nat)(p':Done),j+1=k->h.ds[j]?=some p'->p'.t<=(h.ds[k]).t)):=λh0=>by
    have a8:k-1<h.ds.length:=oM
    refine⟨h.ds[k-1],A0 a8,(b1 (k-1) _ (A0 a8)).1 2 _ rfl,λhn hd=>hn (hd.2.2.2.2.2 (k-1) _ oM (A0 a8)),λhle j p' hj hp'=>?_⟩;obtain rfl:j=k-1:=oM
    rw[A0 a8] at hp';obtain rfl:=A5 hp';exact hle
   generalize h.ds[k]=x0 at *;have b2:=hB.alloc hB.size (Kz [Tz (x0).nm,Iz (x0).e,Iz (x0).t] 54);have hX:CB (wr.alloc (Kz [Tz (x0).nm,Iz (x0).e,Iz (x0).t] 54)) wr.heap.size [Tz x0.nm,Iz x0.e,Iz x0.t]:=E9 wr _ _;have a9:=(A4 wr.heap.size wr).alloc (A3 _) (Kz [Tz (x0).nm,Iz (x0).e,Iz (x0).t] 54);have b8:b<wr.heap.size:=A1 hb a5.size;have b5:w.heap.size<wr.heap.size:=A1 b4 hB.size;have g0:=(a9.cell (p:=⟨w.heap.size,0,none⟩) b5).trans d0;have g5:=(a9.cell (p:=⟨w.heap.size,5,none⟩) b5).trans d5
   have HP2:Hid (0<k->∃p:Done,h.ds[k-1]?=some p/\(wr.alloc (Kz [Tz (x0).nm,Iz (x0).e,Iz (x0).t] 54)).cell? ⟨b,o+(k-1)*3+2,none⟩=some (Iz p.t)/\(¬p.t<=x0.t->¬CV h.ds h.now k x0)/\(p.t<=x0.t->∀(j:Nat)(p':Done),j+1=k->h.ds[j]?=some p'->p'.t<=x0.t)):=λh0=>by
    obtain⟨p,e1,e2,e3,e4⟩:=HP.out h0;exact⟨p,e1,(a9.cell (p:=⟨b,o+(k-1)*3+2,none⟩) b8).trans e2,e3,e4⟩
   go_upto_region 7 with fail;generalize wr.alloc (Kz [Tz (x0).nm,Iz (x0).e,Iz (x0).t] 54)=W2 at *;obtain⟨⟨f0,f1,f2⟩,-⟩:=hX.c3;have a0:=D3 a7 b2;clear c0 b6 b7 d0 d1 d2 d3 d4 d5 a6 b1 a9;cases q1:E4 x0.nm
   .have HN:Hid (pB (N0 h)=false):=NO.out λt=>by rw[t.1] at q1;cases q1
    go_wp2_with fail;go_quiet ((first|(go_at_call 69;exact Calls.quiet_of_same (H9 _ _ zn))|(go_at_call 31;exact Calls.quiet_of_same (I5 _ _ _ _))))
    go_wp2_with fail;go_ret;exact⟨D4 HN.out.symm,E5 a0 _⟩
   cases q2:U7 x0.e 1 3
   .have HN:Hid (pB (N0 h)=false):=NO.out λt=>(Ey _ _ _).1 q2 ⟨t.2.1,t.2.2.1⟩;go_wp2_with fail;go_quiet ((first|(go_at_call 69;exact Calls.quiet_of_same (H9 _ _ zn))|(go_at_call 31;exact Calls.quiet_of_same (I5 _ _ _ _))))
    go_wp2_with fail;go_ret;exact⟨D4 HN.out.symm,E5 a0 _⟩
   cases q3:U7 x0.t 0 h.now
   .have HN:Hid (pB (N0 h)=false):=NO.out λt=>(Ey _ _ _).1 q3 ⟨t.2.2.2.1,t.2.2.2.2.1⟩;go_wp2_with fail;go_quiet ((first|(go_at_call 69;exact Calls.quiet_of_same (H9 _ _ zn))|(go_at_call 31;exact Calls.quiet_of_same (I5 _ _ _ _))))
    go_wp2_with fail;go_ret;exact⟨D4 HN.out.symm,E5 a0 _⟩
   have e2:=(AX _ _ _).1 q2;have e3:=(AX _ _ _).1 q3;rcases C3 k with h0|h0
   .have HY:Hid (BO h.ds h.now (0+1)):=by
     have:=YES.out ⟨q1,e2.1,e2.2,e3.1,e3.2,λj p hj=>oM⟩;rwa [h0] at this
    subst h0;go_wp2_with fail;go_quiet ((first|(go_at_call 69;exact Calls.quiet_of_same (H9 _ _ zn))|(go_at_call 31;exact Calls.quiet_of_same (I5 _ _ _ _))))
    go_wp2_with fail;go_roundw
    case rel=>exact⟨0+1,oM,mO,HY.out,E5 b2 _⟩
    case measure=>simp[intOf];omega
   .obtain⟨p,-,cp,p1,p2⟩:=HP2.out h0;by_cases q4:p.t<=x0.t
    .have HY:Hid (BO h.ds h.now (k+1)):=YES.out ⟨q1,e2.1,e2.2,e3.1,e3.2,p2 q4⟩;clear p1 p2;generalize p.t=pt at *;go_wp2_with fail;go_quiet ((first|(go_at_call 69;exact Calls.quiet_of_same (H9 _ _ zn))|(go_at_call 31;exact Calls.quiet_of_same (I5 _ _ _ _))))
     go_wp2_with fail;go_roundw
     case rel=>exact⟨k+1,oM,mO,HY.out,E5 b2 _⟩
     case measure=>simp[intOf];omega
    .have HN:Hid (pB (N0 h)=false):=NO.out (p1 q4);clear p1 p2;generalize p.t=pt at *;go_wp2_with fail;go_quiet ((first|(go_at_call 69;exact Calls.quiet_of_same (H9 _ _ zn))|(go_at_call 31;exact Calls.quiet_of_same (I5 _ _ _ _))))
     go_wp2_with fail;go_ret;exact⟨D4 HN.out.symm,E5 a0 _⟩
  .have HY:Hid (pB (N0 h)=true):=M5 ⟨oM,by
    have:=HI.out;rwa [show k=h.ds.length by omega] at this⟩
   go_wp2_with fail;go_ret;exact⟨D4 HY.out.symm,D3 a7 hB⟩
end Go.Proofs.YtaffjphkobhagaaGreatDoor
