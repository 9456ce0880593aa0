/- The line of a batch that ended (runDoneLine). -/
import Derived.Test.YtaffjphkobhagaaGreatDoorJ46
import Derived.Test.YtaffjphkobhagaaGreatDoorV11
import Derived.Test.YtaffjphkobhagaaGreatDoorWd3
set_option maxRecDepth 20000
set_option maxHeartbeats 8000000
namespace Go.Proofs.YtaffjphkobhagaaGreatDoor
open Proofs.Tryz
variable{x y:BA}{ws:List BA}{k:Nat}{w:World}
namespace Bd
open Go.RowKit
theorem AaP(h:F6 w)(k:Nat)(hk:k<3):AS w 0 k (Tz (As ((k:Int)+1))):=by
 obtain⟨h0,h1,h2⟩:=h;have e:k=0\/k=1\/k=2:=oM
 rcases e with rfl|rfl|rfl
 .exact h0
 .exact h1
 .exact h2.1
theorem AcR(d:Go.Proofs.YtaffjphkobhagaaGreatDoor.Done)(w:World)(hE:F6 w)(hP:BR w)(h1:d.nm.size<=8)(h2:1<=d.e)(h3:d.e<=3)(h4:0<=d.t)(h5:d.t<=100000):
  cU prog 22 #[.agg #[Tz d.nm,Iz d.e,Iz d.t]] w (Tz (CE d)):=by
 obtain⟨k,a9,a1⟩:∃k:Nat,k<3/\d.e=(k:Int)+1:=⟨(d.e-1).toNat,oM,oM⟩;have hz:(I3 d.t).size<=21:=Bn oM oM;have b2:=Oz ((k:Int)+1);have b3:IntKind.i64.wrap (k:Int)=(k:Int):=by rw[IntKind.wrap_i64];omega
 have b4:(9223372036854775807<d.nm.size+1)=False:=eq_false oM;have b5:(9223372036854775807<d.nm.size+1+(As ((k:Int)+1)).size)=False:=eq_false oM;have b6:(9223372036854775807<d.nm.size+1+(As ((k:Int)+1)).size+4)=False:=eq_false oM;have b7:(9223372036854775807<d.nm.size+1+(As ((k:Int)+1)).size+4+(I3 d.t).size)=False:=eq_false oM;have b8:CH.size=1/\tAt.size=4:=⟨rfl,rfl⟩;have HD:Hid (CE d=d.nm++CH++As ((k:Int)+1)++tAt++I3 d.t):=by show _=_;unfold CE;rw[a1]
 have a2:=AaP hE k a9;have hg:0<w.heap.size:=World.block_lt_of_cell? w _ a2
 have Hit:Hid (∀W,Up w W->Calls prog 50 #[Iz d.t] W λe w'=>e=.returned (Tz (I3 d.t))/\Up W w'):=λW hB=>by
  refine (Tryz.strconv_Itoa d.t oM oM W (Lib.tabBelow_of_tabIs hP W hB)).mono ?_;rintro e w' ⟨rfl,k,os,rfl⟩;exact⟨rfl,Lib.below_grow W.heap.size W (A3 _) k os⟩
 rw[a1];clear hE hP h2 h3 a1;delta cU;go_in;go_upto_region 1 with fail;obtain⟨kA,a5,b1⟩:=YC w [Tz d.nm,Iz ((k:Int)+1),Iz d.t] 54;generalize w.alloc (Kz [Tz d.nm,Iz ((k:Int)+1),Iz d.t] 54)=W1 at *
 have Mk:Hid (∀X,Up W1 X->(AS X w.heap.size 0 (Tz d.nm)/\AS X w.heap.size 1 (Iz ((k:Int)+1))/\AS X w.heap.size 2 (Iz d.t)/\AS X 0 k (Tz (As ((k:Int)+1))))):=λX hX=>by
  have b0:w.heap.size<W1.heap.size:=oM
  have c:∀j v,[Tz d.nm,Iz ((k:Int)+1),Iz d.t][j]?=some v->AS X w.heap.size j v:=λj v hv=>(hX.cell (p:=⟨w.heap.size,j,none⟩) b0).trans (by have:=kA.1 j v hv;simpa using this);exact⟨c 0 _ rfl,c 1 _ rfl,c 2 _ rfl,(hX.cell (p:=⟨0,k,none⟩) (by show 0<W1.heap.size;omega)).trans ((a5.cell (p:=⟨0,k,none⟩) hg).trans a2)⟩
 clear kA a2;have a6:Up W1 W1.drew:=(A4 _ _).drew;have a0:=Mk.out _ a6;have a7:Up w W1.drew:=a5.drew;refine L6 99 (λw'=>(AS w' w.heap.size 0 (Tz d.nm)/\AS w' w.heap.size 1 (Iz ((k:Int)+1))/\AS w' w.heap.size 2 (Iz d.t)/\AS w' 0 k (Tz (As ((k:Int)+1))))) sI ?_;generalize W1.drew=X1 at *;refine D8 0 rfl a0 ?_;refine D8 1 rfl a0 ?_;refine D8 2 rfl a0 ?_;refine D8 3 rfl a0 ?_;refine D8 4 rfl a0 ?_;refine D8 5 rfl a0 ?_;refine D8 6 rfl a0 ?_ (v:=Pz 0 k) (hy:=λw _=>by go_simp;intro hx;omega);refine D8 7 rfl a0 ?_;refine D8 8 rfl a0 ?_;refine D8 9 rfl a0 ?_;refine D8 10 rfl a0 ?_;refine D8 11 rfl a0 ?_;refine W9 12 rfl (λK hK=>?_);go_simp;go_wp2_with (go_at_call 50;refine (Hit.out _ a7).mono ?_;rintro e w5 ⟨rfl,a8⟩)
 have a3:=Mk.out _ (D3 a6 a8);have a4:=D3 a7 a8;refine U4 hK a3 ?_;clear hK K;refine D8 13 rfl a3 ?_;refine W9 14 rfl (λK hK=>?_);go_simp;refine U4 hK a3 ?_;clear hK K;refine O1 sI ?_ _;go_wp2_with fail;go_ret;exact⟨by rw[HD.out];rfl,a4⟩
end Bd
section
open Go.RowKit
theorem AaH(h:House)(tv bv xv dv:Value)(w:World)(H:HV w h tv bv xv dv):
  cU prog 14 #[.agg #[Iz h.now,Iz h.last,tv,bv,xv,dv]] w (Iz (GI h)):=by
 have a5:=λW (hB:Up w W)=>KA h tv bv xv dv W (H.up hB);obtain⟨a1,c1,a2,c2,a3,c3,a4,c4,rfl,rfl,rfl,rfl⟩:=H.shapes;obtain⟨b0,b1⟩:=H.x.inv rfl;unfold maxLen at b0;have HH:Hid (∀W,Up w W->Calls prog 12 #[.agg (Hcz h a1 c1 a2 c2 a3 c3 a4 c4).toArray] W λe w'=>e=.returned (.bool (pB (F2 h)))/\Up W w'):=a5;clear a5 H;have b9:=(A4 w.heap.size w).alloc (A3 _) (.cells (Hcz h a1 c1 a2 c2 a3 c3 a4 c4).toArray 38);have hC:CB (w.alloc (.cells (Hcz h a1 c1 a2 c2 a3 c3 a4 c4).toArray 38)) w.heap.size (Hcz h a1 c1 a2 c2 a3 c3 a4 c4):=E9 w _ _;delta cU;go_in;go_upto_region 1 with fail;generalize w.alloc (.cells (Hcz h a1 c1 a2 c2 a3 c3 a4 c4).toArray 38)=W1 at *;have b4:=hC.2.2;go_wp2_with fail;(try dsimp only[Iz,Sy,Sx,Nz,Vz,Tz,Ez,Pz]);go_loopw [3,4,5] (λs i _ w'=>∃k:Nat,k<=h.bs.length/\i=.int .i64 k/\s=.int .i64 (I0 (h.bs.take k))/\(0<k->F2 h)/\Up W1 w') (λ_ i _ _=>h.bs.length-(intOf i).toNat)
 case atStart=>exact⟨0,oM,rfl,rfl,λt=>oM,A4 _ _⟩
 case round =>
  obtain⟨k,hk,rfl,rfl,b3,hB⟩:=hrel;have Hok:Hid (0<k->F2 h):=b3;clear b3;obtain⟨d0,d1,d2,d3,d4,d5⟩:=(hC.up hB b4).c6;have a0:=D3 b9 hB;by_cases hp:k<h.bs.length
  .obtain⟨b,o,b7,hS,hb⟩:=b1 oM;subst b7;cases hq:pB (F2 h)
   .have HL:Hid (I0 (h.bs.take k)=GI h):=by
     show _=_
     have b5:k=0:=by
      rcases C3 k with e|e
      .exact e
      .exact absurd (Hok.out e) (N8.1 hq)
     unfold GI;rw[hq,b5];rfl
    go_wp2_with fail;refine (HH.out _ a0).mono ?_;rw[hq];rintro e w2 ⟨rfl,a9⟩;clear d0 d1 d2 d3 d4 d5;go_wp2_with fail;go_ret;exact⟨K8 HL.out,D3 a0 a9⟩
   .have hh:=G7.1 hq;have h5:=hh.few;have a6:=hh.each h.bs[k] dC;have c7:=Gn hh.each k;have c8:=KE a6.2.1 (h.bs[k]).ad;have c9:=FZ (Cy a6.2.1 (Dd a6.2.2.2.2.1));have h6:=a6.2.2.2.2.2.1;have h7:=a6.2.2.2.2.2.2;have HL:Hid (I0 (h.bs.take (k+1))=I0 (h.bs.take k)+(X4 (h.bs[k]).ps (h.bs[k]).ad-if (h.bs[k]).si=-1 then 0 else (h.bs[k]).si)):=Fo h.bs k hp;have Hh:Hid (F2 h):=hh;have HC2:Hid (∀W,Up w W->∃p q c g r d,(AS W b (o+k*6) (Tz (h.bs[k]).nm)/\AS W b (o+k*6+1) (Sx p q (h.bs[k]).ps.length c)/\AS W b (o+k*6+2) (Sx g r (h.bs[k]).sl.length d)/\AS W b (o+k*6+3) (Tz (h.bs[k]).ad)/\AS W b (o+k*6+4) (Iz (h.bs[k]).si)/\AS W b (o+k*6+5) (Iz (h.bs[k]).st))/\CU W h.bs[k] (Sx p q (h.bs[k]).ps.length c) (Sx g r (h.bs[k]).sl.length d)):=λW hW=>((hS.at hp).up hW hb).open;have Hrb:Hid (I7 h.bs[k]):=a6;clear hh a6 hS;generalize h.bs[k]=x0 at *;generalize I0 (h.bs.take k)=s at *;go_wp2_with fail;refine (HH.out _ a0).mono ?_;rw[hq];rintro e w2 ⟨rfl,a9⟩;have b2:=D3 a0 a9;have a7:=D3 hB a9;obtain⟨p,q,c,g,r,d,⟨e0,e1,e2,e3,e4,e5⟩,hv⟩:=HC2.out w2 b2;clear d0 d1 d2 d3 d4 d5;obtain⟨d0,d1,d2,d3,d4,d5⟩:=(hC.up a7 b4).c6;have b6:=a7.alloc a7.size (.cells (Rzz x0 p q c g r d).toArray 52);have hX:CB (w2.alloc (.cells (Rzz x0 p q c g r d).toArray 52)) w2.heap.size (Rzz x0 p q c g r d):=E9 w2 _ _;have c5:=hv.up ((A4 w2.heap.size w2).alloc (A3 _) (.cells (Rzz x0 p q c g r d).toArray 52));go_upto_region 6 with fail;generalize w2.alloc (.cells (Rzz x0 p q c g r d).toArray 52)=W2 at *;clear d0 d1 d2 d3 d4 d5 e0 e1 e2 e3 e4 e5 hv;obtain⟨f0,f1,f2,f3,f4,f5⟩:=hX.c6
    have a8:Calls prog 37 #[Sx p q x0.ps.length c,Tz x0.ad] W2 λe w'=>e=.returned (Iz (X4 x0.ps x0.ad))/\w'=W2:=by
     obtain⟨b',o',c',e',b8,-,-,-⟩:=c5.r;simp only[Value.slice.injEq,Option.some.injEq,Addr.mk.injEq] at e';obtain⟨⟨rfl,rfl,-⟩,-,rfl⟩:=e';have d6:x0.ps.length<=12:=((J2 x0.ps).1 Hrb.out.2.1).2.1;have:=Us x0.ps p q c Hrb.out.2.1 20 x0.ad W2 b8 oM;unfold X4;rw[if_pos Hrb.out.2.1];exact this
    generalize X4 x0.ps x0.ad=bd at *;by_cases hsi:0<x0.si
    .have HE:Hid (I0 (h.bs.take (k+1))=s+bd-x0.si):=by
      show _=_
      rw[HL.out,if_neg oM];omega
     go_wp2_with (go_at_call 37;refine a8.mono ?_;rintro e w' ⟨rfl,hw⟩;obtain rfl:=hw.symm;clear hw)
     go_roundw
     case rel=>exact⟨k+1,oM,mO,by rw[HE.out],λ_=>Hh.out,b6⟩
     case measure=>simp[intOf];omega
    .have HE:Hid (I0 (h.bs.take (k+1))=s+bd):=by
      show _=_
      rw[HL.out];split<;>omega
     go_wp2_with (go_at_call 37;refine a8.mono ?_;rintro e w' ⟨rfl,hw⟩;obtain rfl:=hw.symm;clear hw)
     go_roundw
     case rel=>exact⟨k+1,oM,mO,by rw[HE.out],λ_=>Hh.out,b6⟩
     case measure=>simp[intOf];omega
  .have HL:Hid (I0 (h.bs.take k)=GI h):=by
    show _=_
    rw[D0 oM];unfold GI;split
    .rfl
    .rename_i hn
     have b5:k=0:=by
      rcases C3 k with e|e
      .exact e
      .exact absurd (M5 (Hok.out e)) hn
     have:h.bs=[]:=C4.1 oM;rw[this];rfl
   go_wp2_with fail;go_ret;exact⟨K8 HL.out,a0⟩
end
namespace Bd
open Go.RowKit
theorem AaI(h:x.data.toList=y.data.toList):x=y:=by
 rw[← Lib.mk_data x,← Lib.mk_data y,h]
theorem FE(x y:BA):(x++y).data.toList=x.data.toList++y.data.toList:=by
 rw[ByteArray.data_append,Array.toList_append]
def P6(o:BA)(ws:List BA):BA:=ws.foldl (λo s=>o++CH++s) o
theorem NG(o:BA)(hk:k<ws.length):P6 o (ws.take (k+1))=P6 o (ws.take k)++CH++ws[k]:=by
 unfold P6;rw[A7 hk,List.foldl_append];rfl
theorem Wj:∀(ws:List BA)(o:BA),(P6 o ws).data.toList=o.data.toList++Lib.joinTail [32] (ws.map λs=>s.data.toList)
 | [],o=>by simp[P6,Lib.joinTail]
 | s::r,o=>by
  have:=Wj r (o++CH++s);show (P6 (o++CH++s) r).data.toList=_
  rw[this,FE,FE];simp[Lib.joinTail,CH]
theorem NH(x:BA)(r:List BA):GJ (x::r)=P6 x r:=by
 apply AaI
 rw[Wj];unfold GJ;rw[List.map_cons,Lib.join_cons]
theorem Mo{m:Nat}:∀(ws:List BA)(o:BA),(∀s∈ws,s.size<=m)->(P6 o ws).size<=o.size+ws.length*(m+1)
 | [],o,_=>by simp[P6]
 | s::r,o,h=>by
  have h1:=Mo r (o++CH++s) λx hx=>h x (by simp[hx]);have h2:=h s dC;have h3:CH.size=1:=rfl;show (P6 (o++CH++s) r).size<=_
  simp only[ByteArray.size_append,List.length_cons] at h1 ⊢
  rw[Nat.succ_mul];omega
def Gq(x:Rb):BA:=if x.si=-1 then x.nm++CH++x.ad++⟨#[32,119,97,105,116,115]⟩ else x.nm++CH++x.ad++⟨#[32,102,111,114,32]⟩++I3 x.si
theorem AcH(h:House)(x:Rb):DW h x=P6 (Gq x) (J6 h.sh x.nm).has:=by
 unfold DW Cp Gq;split
 .rw[List.cons_append,NH,List.cons_append,List.cons_append,List.nil_append];show P6 (x.nm++CH++x.ad++CH++Cn) _=_
  rw[ByteArray.append_assoc (b:=CH)];rfl
 .rw[List.cons_append,NH,List.cons_append,List.cons_append,List.cons_append,List.nil_append];show P6 (x.nm++CH++x.ad++CH++Em++CH++I3 x.si) _=_
  rw[ByteArray.append_assoc (b:=CH) (c:=Em),ByteArray.append_assoc (b:=CH++Em)];rfl
theorem AcI(h:House)(x0:Rb)(a1 a2 a3 a4:Option Addr)(c1 c2 c3 c4 p q c g r d:Nat)(w:World)(HK:Z5 w (.agg #[Vz a1 h.sh.tg.length c1,Vz a2 h.sh.bs.length c2]) h.sh)(hok:F2 h)(hx:x0∈h.bs):
  cU prog 15 #[.agg (Hcz h a1 c1 a2 c2 a3 c3 a4 c4).toArray,.agg (Rzz x0 p q c g r d).toArray] w (Tz (DW h x0++⟨#[10]⟩)):=by
 have hr:=QE hok hx;obtain⟨b4,e0,b5⟩:=Tq hok hx;have Hbk:Hid (J3 h.sh):=hok.2.2.1.book;obtain⟨m,b2,b7⟩:=Ni b4;have c5:=Li Hbk.out.2.2.2.1 b2 b7
 have d3:Ar (G9 h.sh.bs) x0.nm=(m:Int):=Bz (by rw[K0];exact b2) (by
  rw[Cr];intro hin;obtain⟨j,hj,e⟩:=List.mem_take_iff_getElem.1 hin
  have:=Ir Hbk.out.2.2.2.1 (A0 oM) (show (G9 h.sh.bs)[m]?=some ((G9 h.sh.bs)[j]' oM) by
   rw[A0 (by rw[K0];exact b2),Cs _ _ b2,b7,e])
  omega) (by rw[Cs _ _ b2,b7];simp)
 have Hat:Hid (∀W,Up w W->Calls prog 38 #[.agg #[Vz a1 h.sh.tg.length c1,Vz a2 h.sh.bs.length c2],Tz x0.nm] W λe w'=>e=.returned (Iz (m:Int))/\Up W w'):=λW hB=>by
  have:=Mf h.sh _ x0.nm W (HK.up hB);rwa [d3] at this
 have e8:h.sh.bs.length<=5:=Hbk.out.2.1;have HT:Hid (DW h x0=P6 (Gq x0) (h.sh.bs[m]).has):=by show _=_;rw[AcH,c5]
 rw[c5] at e0 b5;obtain⟨tv,bv,e1,e2,c9⟩:=HK;simp only[Value.agg.injEq,Array.mk.injEq,List.cons.injEq,and_true] at e1;obtain⟨rfl,rfl⟩:=e1
 obtain⟨bb,oo,e3,d0,d1⟩:∃bb oo,a2=some ⟨bb,oo,none⟩/\ER w bb oo h.sh.bs/\bb<w.heap.size:=by
  obtain⟨a,c,e,-,hp⟩:=c9;simp only[Value.slice.injEq] at e;obtain⟨rfl,-,-⟩:=e;exact hp oM
 subst e3;obtain⟨ah,dh,an,dn,-,s1,-,e4,-,-⟩:=(d0.at b2).cells
 have a5:0<(h.sh.bs[m]).has.length->∃b o,ah=some ⟨b,o,none⟩/\G0 w b o (h.sh.bs[m]).has/\b<w.heap.size:=by
  obtain⟨a,c,e,-,-,hp⟩:=e4;simp only[Value.slice.injEq] at e;obtain⟨rfl,-,-⟩:=e;exact hp
 have d4:x0.nm.size<=8:=IQ hr.1;have d5:x0.ad.size<=8:=AaE hr.2.1 hr.2.2.2.2.1;have a8:=Yf hr
 have e9:(Gq x0).size<=100:=by
  have hz:(I3 x0.si).size<=21:=Bn (by rcases a8 with h|h<;>omega) (by rcases a8 with h|h<;>omega);unfold Gq;split
  .simp only[ByteArray.size_append];show x0.nm.size+1+x0.ad.size+6<=100;omega
  .simp only[ByteArray.size_append];show x0.nm.size+1+x0.ad.size+5+(I3 x0.si).size<=100;omega
 clear hr hok hx b4 b7 c5 d3 d0 e2 c9;generalize h.sh.bs[m]=y at *;have Hd:Hid (∀W:World,¬x0.si=-1->Calls prog 13 #[Iz x0.si] W λe w'=>e=.returned (Tz (I3 x0.si))/\Up W w'):=λW hne=>KF x0.si W (by rcases a8 with h|h<;>omega) (by rcases a8 with h|h<;>omega);have d6:(I3 x0.si).size<=21:=Bn (by rcases a8 with h|h<;>omega) (by rcases a8 with h|h<;>omega);have b3:(9223372036854775807<x0.nm.size+1)=False:=eq_false oM;have b9:(9223372036854775807<x0.nm.size+1+x0.ad.size)=False:=eq_false oM;have d7:(9223372036854775807<x0.nm.size+1+x0.ad.size+6)=False:=eq_false oM;have d8:(9223372036854775807<x0.nm.size+1+x0.ad.size+5)=False:=eq_false oM;have d9:(9223372036854775807<x0.nm.size+1+x0.ad.size+5+(I3 x0.si).size)=False:=eq_false oM;delta cU;go_in;go_upto_region 1 with fail;obtain⟨W1,d2,kA,kB,b8,e7⟩:=cbE2 w [Iz h.now,Iz h.last,Vz a1 h.sh.tg.length c1,Sx bb oo h.sh.bs.length c2,Vz a3 h.bs.length c3,Vz a4 h.ds.length c4] 38 (Rzz x0 p q c g r d) 52;rw[d2];clear d2;obtain⟨f0,f1,f2,f3,f4,f5⟩:=kB.c6;by_cases hs:x0.si=-1
 .have Hp:Hid (Gq x0=x0.nm++⟨#[32]⟩++x0.ad++⟨#[32,119,97,105,116,115]⟩):=by show _=_;unfold Gq;rw[if_pos hs];rfl
  rw[hs] at f4;go_upto_region 5 with fail;rw[← Hp.out];clear Hp Hd b3 b9 d7 d8 d9 d6 d4 d5 f0 f1 f2 f3 f4 f5;have b6:Up W1 W1:=A4 _ _;have Mk:Hid (∀X,Up W1 X->(AS X w.heap.size 2 (Vz a1 h.sh.tg.length c1)/\AS X w.heap.size 3 (Sx bb oo h.sh.bs.length c2)/\AS X (w.heap.size+1) 0 (Tz x0.nm)/\AS X bb (oo+m*3+1) (Vz ah y.has.length dh))):=λX hX=>⟨(hX.cell (p:=⟨w.heap.size,2,none⟩) (by show w.heap.size<_;omega)).trans (kA.1 2 _ rfl),(hX.cell (p:=⟨w.heap.size,3,none⟩) (by show w.heap.size<_;omega)).trans (kA.1 3 _ rfl),(hX.cell (p:=⟨w.heap.size+1,0,none⟩) (by show w.heap.size+1<_;omega)).trans (kB.1 0 _ rfl),(hX.cell (p:=⟨bb,oo+m*3+1,none⟩) (by show bb<_;omega)).trans ((b8.cell (p:=⟨bb,oo+m*3+1,none⟩) d1).trans s1)⟩;clear kA kB s1;generalize Gq x0=o at *;have a7:=b6.drew;have a0:=Mk.out _ a7;have b0:=D3 b8 a7;refine L6 99 (λw'=>(AS w' w.heap.size 2 (Vz a1 h.sh.tg.length c1)/\AS w' w.heap.size 3 (Sx bb oo h.sh.bs.length c2)/\AS w' (w.heap.size+1) 0 (Tz x0.nm)/\AS w' bb (oo+m*3+1) (Vz ah y.has.length dh))) sI ?_;generalize (W1).drew=X1 at *;refine D8 0 rfl a0 ?_;refine D8 1 rfl a0 ?_;refine D8 2 rfl a0 ?_;refine D8 3 rfl a0 ?_;refine D8 4 rfl a0 ?_;refine D8 5 rfl a0 ?_;refine D8 6 rfl a0 ?_;refine W9 7 rfl (λK hK=>?_);go_simp;go_wp2_with (go_at_call 38;refine (Hat.out _ b0).mono ?_;rintro e w6 ⟨rfl,b1⟩)
  have a6:=Mk.out _ (D3 a7 b1);have c7:=D3 b0 b1;refine U4 hK a6 ?_;clear hK K;refine D8 8 rfl a6 ?_;refine D8 9 rfl a6 ?_;refine D8 10 rfl a6 ?_;refine W9 11 rfl (λK hK=>?_);go_simp;refine U4 hK a6 ?_;clear hK K;refine O1 sI ?_ _;clear a0 a6 Mk b6 a7 b0 b1 Hat;go_wp2_with fail;(try dsimp only[Iz,Sy,Sx,Nz,Vz,Tz,Ez,Pz]);go_loopw [5,7] (λv i w'=>∃k:Nat,k<=y.has.length/\i=.int .i64 k/\v=Tz (P6 o (y.has.take k))/\Up w w') (λ_ i _=>y.has.length-(intOf i).toNat)
  case atStart=>exact⟨0,oM,rfl,rfl,c7⟩
  case round =>
   obtain⟨k,hk,rfl,rfl,hB⟩:=hrel;have c8:=Mo (m:=8) (y.has.take k) o λs hs=>b5 s (List.mem_of_mem_take hs);rw[B8,Nat.min_eq_left hk] at c8;by_cases hp:k<y.has.length
   .obtain⟨hb,ho,rfl,hS,a9⟩:=a5 oM;have c0:=(hB.cell (p:=⟨hb,ho+k,none⟩) a9).trans (hS.cell hp);have e5:=b5 _ (List.getElem_mem hp);have HS:Hid (P6 o (y.has.take (k+1))=P6 o (y.has.take k)++⟨#[32]⟩++y.has[k]):=NG o hp;generalize y.has[k]=s0 at *;generalize P6 o (y.has.take k)=o2 at *;have b3:(9223372036854775807<o2.size+1)=False:=eq_false oM;have b9:(9223372036854775807<o2.size+1+s0.size)=False:=eq_false oM;clear hS a5;go_wp2_with fail;go_roundw
    case rel=>exact⟨k+1,oM,mO,by rw[HS.out],hB⟩
    case measure=>simp[intOf];omega
   .have HS:Hid (DW h x0++⟨#[10]⟩=P6 o (y.has.take k)++⟨#[10]⟩):=by show _=_;rw[HT.out,D0 oM]
    generalize P6 o (y.has.take k)=o2 at *;have b3:(9223372036854775807<o2.size+1)=False:=eq_false oM;go_wp2_with fail;go_ret;exact⟨by rw[HS.out];rfl,hB⟩
 .have Hp:Hid (Gq x0=x0.nm++⟨#[32]⟩++x0.ad++⟨#[32,102,111,114,32]⟩++I3 x0.si):=by show _=_;unfold Gq;rw[if_neg hs];rfl
  have Hs:Hid (¬x0.si=-1):=hs;have f6:(x0.si<0)=False:=eq_false (by rcases a8 with h|h<;>omega);clear hs a8;go_upto_region 5 with (go_at_call 13;refine (Hd.out W1 Hs.out).mono ?_;rintro e w5 ⟨rfl,e6⟩)
  rw[← Hp.out];clear Hp Hd b3 b9 d7 d8 d9 d6 d4 d5 f0 f1 f2 f3 f4 f5;have b6:Up W1 w5:=e6;have Mk:Hid (∀X,Up W1 X->(AS X w.heap.size 2 (Vz a1 h.sh.tg.length c1)/\AS X w.heap.size 3 (Sx bb oo h.sh.bs.length c2)/\AS X (w.heap.size+1) 0 (Tz x0.nm)/\AS X bb (oo+m*3+1) (Vz ah y.has.length dh))):=λX hX=>⟨(hX.cell (p:=⟨w.heap.size,2,none⟩) (by show w.heap.size<_;omega)).trans (kA.1 2 _ rfl),(hX.cell (p:=⟨w.heap.size,3,none⟩) (by show w.heap.size<_;omega)).trans (kA.1 3 _ rfl),(hX.cell (p:=⟨w.heap.size+1,0,none⟩) (by show w.heap.size+1<_;omega)).trans (kB.1 0 _ rfl),(hX.cell (p:=⟨bb,oo+m*3+1,none⟩) (by show bb<_;omega)).trans ((b8.cell (p:=⟨bb,oo+m*3+1,none⟩) d1).trans s1)⟩;clear kA kB s1;generalize Gq x0=o at *;have a7:=b6.drew;have a0:=Mk.out _ a7;have b0:=D3 b8 a7;refine L6 99 (λw'=>(AS w' w.heap.size 2 (Vz a1 h.sh.tg.length c1)/\AS w' w.heap.size 3 (Sx bb oo h.sh.bs.length c2)/\AS w' (w.heap.size+1) 0 (Tz x0.nm)/\AS w' bb (oo+m*3+1) (Vz ah y.has.length dh))) sI ?_;generalize (w5).drew=X1 at *;refine D8 0 rfl a0 ?_;refine D8 1 rfl a0 ?_;refine D8 2 rfl a0 ?_;refine D8 3 rfl a0 ?_;refine D8 4 rfl a0 ?_;refine D8 5 rfl a0 ?_;refine D8 6 rfl a0 ?_;refine W9 7 rfl (λK hK=>?_);go_simp;go_wp2_with (go_at_call 38;refine (Hat.out _ b0).mono ?_;rintro e w6 ⟨rfl,b1⟩)
  have a6:=Mk.out _ (D3 a7 b1);have c7:=D3 b0 b1;refine U4 hK a6 ?_;clear hK K;refine D8 8 rfl a6 ?_;refine D8 9 rfl a6 ?_;refine D8 10 rfl a6 ?_;refine W9 11 rfl (λK hK=>?_);go_simp;refine U4 hK a6 ?_;clear hK K;refine O1 sI ?_ _;clear a0 a6 Mk b6 a7 b0 b1 Hat;go_wp2_with fail;(try dsimp only[Iz,Sy,Sx,Nz,Vz,Tz,Ez,Pz]);go_loopw [5,7] (λv i w'=>∃k:Nat,k<=y.has.length/\i=.int .i64 k/\v=Tz (P6 o (y.has.take k))/\Up w w') (λ_ i _=>y.has.length-(intOf i).toNat)
  case atStart=>exact⟨0,oM,rfl,rfl,c7⟩
  case round =>
   obtain⟨k,hk,rfl,rfl,hB⟩:=hrel;have c8:=Mo (m:=8) (y.has.take k) o λs hs=>b5 s (List.mem_of_mem_take hs);rw[B8,Nat.min_eq_left hk] at c8;by_cases hp:k<y.has.length
   .obtain⟨hb,ho,rfl,hS,a9⟩:=a5 oM;have c0:=(hB.cell (p:=⟨hb,ho+k,none⟩) a9).trans (hS.cell hp);have e5:=b5 _ (List.getElem_mem hp);have HS:Hid (P6 o (y.has.take (k+1))=P6 o (y.has.take k)++⟨#[32]⟩++y.has[k]):=NG o hp;generalize y.has[k]=s0 at *;generalize P6 o (y.has.take k)=o2 at *;have b3:(9223372036854775807<o2.size+1)=False:=eq_false oM;have b9:(9223372036854775807<o2.size+1+s0.size)=False:=eq_false oM;clear hS a5;go_wp2_with fail;go_roundw
    case rel=>exact⟨k+1,oM,mO,by rw[HS.out],hB⟩
    case measure=>simp[intOf];omega
   .have HS:Hid (DW h x0++⟨#[10]⟩=P6 o (y.has.take k)++⟨#[10]⟩):=by show _=_;rw[HT.out,D0 oM]
    generalize P6 o (y.has.take k)=o2 at *;have b3:(9223372036854775807<o2.size+1)=False:=eq_false oM;go_wp2_with fail;go_ret;exact⟨by rw[HS.out];rfl,hB⟩
theorem Mp{P:Program}{ops:Array Oper}{Q:Exit->Act->World->Prop}{md:Region.Mode}{S S':World->Prop}{L:Nat}(hs:∀w,S' w->S w):∀{fuel:Nat} {listed:Array Bool} {a:Act} {w:World},Ai P md ops Q S' L fuel listed a w->Ai P md ops Q S L fuel listed a w
 | 0,_,_,_,h=>h
 | _fuel+1,_,_,_,h=>⟨h.1,λi hi=>wpOp_mono (λ_ _ h'=>⟨λhn=>hs _ (h'.1 hn),Mp hs h'.2⟩) (h.2 i hi)⟩
def Bv(o:BA)(ws:List BA):BA:=ws.foldl (λo s=>o++(s++⟨#[10]⟩)) o
theorem Tv(o:BA)(hk:k<ws.length):Bv o (ws.take (k+1))=Bv o (ws.take k)++(ws[k]++⟨#[10]⟩):=by
 unfold Bv;rw[A7 hk,List.foldl_append];rfl
theorem Afc(o:BA)(a b:List BA):Bv o (a++b)=Bv (Bv o a) b:=by unfold Bv;rw[List.foldl_append]
theorem Ad0:∀(ws:List BA)(o:BA),(Bv o ws).data.toList=o.data.toList++(ws.map λs=>s.data.toList++[10]).flatten
 | [],o=>by simp[Bv]
 | s::r,o=>by
  have:=Ad0 r (o++(s++⟨#[10]⟩));show (Bv (o++(s++⟨#[10]⟩)) r).data.toList=_
  rw[this,FE,FE];simp
theorem Wk:∀(r:List (List UInt8)),Lib.joinTail [10] r++[10]=10::(r.map λs=>s++[10]).flatten
 | []=>by simp[Lib.joinTail]
 | x::r=>by
  have:=Wk r;simp only[Lib.joinTail,List.map_cons,List.flatten_cons,List.append_assoc] at this ⊢
  rw[this];simp
theorem Tw{m:Nat}:∀(ws:List BA)(o:BA),(∀s∈ws,s.size<=m)->(Bv o ws).size<=o.size+ws.length*(m+1)
 | [],o,_=>by simp[Bv]
 | s::r,o,h=>by
  have h1:=Tw r (o++(s++⟨#[10]⟩)) λx hx=>h x (by simp[hx]);have h2:=h s dC;have h3:(⟨#[10]⟩:BA).size=1:=rfl;show (Bv (o++(s++⟨#[10]⟩)) r).size<=_
  simp only[ByteArray.size_append,List.length_cons] at h1 ⊢
  rw[Nat.succ_mul];omega
theorem AcJ(h:House):EP h=Bv (Bv (L9 h++⟨#[10]⟩) (O6 h)) (P4 h):=by
 apply AaI
 rw[← Afc,Ad0];unfold EP Y9;rw[FE,List.append_assoc,List.singleton_append,List.map_cons,Lib.join_cons,FE];show _++_++[10]=(_++[10])++_
 have:=Wk ((O6 h++P4 h).map λs=>s.data.toList);rw[List.append_assoc,this,List.map_map];simp[Function.comp_def]
noncomputable def U6(h:House):BA:=if pB (F2 h)=true then EP h else ⟨#[]⟩
def Yj:Array Value:=#[.string ⟨#[]⟩,.string ⟨#[103,111,111,100]⟩,.string ⟨#[115,97,118,101,100]⟩,.string ⟨#[115,99,114,97,112,112,101,100]⟩]
theorem Tx(k:Nat)(h1:1<=k)(h3:k<=3):Yj[k]?=some (Tz (As (k:Int))):=by
 have e:k=1\/k=2\/k=3:=oM
 rcases e with rfl|rfl|rfl<;>rfl
end Bd
end Go.Proofs.YtaffjphkobhagaaGreatDoor
