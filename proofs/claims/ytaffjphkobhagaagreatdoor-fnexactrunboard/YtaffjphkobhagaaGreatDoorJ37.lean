/- The program's checks of a house's times, of those that ended, of the book (chapter 22). -/
import Derived.Test.YtaffjphkobhagaaGreatDoorJ34
import Derived.Test.YtaffjphkobhagaaGreatDoorJ33
set_option maxRecDepth 20000
set_option maxHeartbeats 4000000
namespace Go.Proofs.YtaffjphkobhagaaGreatDoor
open Proofs.Tryz
open Go.RowKit
variable{os:Array Obj}{w w1:World}
theorem XH(h:House)(tv bv xv dv:Value)(w:World)(H:HV w h tv bv xv dv):
  Calls prog 43 #[.agg #[Iz h.now,Iz h.last,tv,bv,xv,dv]] w λe w'=>e=.returned (.bool (pB (Dt h)))/\Up w w':=by
 obtain⟨a1,c1,a2,c2,a3,c3,a4,c4,rfl,rfl,rfl,rfl⟩:=H.shapes;have a0:=(A4 w.heap.size w).alloc (A3 _) (.cells (Hcz h a1 c1 a2 c2 a3 c3 a4 c4).toArray 38);by_cases h1:0<=h.now
 case neg =>
  have HN:Hid (pB (Dt h)=false):=F3 λt=>h1 t.1;go_in;go_wp2;go_ret;exact⟨D4 HN.out.symm,a0⟩
 by_cases h2:h.now<=100000
 case neg =>
  have HN:Hid (pB (Dt h)=false):=F3 λt=>h2 t.2.1;go_in;go_wp2;go_ret;exact⟨D4 HN.out.symm,a0⟩
 by_cases h3:0<=h.last
 case neg =>
  have HN:Hid (pB (Dt h)=false):=F3 λt=>h3 t.2.2.1;go_in;go_wp2;go_ret;exact⟨D4 HN.out.symm,a0⟩
 have HN:Hid (pB (Dt h)=decide (h.last<=1000000)):=by
  show _=_
  rw[Bool.eq_iff_iff,G7,decide_eq_true_iff];exact⟨λt=>t.2.2.2,λt=>⟨h1,h2,h3,t⟩⟩
 go_in;go_wp2;go_ret;exact⟨D4 (by rw[HN.out]),a0⟩
theorem XI(h:House)(tv bv xv dv:Value)(w:World)(H:HV w h tv bv xv dv):
  cU prog 44 #[.agg #[Iz h.now,Iz h.last,tv,bv,xv,dv]] w (.bool (pB (N0 h))):=by
 obtain⟨-,-,-,b9,c5,b4,-,b0⟩:=id H;obtain⟨a1,c1,a2,c2,a3,c3,a4,c4,rfl,rfl,rfl,rfl⟩:=H.shapes;simp only[Value.slice.injEq] at b4;obtain⟨rfl,-,rfl⟩:=b4;clear H;have a9:=(A4 w.heap.size w).alloc (A3 _) (.cells (Hcz h a1 c1 a2 c2 a3 c3 a4 c4).toArray 38);have hC:CB (w.alloc (.cells (Hcz h a1 c1 a2 c2 a3 c3 a4 c4).toArray 38)) w.heap.size (Hcz h a1 c1 a2 c2 a3 c3 a4 c4):=E9 w _ _;delta cU;go_in;go_upto_region 1 with fail;generalize w.alloc (.cells (Hcz h a1 c1 a2 c2 a3 c3 a4 c4).toArray 38)=W1 at *;have b1:=hC.2.2;obtain⟨d0,d1,d2,d3,d4,d5⟩:=hC.c6;by_cases h20:20<h.ds.length
 .have HN:Hid (pB (N0 h)=false):=F3 λt=>by have:=t.1;omega
  go_wp2_with fail;go_ret;exact⟨D4 HN.out.symm,a9⟩
 go_wp2_with fail;(try dsimp only[Iz,Sy,Sx,Nz,Vz,Tz,Ez,Pz]);go_loopw [3,5,13] (λah _ i w'=>∃(k:Nat)(a:Int),k<=h.ds.length/\i=.int .i64 k/\ah=.int .i64 a/\(0<=a/\(k=0->a=0)/\(∀(j:Nat)(p:Done),j+1=k->h.ds[j]?=some p->a=p.t)/\BO h.ds h.now k)/\Up W1 w') (λ_ _ i _=>h.ds.length-(intOf i).toNat)
 case atStart=>exact⟨0,0,oM,rfl,rfl,⟨oM,λ_=>rfl,λj p hj=>oM,λi d hi=>oM⟩,A4 _ _⟩
 case round =>
  obtain⟨k,a,hk,rfl,rfl,hinv,hB⟩:=hrel;have HI:Hid (0<=a/\(k=0->a=0)/\(∀(j:Nat)(p:Done),j+1=k->h.ds[j]?=some p->a=p.t)/\BO h.ds h.now k):=hinv;clear hinv d0 d1 d2 d3 d4 d5;by_cases hp:k<h.ds.length
  .obtain⟨b,o,ha,hD,hb⟩:=b0 oM;subst ha;have b2:=D3 a9 hB;obtain⟨a8,zn⟩:=hD.up b2 hb k _ (A0 hp);have c0:=a8 0 _ rfl;have b7:=a8 1 _ rfl;have b8:=a8 2 _ rfl;simp only[Nat.add_zero] at c0;obtain⟨d0,-⟩:=(hC.up hB b1).c6;have NO:Hid (¬CV h.ds h.now k h.ds[k]->pB (N0 h)=false):=λhn=>F3 λt=>hn (t.2 k _ hp (A0 hp));have YES:Hid (CV h.ds h.now k h.ds[k]->BO h.ds h.now (k+1)):=λhy=>Du (P:=CV h.ds h.now) HI.out.2.2.2 hp hy
   have HT:Hid (∀(j:Nat)(p:Done),j+1=k+1->h.ds[j]?=some p->(h.ds[k]).t=p.t):=λj p hj hp'=>by
    obtain rfl:j=k:=oM
    rw[A0 hp] at hp';obtain rfl:=A5 hp';rfl
   have HP:Hid (a<=(h.ds[k]).t->0<=(h.ds[k]).t/\∀(j:Nat)(p:Done),j+1=k->h.ds[j]?=some p->p.t<=(h.ds[k]).t):=λht=>by
    obtain⟨i0,i1,i2,-⟩:=HI.out;exact⟨oM,λj p hj hp'=>by rw[← i2 j p hj hp'];exact ht⟩
   have HQ:Hid ((h.ds[k]).t<a->¬CV h.ds h.now k h.ds[k]):=λht hd=>by
    obtain⟨i0,i1,i2,-⟩:=HI.out;obtain⟨-,-,-,k0,-,k2⟩:=hd;rcases C3 k with e|e
    .have:=i1 e;omega
    .obtain⟨j,rfl⟩:∃j,k=j+1:=⟨k-1,oM⟩;have hj:=A0 (l:=h.ds) (i:=j) oM;have:=k2 j _ rfl hj;have:=i2 j _ rfl hj;omega
   generalize h.ds[k]=x0 at *;have b5:=hB.alloc hB.size (Kz [Tz (x0).nm,Iz (x0).e,Iz (x0).t] 54);have hX:CB (wr.alloc (Kz [Tz (x0).nm,Iz (x0).e,Iz (x0).t] 54)) wr.heap.size [Tz x0.nm,Iz x0.e,Iz x0.t]:=E9 wr _ _;have b6:=((A4 wr.heap.size wr).alloc (A3 _) (Kz [Tz (x0).nm,Iz (x0).e,Iz (x0).t] 54)).cell (p:=⟨w.heap.size,0,none⟩) (A1 b1 hB.size) |>.trans d0
   go_upto_region 7 with fail;generalize wr.alloc (Kz [Tz (x0).nm,Iz (x0).e,Iz (x0).t] 54)=W2 at *;obtain⟨⟨f0,f1,f2⟩,-⟩:=hX.c3;have a5:=hX.2.2;have b3:w.heap.size<W2.heap.size:=A1 b1 b5.size;clear c0 b7 b8 d0 a8;go_wp2_with fail;refine (Z8 _ _ zn).mono ?_;rintro e w3 ⟨rfl,a7⟩;have g1:=(a7.cell (p:=⟨wr.heap.size,1,none⟩) a5).trans f1;have g2:=(a7.cell (p:=⟨wr.heap.size,2,none⟩) a5).trans f2;have g3:=(a7.cell (p:=⟨w.heap.size,0,none⟩) b3).trans b6;have a6:=D3 b5 a7;have a0:=D3 a9 a6;clear f0 f1 f2 b6 a7;cases q1:E4 x0.nm
   .have HN:Hid (pB (N0 h)=false):=NO.out λt=>by rw[t.1] at q1;cases q1
    go_wp2_with fail;go_ret;exact⟨D4 HN.out.symm,a0⟩
   by_cases q2:1<=x0.e
   case neg =>
    have HN:Hid (pB (N0 h)=false):=NO.out λt=>q2 t.2.1;go_wp2_with fail;go_ret;exact⟨D4 HN.out.symm,a0⟩
   by_cases q3:x0.e<=3
   case neg =>
    have HN:Hid (pB (N0 h)=false):=NO.out λt=>q3 t.2.2.1;go_wp2_with fail;go_ret;exact⟨D4 HN.out.symm,a0⟩
   by_cases q4:a<=x0.t
   case neg =>
    have HN:Hid (pB (N0 h)=false):=NO.out (HQ.out oM);go_wp2_with fail;go_ret;exact⟨D4 HN.out.symm,a0⟩
   by_cases q5:x0.t<=h.now
   case neg =>
    have HN:Hid (pB (N0 h)=false):=NO.out λt=>q5 t.2.2.2.2.1;go_wp2_with fail;go_ret;exact⟨D4 HN.out.symm,a0⟩
   have HY:Hid (0<=x0.t/\BO h.ds h.now (k+1)):=⟨(HP.out q4).1,YES.out ⟨q1,q2,q3,(HP.out q4).1,q5,(HP.out q4).2⟩⟩;go_wp2_with fail;go_roundw
   case rel=>exact⟨k+1,x0.t,oM,mO,rfl,⟨HY.out.1,λe=>oM,HT.out,HY.out.2⟩,a6⟩
   case measure=>simp[intOf];omega
  .have HY:Hid (pB (N0 h)=true):=M5 ⟨oM,by
    have:=HI.out.2.2.2;rwa [show k=h.ds.length by omega] at this⟩
   go_wp2_with fail;go_ret;exact⟨D4 HY.out.symm,D3 a9 hB⟩
section
open Go.Shelf Go.Sort
theorem XM{g cap n nn:Nat}{ks:List T6}(hown:w1.ownsRow w.heap.size 9 1 (Sy g n cap) n (ks.map encStr))(hbel:RowKit.Below w.heap.size w w1)(hlen:ks.length=n):
  (grow (putRow encStr (Sort.ahead w1 nn) g 0 (ks.mergeSort λx y=>decide (x<=y)).toArray) os).ownsRow w.heap.size 9 1 (Sy g n cap) n ((ks.mergeSort λx y=>decide (x<=y)).map encStr)/\
   RowKit.Below w.heap.size w (grow (putRow encStr (Sort.ahead w1 nn) g 0 (ks.mergeSort λx y=>decide (x<=y)).toArray) os):=by
 have a0:(ks.mergeSort λx y=>decide (x<=y)).length=ks.length:=List.length_mergeSort ks;subst hlen;rcases hown.2 with⟨h0,_⟩|⟨g',cap',cur,hv,hbase,hb,h1,h2,h3,h4⟩
 .cases h0
 cases hv
 exact⟨ownsRow_sorted (n:=nn) (os:=os) (ts:=ks.mergeSort λx y=>decide (x<=y)) a0 hbase hb h1 h2 h3,hbel.grown (grownBy_sorted _) hbel.size (λj hj=>by cases hj;exact hbase)⟩
end
theorem XN(h:House)(tv bv xv dv:Value)(w:World)(H:HV w h tv bv xv dv)(hok:J3 h.sh):
  cU prog 46 #[.agg #[Iz h.now,Iz h.last,tv,bv,xv,dv]] w (.bool (pB (Be h))):=by
 obtain⟨a1,c1,a2,c2,a3,c3,a4,c4,rfl,rfl,rfl,rfl⟩:=H.shapes;obtain⟨-,b3⟩:=H.x.inv rfl;have f6:h.sh.bs.length<=5:=hok.2.1;have Ha:Hid (Y4 (G9 h.sh.bs)):=hok.2.2.2.1;have HB:=H.b;clear H hok;obtain⟨ii,hi,d8,d9,e6⟩:=info_parts Av;have b6:=(A4 w.heap.size w).alloc (A3 _) (.cells (Hcz h a1 c1 a2 c2 a3 c3 a4 c4).toArray 38);have hC:CB (w.alloc (.cells (Hcz h a1 c1 a2 c2 a3 c3 a4 c4).toArray 38)) w.heap.size (Hcz h a1 c1 a2 c2 a3 c3 a4 c4):=E9 w _ _;delta cU;go_in;go_upto_region 1 with fail;generalize w.alloc (.cells (Hcz h a1 c1 a2 c2 a3 c3 a4 c4).toArray 38)=W1 at *;have d6:=hC.2.2;obtain⟨d0,d1,d2,d3,d4,d5⟩:=hC.c6;by_cases b4:h.bs.length=h.sh.bs.length
 case neg =>
  have HN:Hid (pB (Be h)=false):=F3 λt=>b4 t.1;go_wp2_with fail;go_ret;exact⟨D4 HN.out.symm,b6⟩
 have Hll:Hid (h.bs.length=h.sh.bs.length):=b4;have f7:h.bs.length<=5:=oM
 go_upto_region 3 with fail;clear b4;go_wp2_with fail;(try dsimp only[Iz,Sy,Sx,Nz,Vz,Tz,Ez,Pz]);go_loopw [3,5,17] (λu _ i w'=>∃k:Nat,k<=h.bs.length/\i=.int .i64 k/\w'.ownsRow W1.heap.size 9 1 u k ((G5 (h.bs.take k)).map Value.string)/\Up W1 w') (λ_ _ i _=>h.bs.length-(intOf i).toNat)
 case atStart=>exact⟨0,oM,rfl,⟨by simp[G5],.inl ⟨rfl,rfl⟩⟩,A4 _ _⟩
 case round =>
  obtain⟨k,hk,rfl,a0,hB⟩:=hrel;clear d0 d1 d2 d3 d4 d5;by_cases hp:k<h.bs.length
  .obtain⟨b,o,e7,hS,hb⟩:=b3 oM;subst e7;have a7:=D3 b6 hB;obtain⟨p,q,c,g,r,d,⟨e0,e1,e2,e3,e4,e5⟩,-⟩:=((hS.at hp).up a7 hb).open
   have Hs:Hid ((G5 (h.bs.take (k+1))).map Value.string=(G5 (h.bs.take k)).map Value.string++[Tz (h.bs[k]).nm]):=by
    show _=_
    rw[Aal h.bs k hp,List.map_append];rfl
   generalize h.bs[k]=x0 at *;clear hS;have b9:=hB.alloc hB.size (.cells (Rzz x0 p q c g r d).toArray 52);have a8:=R8 a0 ((A4 wr.heap.size wr).alloc (A3 _) (.cells (Rzz x0 p q c g r d).toArray 52));have hX:CB (wr.alloc (.cells (Rzz x0 p q c g r d).toArray 52)) wr.heap.size (Rzz x0 p q c g r d):=E9 wr _ _;have hz:=hB.size;go_upto_region 7 with fail;generalize wr.alloc (.cells (Rzz x0 p q c g r d).toArray 52)=W2 at *;obtain⟨f0,-⟩:=hX.c6;clear e0 e1 e2 e3 e4 e5 a0 hB;have a5:=R8 a8 ((A4 W2.heap.size W2).alloc (A3 _) (Kz [Tz x0.nm] 9));have b2:=b9.alloc b9.size (Kz [Tz x0.nm] 9);go_wp2_with (at_builtin;refine wpList_append_own _ rfl _ _ 132 rfl W1.heap.size 9 ii _ 1 16 underlying132 hi d8 d9 e6 rfl aS _ _ _ rfl a5 ⟨W2.heap.size,0,none⟩ 1 1 [Tz x0.nm] rfl rfl (Eb _ _ _) (LL _) (by unfold maxLen;omega) oM b2.size ?_)
   intro v1 w1 hown3 hgrow3 _;rw[← Hs.out] at hown3;have a9:=S0 b2 a5 hgrow3 (A3 _);clear a8 a5 hgrow3 b9 b2 hX f0;go_wp2_with fail;go_roundw
   case rel=>exact⟨k+1,oM,mO,hown3,a9⟩
   case measure=>simp[intOf];omega
  .have d7:k=h.bs.length:=oM
   rw[d7,List.take_length] at a0;clear d7;have a7:=D3 b6 hB
   have hz:∀s∈G5 h.bs,s.size<=maxLen:=λs hs=>by
    obtain⟨x,hx,rfl⟩:=List.mem_map.1 hs;obtain⟨i,hi,rfl⟩:=B7 hx;obtain⟨b,o,rfl,hS,hb⟩:=b3 oM;obtain⟨rv,sv,-,hv⟩:=hS.at hi;exact hv.zn
   have HS:=SH (h:=h) Ha.out Hll.out;have Hsrt:Hid (U5 (D7 (G5 h.bs))=D7 (G9 h.sh.bs)↔Be h):=HS;have Hkl:Hid ((D7 (G5 h.bs)).length=h.bs.length):=by show _=_;simp[D7,G5]
   have Hz:Hid (∀s∈F8 (U5 (D7 (G5 h.bs))),s.size<=maxLen):=λs hs=>by
    have h1:s.toList∈D7 (F8 (U5 (D7 (G5 h.bs)))):=Df.2 hs;rw[DH] at h1;have h2:s.toList∈D7 (G5 h.bs):=List.mem_mergeSort.1 h1;exact hz s (Df.1 h2)
   have Hfin:Hid (∀W,Up W1 W->∀u,Ls W u (F8 (U5 (D7 (G5 h.bs))))->∃x,True):=λ_ _ _ _=>⟨(),trivial⟩
   have Hans:Hid (pB (F8 (U5 (D7 (G5 h.bs)))=G9 h.sh.bs)=pB (Be h)):=by
    show _=_
    rw[Bool.eq_iff_iff,G7,G7,← Hsrt.out];constructor
    .intro e;rw[← e,DH]
    .intro e;rw[e];exact Jy _
   clear HS hz Hfin Hsrt;rw[Jr] at a0;obtain⟨d0,d1,d2,d3,d4,d5⟩:=(hC.up hB d6).c6;by_cases h0:h.bs.length=0
   .rw[h0] at a0;obtain⟨ua,uc,hu⟩:=MX a0;subst hu
    have HL:Hid (Ls wr (Vz ua 0 uc) (F8 (U5 (D7 (G5 h.bs))))):=by
     have e:h.bs=[]:=C4.1 h0;show Ls _ _ _
     rw[e];have e2:F8 (U5 (D7 (G5 ([]:List Rb))))=[]:=by simp[G5,D7,U5,F8]
     rw[e2];exact Ls.nil _ _ _
    have H0:Hid (h.bs.length=0):=h0;clear a0 h0;go_wp2_with fail;refine Swz (WW _ _ _) ?_;go_wp2_with fail;refine (Cx h.sh.bs _ _ (HB.up a7) oM).mono ?_;rintro e w3 ⟨⟨u3,rfl,-,c7⟩,a9⟩;have c5:=HL.out.up a9;clear d0 d1 d2 d3 d4 d5;go_wp2_with fail;refine (MV _ _ _ _ _ c5 c7).mono ?_;rintro e w4 ⟨rfl,c8⟩;have b0:=D3 (D3 a7 a9) c8;go_wp2_with fail;go_ret;exact⟨D4 Hans.out,b0⟩
   .obtain⟨n',hN⟩:∃n,n=h.bs.length:=⟨_,rfl⟩;have b1:(D7 (G5 h.bs)).length=n':=by rw[Hkl.out,hN]
    rw[← hN] at a0;have f3:0<n':=oM
    have f8:n'<=5:=oM
    clear hN;obtain⟨g,b7,e8⟩:=AG a0 f3;subst e8;obtain⟨g',e9,hv,f5,f1,c9,f2,_,hH⟩:=Lib.holds_of_ownsRow a0 dC;cases hv
    unfold maxLen at f2;have a6:=Zu g b7 (D7 (G5 h.bs)) wr hH f1 oM;rw[b1] at a6;go_wp2_with fail;refine a6.mono ?_;rintro e w2 ⟨rfl,nn,os,rfl⟩;clear a6;obtain⟨b8,b2⟩:=XM (nn:=nn) (os:=os) a0 hB b1
    have f4:Ls (Sort.grow (Sort.putRow encStr (Sort.ahead wr nn) g 0 ((D7 (G5 h.bs)).mergeSort λx y=>decide (x<=y)).toArray) os) (Sy g n' b7) (F8 (U5 (D7 (G5 h.bs)))):=by
     have b4:(F8 (U5 (D7 (G5 h.bs)))).length=n':=by simp[F8,U5,List.length_mergeSort,b1]
     rw[Km] at b8
     have:F9 (Sort.grow (Sort.putRow encStr (Sort.ahead wr nn) g 0 ((D7 (G5 h.bs)).mergeSort λx y=>decide (x<=y)).toArray) os) W1.heap.size (Sy g n' b7) (F8 (U5 (D7 (G5 h.bs)))):=by
      unfold F9;rw[b4];exact b8
     exact this.lst.ls Hz.out
    clear b8 hH;generalize Sort.grow (Sort.putRow encStr (Sort.ahead wr nn) g 0 ((D7 (G5 h.bs)).mergeSort λx y=>decide (x<=y)).toArray) os=W2 at *;have b5:=D3 b6 b2;clear d0 d1 d2 d3 d4 d5;obtain⟨d0,d1,d2,d3,d4,d5⟩:=(hC.up b2 d6).c6;go_wp2_with fail;refine (Cx h.sh.bs _ _ (HB.up b5) oM).mono ?_;rintro e w3 ⟨⟨u3,rfl,-,c7⟩,a9⟩;have c5:=f4.up a9;clear d0 d1 d2 d3 d4 d5;go_wp2_with fail;refine (MV _ _ _ _ _ c5 c7).mono ?_;rintro e w4 ⟨rfl,c8⟩;have b0:=D3 (D3 b5 a9) c8;go_wp2_with fail;go_ret;exact⟨D4 Hans.out,b0⟩
theorem Aat(h:House)(tv bv xv dv:Value)(w:World)(hE:F6 w)(H:HV w h tv bv xv dv):
  cU prog 47 #[.agg #[Iz h.now,Iz h.last,tv,bv,xv,dv]] w (.bool (pB (CW h))):=by
 obtain⟨a1,c1,a2,c2,a3,c3,a4,c4,rfl,rfl,rfl,rfl⟩:=H.shapes;obtain⟨a8,a9⟩:=H.x.inv rfl;unfold maxLen at a8;clear H;have HE:Hid (F6 w):=hE;clear hE;have a6:=(A4 w.heap.size w).alloc (A3 _) (.cells (Hcz h a1 c1 a2 c2 a3 c3 a4 c4).toArray 38);have hC:CB (w.alloc (.cells (Hcz h a1 c1 a2 c2 a3 c3 a4 c4).toArray 38)) w.heap.size (Hcz h a1 c1 a2 c2 a3 c3 a4 c4):=E9 w _ _;delta cU;go_in;go_upto_region 1 with fail;generalize w.alloc (.cells (Hcz h a1 c1 a2 c2 a3 c3 a4 c4).toArray 38)=W1 at *;have b0:=hC.2.2;obtain⟨d0,d1,d2,d3,d4,d5⟩:=hC.c6;go_wp2_with fail;(try dsimp only[Iz,Sy,Sx,Nz,Vz,Tz,Ez,Pz]);go_loopw [3,5,9] (λah _ i w'=>∃(k:Nat)(a:Int),k<=h.bs.length/\i=.int .i64 k/\ah=.int .i64 a/\((k=0->a=0)/\(∀(j:Nat)(p:Rb),j+1=k->h.bs[j]?=some p->a=p.st)/\Ks h.bs h.last k)/\Up W1 w') (λ_ _ i _=>h.bs.length-(intOf i).toNat)
 case atStart=>exact⟨0,0,oM,rfl,rfl,⟨λ_=>rfl,λj p hj=>oM,λi d hi=>oM⟩,A4 _ _⟩
 case round =>
  obtain⟨k,a,hk,rfl,rfl,hinv,hB⟩:=hrel;have HI:Hid ((k=0->a=0)/\(∀(j:Nat)(p:Rb),j+1=k->h.bs[j]?=some p->a=p.st)/\Ks h.bs h.last k):=hinv;clear hinv d0 d1 d2 d3 d4 d5;by_cases hp:k<h.bs.length
  .obtain⟨b,o,b8,hS,hb⟩:=a9 oM;subst b8;have b1:=D3 a6 hB;obtain⟨p,q,c,g,r,d,⟨e0,e1,e2,e3,e4,e5⟩,hv⟩:=((hS.at hp).up b1 hb).open;obtain⟨-,d1,-⟩:=(hC.up hB b0).c6;have NO:Hid (¬Lh h.bs h.last k h.bs[k]->pB (CW h)=false):=λhn=>F3 λt=>hn (t k _ hp (A0 hp));have YES:Hid (Lh h.bs h.last k h.bs[k]->Ks h.bs h.last (k+1)):=λhy=>Du (P:=Lh h.bs h.last) HI.out.2.2 hp hy
   have HT:Hid (∀(j:Nat)(p:Rb),j+1=k+1->h.bs[j]?=some p->(h.bs[k]).st=p.st):=λj p hj hp'=>by
    obtain rfl:j=k:=oM
    rw[A0 hp] at hp';obtain rfl:=A5 hp';rfl
   have HP:Hid (a<(h.bs[k]).st->∀(j:Nat)(p:Rb),j+1=k->h.bs[j]?=some p->p.st<(h.bs[k]).st):=λht j p hj hp'=>by
    rw[← HI.out.2.1 j p hj hp'];exact ht
   have HQ:Hid ((h.bs[k]).st<=a->¬Lh h.bs h.last k h.bs[k]):=λht hd=>by
    obtain⟨i1,i2,-⟩:=HI.out;obtain⟨k0,-,k2⟩:=hd;have:=k0.2.2.2.1;rcases C3 k with e|e
    .have:=i1 e;omega
    .obtain⟨j,rfl⟩:∃j,k=j+1:=⟨k-1,oM⟩;have hj:=A0 (l:=h.bs) (i:=j) oM;have:=k2 j _ rfl hj;have:=i2 j _ rfl hj;omega
   generalize h.bs[k]=x0 at *;clear hS;have b2:=hB.alloc hB.size (.cells (Rzz x0 p q c g r d).toArray 52);have hX:CB (wr.alloc (.cells (Rzz x0 p q c g r d).toArray 52)) wr.heap.size (Rzz x0 p q c g r d):=E9 wr _ _;have b6:=hv.up ((A4 wr.heap.size wr).alloc (A3 _) (.cells (Rzz x0 p q c g r d).toArray 52));have b7:=((A4 wr.heap.size wr).alloc (A3 _) (.cells (Rzz x0 p q c g r d).toArray 52)).cell (p:=⟨w.heap.size,1,none⟩) (A1 b0 hB.size) |>.trans d1
   go_upto_region 5 with fail;generalize wr.alloc (.cells (Rzz x0 p q c g r d).toArray 52)=W2 at *;obtain⟨f0,f1,f2,f3,f4,f5⟩:=hX.c6;have b3:=hX.2.2;have b4:w.heap.size<W2.heap.size:=A1 b0 b2.size;have b5:=D3 a6 b2;clear e0 e1 e2 e3 e4 e5 d1 hv;go_wp2_with fail;refine (Ga x0 _ _ _ (HE.out.up b5) b6).mono ?_;rintro e w3 ⟨rfl,a7⟩;have g5:=(a7.cell (p:=⟨wr.heap.size,5,none⟩) b3).trans f5;have g1:=(a7.cell (p:=⟨w.heap.size,1,none⟩) b4).trans b7;have a5:=D3 b2 a7;have a0:=D3 a6 a5;clear f0 f1 f2 f3 f4 f5 b7 a7 b6;cases q1:pB (I7 x0)
   .have HN:Hid (pB (CW h)=false):=NO.out λt=>N8.1 q1 t.1;go_wp2_with fail;go_ret;exact⟨D4 HN.out.symm,a0⟩
   by_cases q2:a<x0.st
   case neg =>
    have HN:Hid (pB (CW h)=false):=NO.out (HQ.out oM);go_wp2_with fail;go_ret;exact⟨D4 HN.out.symm,a0⟩
   by_cases q3:x0.st<=h.last
   case neg =>
    have HN:Hid (pB (CW h)=false):=NO.out λt=>q3 t.2.1;go_wp2_with fail;go_ret;exact⟨D4 HN.out.symm,a0⟩
   have HY:Hid (Ks h.bs h.last (k+1)):=YES.out ⟨G7.1 q1,q3,HP.out q2⟩;go_wp2_with fail;go_roundw
   case rel=>exact⟨k+1,x0.st,oM,mO,rfl,⟨λe=>oM,HT.out,HY.out⟩,a5⟩
   case measure=>simp[intOf];omega
  .have HY:Hid (pB (CW h)=true):=M5 (by
    have:=HI.out.2.2;rwa [show k=h.bs.length by omega] at this)
   go_wp2_with fail;go_ret;exact⟨D4 HY.out.symm,D3 a6 hB⟩
end Go.Proofs.YtaffjphkobhagaaGreatDoor
