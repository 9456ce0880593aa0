/- The program's checks of a house's times, of those that ended, of the book (chapter 22). -/
import Derived.Test.YtgecdacgmehmbaaGreatDoorJ28
import Derived.Test.YtgecdacgmehmbaaGreatDoorJ27
import Derived.Test.YtgecdacgmehmbaaGreatDoorJ19
import Derived.Test.YtgecdacgmehmbaaGreatDoorJ11
set_option maxRecDepth 20000
set_option maxHeartbeats 4000000
namespace Go.Proofs.YtgecdacgmehmbaaGreatDoor
open Go.RowKit
theorem Ajn (h:House) (tv bv xv dv:Value) (w:World) (H:HV w h tv bv xv dv) :
  Calls Tryz.prog 132 #[.agg #[.int .i64 h.now,.int .i64 h.last,tv,bv,xv,dv]] w λe w'=>e=.returned (.bool (pB (TimesOk h)))/\Below w.heap.size w w':=by
 obtain⟨a1,c1,a2,c2,a3,c3,a4,c4,rfl,rfl,rfl,rfl⟩:=H.shapes;have hB0:=(A4 w.heap.size w).alloc (A3 _) (.cells #[.int .i64 h.now,.int .i64 h.last,.slice a1 h.sh.things.length c1,.slice a2 h.sh.bs.length c2,.slice a3 h.bs.length c3,.slice a4 h.ds.length c4] 41);by_cases h1:0<=h.now
 case neg =>
  have HN:Hid (pB (TimesOk h)=false):=F1 λt=>h1 t.1;go_enter Tryz.func132,Tryz.ntmps132
  go_wp2
  go_ret
  exact⟨D6 HN.out.symm,hB0⟩
 by_cases h2:h.now<=100000
 case neg =>
  have HN:Hid (pB (TimesOk h)=false):=F1 λt=>h2 t.2.1;go_enter Tryz.func132,Tryz.ntmps132
  go_wp2
  go_ret
  exact⟨D6 HN.out.symm,hB0⟩
 by_cases h3:0<=h.last
 case neg =>
  have HN:Hid (pB (TimesOk h)=false):=F1 λt=>h3 t.2.2.1;go_enter Tryz.func132,Tryz.ntmps132
  go_wp2
  go_ret
  exact⟨D6 HN.out.symm,hB0⟩
 have HN:Hid (pB (TimesOk h)=decide (h.last<=1000000)):=by
  show _=_
  rw[Bool.eq_iff_iff,F7,decide_eq_true_iff];exact⟨λt=>t.2.2.2,λt=>⟨h1,h2,h3,t⟩⟩
 go_enter Tryz.func132,Tryz.ntmps132
 go_wp2
 go_ret
 exact⟨D6 (by rw[HN.out]),hB0⟩
theorem Ajo (h:House) (tv bv xv dv:Value) (w:World) (H:HV w h tv bv xv dv) :
  Calls Tryz.prog 134 #[.agg #[.int .i64 h.now,.int .i64 h.last,tv,bv,xv,dv]] w λe w'=>e=.returned (.bool (pB (SafeP h.sh)))/\Below w.heap.size w w':=by
 have hk:=H.book;obtain⟨a1,c1,a2,c2,a3,c3,a4,c4,rfl,rfl,rfl,rfl⟩:=H.shapes;have hB0:=(A4 w.heap.size w).alloc (A3 _) (.cells #[.int .i64 h.now,.int .i64 h.last,.slice a1 h.sh.things.length c1,.slice a2 h.sh.bs.length c2,.slice a3 h.bs.length c3,.slice a4 h.ds.length c4] 41);have hC:CB (w.alloc (.cells #[.int .i64 h.now,.int .i64 h.last,.slice a1 h.sh.things.length c1,.slice a2 h.sh.bs.length c2,.slice a3 h.bs.length c3,.slice a4 h.ds.length c4] 41)) w.heap.size [.int .i64 h.now,.int .i64 h.last,.slice a1 h.sh.things.length c1,.slice a2 h.sh.bs.length c2,.slice a3 h.bs.length c3,.slice a4 h.ds.length c4]:=E8 w _ _;go_enter Tryz.func134,Tryz.ntmps134
 go_upto_region 1 with fail
 generalize w.alloc (.cells #[.int .i64 h.now,.int .i64 h.last,.slice a1 h.sh.things.length c1,.slice a2 h.sh.bs.length c2,.slice a3 h.bs.length c3,.slice a4 h.ds.length c4] 41)=W1 at *;obtain⟨d0,d1,d2,d3,d4,d5⟩:=hC.c6;go_wp2_with fail
 refine (AdF h.sh _ _ (hk.up hB0)).mono ?_;rintro e w2 ⟨⟨ss,ok,rfl,ho⟩,hB2⟩;have Ho:Hid (ok=pB (SafeP h.sh)):=Aif ho;clear d0 d1 d2 d3 d4 d5 ho;go_wp2_with fail
 go_ret
 exact⟨D6 Ho.out,D5 hB0 hB2⟩
theorem Ajp (h:House) (tv bv xv dv:Value) (w:World) (H:HV w h tv bv xv dv) :
  Calls Tryz.prog 133 #[.agg #[.int .i64 h.now,.int .i64 h.last,tv,bv,xv,dv]] w λe w'=>e=.returned (.bool (pB (DonesOk h)))/\Below w.heap.size w w':=by
 obtain⟨-,-,-,a4',c4',e4',-,hpos⟩:=id H;obtain⟨a1,c1,a2,c2,a3,c3,a4,c4,rfl,rfl,rfl,rfl⟩:=H.shapes;simp only[Value.slice.injEq] at e4';obtain⟨rfl,-,rfl⟩:=e4';clear H;have hB0:=(A4 w.heap.size w).alloc (A3 _) (.cells #[.int .i64 h.now,.int .i64 h.last,.slice a1 h.sh.things.length c1,.slice a2 h.sh.bs.length c2,.slice a3 h.bs.length c3,.slice a4 h.ds.length c4] 41);have hC:CB (w.alloc (.cells #[.int .i64 h.now,.int .i64 h.last,.slice a1 h.sh.things.length c1,.slice a2 h.sh.bs.length c2,.slice a3 h.bs.length c3,.slice a4 h.ds.length c4] 41)) w.heap.size [.int .i64 h.now,.int .i64 h.last,.slice a1 h.sh.things.length c1,.slice a2 h.sh.bs.length c2,.slice a3 h.bs.length c3,.slice a4 h.ds.length c4]:=E8 w _ _;go_enter Tryz.func133,Tryz.ntmps133
 go_upto_region 1 with fail
 generalize w.alloc (.cells #[.int .i64 h.now,.int .i64 h.last,.slice a1 h.sh.things.length c1,.slice a2 h.sh.bs.length c2,.slice a3 h.bs.length c3,.slice a4 h.ds.length c4] 41)=W1 at *;have hlt:=hC.2.2;obtain⟨d0,d1,d2,d3,d4,d5⟩:=hC.c6;by_cases h20:20<h.ds.length
 ·have HN:Hid (pB (DonesOk h)=false):=F1 λt=>by have:=t.1;omega
  go_wp2_with fail
  go_ret
  exact⟨D6 HN.out.symm,hB0⟩
 go_wp2_with fail
 go_loopw [3,5,13] (λah _ i w'=>∃(k:Nat) (a:Int),k<=h.ds.length/\i=.int .i64 k/\ah=.int .i64 a/\(0<=a/\(k=0->a=0)/\(∀(j:Nat) (p:Done),j+1=k->h.ds[j]?=some p->a=p.t)/\DonesTo h.ds h.now k)/\Below W1.heap.size W1 w') (λ_ _ i _=>h.ds.length-(intOf i).toNat)
 case atStart=>exact⟨0,0,by omega,rfl,rfl,⟨by omega,λ_=>rfl,λj p hj=>by omega,λi d hi=>by omega⟩,A4 _ _⟩
 case round =>
  obtain⟨k,a,hk,rfl,rfl,hinv,hB⟩:=hrel;have HI:Hid (0<=a/\(k=0->a=0)/\(∀(j:Nat) (p:Done),j+1=k->h.ds[j]?=some p->a=p.t)/\DonesTo h.ds h.now k):=hinv;clear hinv d0 d1 d2 d3 d4 d5;by_cases hp:k<h.ds.length
  ·obtain⟨b,o,ha,hD,hb⟩:=hpos (by omega)
   subst ha;have hB01:=D5 hB0 hB;obtain⟨hrg,zn⟩:=hD.up hB01 hb k _ (A0 hp);have c0:=hrg 0 _ rfl;have c1':=hrg 1 _ rfl;have c2':=hrg 2 _ rfl;simp only[Nat.add_zero] at c0;obtain⟨d0,-⟩:=(hC.up hB hlt).c6;have NO:Hid (¬DoneOk h.ds h.now k h.ds[k]->pB (DonesOk h)=false):=λhn=>F1 λt=>hn (t.2 k _ hp (A0 hp));have YES:Hid (DoneOk h.ds h.now k h.ds[k]->DonesTo h.ds h.now (k+1)):=λhy=>Y7 (P:=DoneOk h.ds h.now) HI.out.2.2.2 hp hy
   have HT:Hid (∀(j:Nat) (p:Done),j+1=k+1->h.ds[j]?=some p->(h.ds[k]).t=p.t):=λj p hj hp'=>by
    obtain rfl:j=k:=by omega
    rw[A0 hp] at hp';obtain rfl:=A5 hp';rfl
   have HP:Hid (a<=(h.ds[k]).t->0<=(h.ds[k]).t/\∀(j:Nat) (p:Done),j+1=k->h.ds[j]?=some p->p.t<=(h.ds[k]).t):=λht=>by
    obtain⟨i0,i1,i2,-⟩:=HI.out;exact⟨by omega,λj p hj hp'=>by rw[← i2 j p hj hp'];exact ht⟩
   have HQ:Hid ((h.ds[k]).t<a->¬DoneOk h.ds h.now k h.ds[k]):=λht hd=>by
    obtain⟨i0,i1,i2,-⟩:=HI.out;obtain⟨-,-,-,k0,-,k2⟩:=hd;rcases C3 k with e|e
    ·have:=i1 e;omega
    ·obtain⟨j,rfl⟩:∃j,k=j+1:=⟨k-1,by omega⟩
     have hj:=A0 (l:=h.ds) (i:=j) (by omega);have:=k2 j _ rfl hj;have:=i2 j _ rfl hj;omega
   generalize h.ds[k]=x0 at *;have hB1:=hB.alloc hB.size (.cells #[.string (x0).nm,.int .i64 (x0).e,.int .i64 (x0).t] 124);have hX:CB (wr.alloc (.cells #[.string (x0).nm,.int .i64 (x0).e,.int .i64 (x0).t] 124)) wr.heap.size [.string x0.nm,.int .i64 x0.e,.int .i64 x0.t]:=E8 wr _ _;have d0':=((A4 wr.heap.size wr).alloc (A3 _) (.cells #[.string (x0).nm,.int .i64 (x0).e,.int .i64 (x0).t] 124)).cell (p:=⟨w.heap.size,0,none⟩) (A1 hlt hB.size) |>.trans d0
   go_upto_region 7 with fail
   generalize wr.alloc (.cells #[.string (x0).nm,.int .i64 (x0).e,.int .i64 (x0).t] 124)=W2 at *;obtain⟨⟨f0,f1,f2⟩,-⟩:=hX.c3;have hXlt:=hX.2.2;have hqlt:w.heap.size<W2.heap.size:=A1 hlt hB1.size;clear c0 c1' c2' d0 hrg;go_wp2_with fail
   refine (M6 _ _ zn).mono ?_;rintro e w3 ⟨rfl,hB3⟩;have g1:=(hB3.cell (p:=⟨wr.heap.size,1,none⟩) hXlt).trans f1;have g2:=(hB3.cell (p:=⟨wr.heap.size,2,none⟩) hXlt).trans f2;have g3:=(hB3.cell (p:=⟨w.heap.size,0,none⟩) hqlt).trans d0';have hB13:=D5 hB1 hB3;have hB03:=D5 hB0 hB13;clear f0 f1 f2 d0' hB3;cases q1:nameB x0.nm
   ·have HN:Hid (pB (DonesOk h)=false):=NO.out λt=>by rw[t.1] at q1;cases q1
    go_wp2_with fail
    go_ret
    exact⟨D6 HN.out.symm,hB03⟩
   by_cases q2:1<=x0.e
   case neg =>
    have HN:Hid (pB (DonesOk h)=false):=NO.out λt=>q2 t.2.1;go_wp2_with fail
    go_ret
    exact⟨D6 HN.out.symm,hB03⟩
   by_cases q3:x0.e<=3
   case neg =>
    have HN:Hid (pB (DonesOk h)=false):=NO.out λt=>q3 t.2.2.1;go_wp2_with fail
    go_ret
    exact⟨D6 HN.out.symm,hB03⟩
   by_cases q4:a<=x0.t
   case neg =>
    have HN:Hid (pB (DonesOk h)=false):=NO.out (HQ.out (by omega));go_wp2_with fail
    go_ret
    exact⟨D6 HN.out.symm,hB03⟩
   by_cases q5:x0.t<=h.now
   case neg =>
    have HN:Hid (pB (DonesOk h)=false):=NO.out λt=>q5 t.2.2.2.2.1;go_wp2_with fail
    go_ret
    exact⟨D6 HN.out.symm,hB03⟩
   have HY:Hid (0<=x0.t/\DonesTo h.ds h.now (k+1)):=⟨(HP.out q4).1,YES.out ⟨q1,q2,q3,(HP.out q4).1,q5,(HP.out q4).2⟩⟩;go_wp2_with fail
   go_roundw
   case rel=>exact⟨k+1,x0.t,by omega,by go_num,rfl,⟨HY.out.1,λe=>by omega,HT.out,HY.out.2⟩,hB13⟩
   case measure=>simp[intOf];omega
  ·have HY:Hid (pB (DonesOk h)=true):=G9 ⟨by omega,by
    have:=HI.out.2.2.2;rwa [show k=h.ds.length by omega] at this⟩
   go_wp2_with fail
   go_ret
   exact⟨D6 HY.out.symm,D5 hB0 hB⟩
section
open Go.Shelf Go.Sort
theorem Ajq {w w1:World} {g cap n nn:Nat} {os:Array Obj} {ks:List Key} (hown:w1.ownsRow w.heap.size 9 1 (.slice (some ⟨g,0,none⟩) n cap) n (ks.map encStr)) (hbel:RowKit.Below w.heap.size w w1) (hlen:ks.length=n) :
  (grow (putRow encStr (Sort.ahead w1 nn) g 0 (ks.mergeSort λx y=>decide (x<=y)).toArray) os).ownsRow w.heap.size 9 1 (.slice (some ⟨g,0,none⟩) n cap) n ((ks.mergeSort λx y=>decide (x<=y)).map encStr)/\
   RowKit.Below w.heap.size w (grow (putRow encStr (Sort.ahead w1 nn) g 0 (ks.mergeSort λx y=>decide (x<=y)).toArray) os):=by
 have hl2:(ks.mergeSort λx y=>decide (x<=y)).length=ks.length:=List.length_mergeSort ks;subst hlen;rcases hown.2 with⟨h0,_⟩|⟨g',cap',cur,hv,hbase,hb,h1,h2,h3,h4⟩
 ·cases h0
 cases hv
 exact⟨ownsRow_sorted (n:=nn) (os:=os) (ts:=ks.mergeSort λx y=>decide (x<=y)) hl2 hbase hb h1 h2 h3,hbel.grown (grownBy_sorted _) hbel.size (λj hj=>by cases hj;exact hbase)⟩
end
theorem Ajr (h:House) (tv bv xv dv:Value) (w:World) (H:HV w h tv bv xv dv) (hok:BookOk h.sh) :
  Calls Tryz.prog 135 #[.agg #[.int .i64 h.now,.int .i64 h.last,tv,bv,xv,dv]] w λe w'=>e=.returned (.bool (pB (NamesOk h)))/\Below w.heap.size w w':=by
 obtain⟨a1,c1,a2,c2,a3,c3,a4,c4,rfl,rfl,rfl,rfl⟩:=H.shapes;obtain⟨-,hpos⟩:=H.x.inv rfl;have hb5:h.sh.bs.length<=5:=hok.2.1;have Ha:Hid (Asc (nms h.sh.bs)):=hok.2.2.2.1;have HB:=H.b;clear H hok;obtain⟨ii,hi,iz0,iz1,iz2⟩:=info_parts L9;have hB0:=(A4 w.heap.size w).alloc (A3 _) (.cells #[.int .i64 h.now,.int .i64 h.last,.slice a1 h.sh.things.length c1,.slice a2 h.sh.bs.length c2,.slice a3 h.bs.length c3,.slice a4 h.ds.length c4] 41);have hC:CB (w.alloc (.cells #[.int .i64 h.now,.int .i64 h.last,.slice a1 h.sh.things.length c1,.slice a2 h.sh.bs.length c2,.slice a3 h.bs.length c3,.slice a4 h.ds.length c4] 41)) w.heap.size [.int .i64 h.now,.int .i64 h.last,.slice a1 h.sh.things.length c1,.slice a2 h.sh.bs.length c2,.slice a3 h.bs.length c3,.slice a4 h.ds.length c4]:=E8 w _ _;go_enter Tryz.func135,Tryz.ntmps135
 go_upto_region 1 with fail
 generalize w.alloc (.cells #[.int .i64 h.now,.int .i64 h.last,.slice a1 h.sh.things.length c1,.slice a2 h.sh.bs.length c2,.slice a3 h.bs.length c3,.slice a4 h.ds.length c4] 41)=W1 at *;have hlt:=hC.2.2;obtain⟨d0,d1,d2,d3,d4,d5⟩:=hC.c6;by_cases hll:h.bs.length=h.sh.bs.length
 case neg =>
  have HN:Hid (pB (NamesOk h)=false):=F1 λt=>hll t.1;go_wp2_with fail
  go_ret
  exact⟨D6 HN.out.symm,hB0⟩
 have Hll:Hid (h.bs.length=h.sh.bs.length):=hll;have hx5:h.bs.length<=5:=by omega
 go_upto_region 3 with fail
 clear hll;go_wp2_with fail
 go_loopw [3,5,17] (λu _ i w'=>∃k:Nat,k<=h.bs.length/\i=.int .i64 k/\w'.ownsRow W1.heap.size 9 1 u k ((rnms (h.bs.take k)).map Value.string)/\Below W1.heap.size W1 w') (λ_ _ i _=>h.bs.length-(intOf i).toNat)
 case atStart=>exact⟨0,by omega,rfl,⟨by simp[rnms],.inl ⟨rfl,rfl⟩⟩,A4 _ _⟩
 case round =>
  obtain⟨k,hk,rfl,hown,hB⟩:=hrel;clear d0 d1 d2 d3 d4 d5;by_cases hp:k<h.bs.length
  ·obtain⟨b,o,ha3,hS,hb⟩:=hpos (by omega)
   subst ha3;have hB01:=D5 hB0 hB;obtain⟨p,q,c,g,r,d,⟨e0,e1,e2,e3,e4,e5⟩,-⟩:=((hS.at hp).up hB01 hb).open
   have Hs:Hid ((rnms (h.bs.take (k+1))).map Value.string=(rnms (h.bs.take k)).map Value.string++[.string (h.bs[k]).nm]):=by
    show _=_
    rw[AkP h.bs k hp,List.map_append];rfl
   generalize h.bs[k]=x0 at *;clear hS;have hB1:=hB.alloc hB.size (.cells #[.string x0.nm,.slice (some ⟨p,q,none⟩) x0.ps.length c,.slice (some ⟨g,r,none⟩) x0.sl.length d,.string x0.ad,.int .i64 x0.si,.int .i64 x0.st] 71);have hown1:=E0 hown ((A4 wr.heap.size wr).alloc (A3 _) (.cells #[.string x0.nm,.slice (some ⟨p,q,none⟩) x0.ps.length c,.slice (some ⟨g,r,none⟩) x0.sl.length d,.string x0.ad,.int .i64 x0.si,.int .i64 x0.st] 71));have hX:CB (wr.alloc (.cells #[.string x0.nm,.slice (some ⟨p,q,none⟩) x0.ps.length c,.slice (some ⟨g,r,none⟩) x0.sl.length d,.string x0.ad,.int .i64 x0.si,.int .i64 x0.st] 71)) wr.heap.size [.string x0.nm,.slice (some ⟨p,q,none⟩) x0.ps.length c,.slice (some ⟨g,r,none⟩) x0.sl.length d,.string x0.ad,.int .i64 x0.si,.int .i64 x0.st]:=E8 wr _ _;have hz:=hB.size;go_upto_region 7 with fail
   generalize wr.alloc (.cells #[.string x0.nm,.slice (some ⟨p,q,none⟩) x0.ps.length c,.slice (some ⟨g,r,none⟩) x0.sl.length d,.string x0.ad,.int .i64 x0.si,.int .i64 x0.st] 71)=W2 at *;obtain⟨f0,-⟩:=hX.c6;clear e0 e1 e2 e3 e4 e5 hown hB;have hown2:=E0 hown1 ((A4 W2.heap.size W2).alloc (A3 _) (.cells #[.string x0.nm] 9));have hB2:=hB1.alloc hB1.size (.cells #[.string x0.nm] 9);go_wp2_with (at_builtin;refine wpList_append_own _ rfl _ _ 171 rfl W1.heap.size 9 ii _ 1 16 Tryz.underlying171 hi iz0 iz1 iz2 rfl (by decide) _ _ _ rfl hown2 ⟨W2.heap.size,0,none⟩ 1 1 [.string x0.nm] rfl rfl (S1 _ _ _) (Abp _) (by unfold maxLen;omega) (by omega) hB2.size ?_)
   intro v1 w1 hown3 hgrow3 _;rw[← Hs.out] at hown3;have hB3:=G4 hB2 hown2 hgrow3 (A3 _);clear hown1 hown2 hgrow3 hB1 hB2 hX f0;go_wp2_with fail
   go_roundw
   case rel=>exact⟨k+1,by omega,by go_num,hown3,hB3⟩
   case measure=>simp[intOf];omega
  ·have hkl:k=h.bs.length:=by omega
   rw[hkl,List.take_length] at hown;clear hkl;have hB01:=D5 hB0 hB
   have hz:∀s∈rnms h.bs,s.size<=maxLen:=λs hs=>by
    obtain⟨x,hx,rfl⟩:=List.mem_map.1 hs;obtain⟨i,hi,rfl⟩:=B5 hx;obtain⟨b,o,rfl,hS,hb⟩:=hpos (by omega);obtain⟨rv,sv,-,hv⟩:=hS.at hi;exact hv.zn
   have HS:=Agj (h:=h) Ha.out Hll.out;have Hsrt:Hid (sorted (keys (rnms h.bs))=keys (nms h.sh.bs)↔NamesOk h):=HS;have Hkl:Hid ((keys (rnms h.bs)).length=h.bs.length):=by show _=_;simp[keys,rnms]
   have Hz:Hid (∀s∈namesOf (sorted (keys (rnms h.bs))),s.size<=maxLen):=λs hs=>by
    have h1:s.toList∈keys (namesOf (sorted (keys (rnms h.bs)))):=Y0.2 hs;rw[Aac] at h1;have h2:s.toList∈keys (rnms h.bs):=List.mem_mergeSort.1 h1;exact hz s (Y0.1 h2)
   have Hfin:Hid (∀W,Below W1.heap.size W1 W->∀u,Ls W u (namesOf (sorted (keys (rnms h.bs))))->∃x,True):=λ_ _ _ _=>⟨(),trivial⟩
   have Hans:Hid (pB (namesOf (sorted (keys (rnms h.bs)))=nms h.sh.bs)=pB (NamesOk h)):=by
    show _=_
    rw[Bool.eq_iff_iff,F7,F7,← Hsrt.out];constructor
    ·intro e;rw[← e,Aac]
    ·intro e;rw[e];exact Acf _
   clear HS hz Hfin Hsrt;rw[Acd] at hown;obtain⟨d0,d1,d2,d3,d4,d5⟩:=(hC.up hB hlt).c6;by_cases h0:h.bs.length=0
   ·rw[h0] at hown
    obtain⟨ua,uc,hu⟩:=Aei hown;subst hu
    have HL:Hid (Ls wr (.slice ua 0 uc) (namesOf (sorted (keys (rnms h.bs))))):=by
     have e:h.bs=[]:=C4.1 h0;show Ls _ _ _
     rw[e];have e2:namesOf (sorted (keys (rnms ([]:List Rb))))=[]:=by simp[rnms,keys,sorted,namesOf]
     rw[e2];exact Ls.nil _ _ _
    have H0:Hid (h.bs.length=0):=h0;clear hown h0;go_wp2_with fail
    refine (AiX _ _ _).mono ?_;rintro e w' ⟨rfl,hw⟩;obtain rfl:=hw.symm;clear hw;go_wp2_with fail
    refine (U9 h.sh.bs _ _ (HB.up hB01) (by omega)).mono ?_;rintro e w3 ⟨⟨u3,rfl,-,hL3⟩,hB3⟩;have hL4:=HL.out.up hB3;clear d0 d1 d2 d3 d4 d5;go_wp2_with fail
    refine (Aej _ _ _ _ _ hL4 hL3).mono ?_;rintro e w4 ⟨rfl,hB4⟩;have hB04:=D5 (D5 hB01 hB3) hB4;go_wp2_with fail
    go_ret
    exact⟨D6 Hans.out,hB04⟩
   ·obtain⟨n',hN⟩:∃n,n=h.bs.length:=⟨_,rfl⟩
    have hlen:(keys (rnms h.bs)).length=n':=by rw[Hkl.out,hN]
    rw[← hN] at hown;have hnp:0<n':=by omega
    have hn9:n'<=5:=by omega
    clear hN;obtain⟨g,cap,hug⟩:=F2 hown hnp;subst hug;obtain⟨g',cap',hv,hbg,hgl,hncap,hcm,_,hH⟩:=Lib.holds_of_ownsRow hown (by simp);cases hv
    unfold maxLen at hcm;have hsort:=Ak9 g cap (keys (rnms h.bs)) wr hH hgl (by omega);rw[hlen] at hsort;go_wp2_with fail
    refine hsort.mono ?_;rintro e w2 ⟨rfl,nn,os,rfl⟩;clear hsort;obtain⟨ho2,hB2⟩:=Ajq (nn:=nn) (os:=os) hown hB hlen
    have hL2:Ls (Sort.grow (Sort.putRow encStr (Sort.ahead wr nn) g 0 ((keys (rnms h.bs)).mergeSort λx y=>decide (x<=y)).toArray) os) (.slice (some ⟨g,0,none⟩) n' cap) (namesOf (sorted (keys (rnms h.bs)))):=by
     have hll:(namesOf (sorted (keys (rnms h.bs)))).length=n':=by simp[namesOf,sorted,List.length_mergeSort,hlen]
     rw[AcA] at ho2
     have:OwnT (Sort.grow (Sort.putRow encStr (Sort.ahead wr nn) g 0 ((keys (rnms h.bs)).mergeSort λx y=>decide (x<=y)).toArray) os) W1.heap.size (.slice (some ⟨g,0,none⟩) n' cap) (namesOf (sorted (keys (rnms h.bs)))):=by
      unfold OwnT;rw[hll];exact ho2
     exact this.lst.ls Hz.out
    clear ho2 hH;generalize Sort.grow (Sort.putRow encStr (Sort.ahead wr nn) g 0 ((keys (rnms h.bs)).mergeSort λx y=>decide (x<=y)).toArray) os=W2 at *;have hB02:=D5 hB0 hB2;clear d0 d1 d2 d3 d4 d5;obtain⟨d0,d1,d2,d3,d4,d5⟩:=(hC.up hB2 hlt).c6;go_wp2_with fail
    refine (U9 h.sh.bs _ _ (HB.up hB02) (by omega)).mono ?_;rintro e w3 ⟨⟨u3,rfl,-,hL3⟩,hB3⟩;have hL4:=hL2.up hB3;clear d0 d1 d2 d3 d4 d5;go_wp2_with fail
    refine (Aej _ _ _ _ _ hL4 hL3).mono ?_;rintro e w4 ⟨rfl,hB4⟩;have hB04:=D5 (D5 hB02 hB3) hB4;go_wp2_with fail
    go_ret
    exact⟨D6 Hans.out,hB04⟩
theorem AkS (h:House) (tv bv xv dv:Value) (w:World) (hE:Ends w) (H:HV w h tv bv xv dv) :
  Calls Tryz.prog 136 #[.agg #[.int .i64 h.now,.int .i64 h.last,tv,bv,xv,dv]] w λe w'=>e=.returned (.bool (pB (BatsOk h)))/\Below w.heap.size w w':=by
 obtain⟨a1,c1,a2,c2,a3,c3,a4,c4,rfl,rfl,rfl,rfl⟩:=H.shapes;obtain⟨hmax,hpos⟩:=H.x.inv rfl;unfold maxLen at hmax;clear H;have HE:Hid (Ends w):=hE;clear hE;have hB0:=(A4 w.heap.size w).alloc (A3 _) (.cells #[.int .i64 h.now,.int .i64 h.last,.slice a1 h.sh.things.length c1,.slice a2 h.sh.bs.length c2,.slice a3 h.bs.length c3,.slice a4 h.ds.length c4] 41);have hC:CB (w.alloc (.cells #[.int .i64 h.now,.int .i64 h.last,.slice a1 h.sh.things.length c1,.slice a2 h.sh.bs.length c2,.slice a3 h.bs.length c3,.slice a4 h.ds.length c4] 41)) w.heap.size [.int .i64 h.now,.int .i64 h.last,.slice a1 h.sh.things.length c1,.slice a2 h.sh.bs.length c2,.slice a3 h.bs.length c3,.slice a4 h.ds.length c4]:=E8 w _ _;go_enter Tryz.func136,Tryz.ntmps136
 go_upto_region 1 with fail
 generalize w.alloc (.cells #[.int .i64 h.now,.int .i64 h.last,.slice a1 h.sh.things.length c1,.slice a2 h.sh.bs.length c2,.slice a3 h.bs.length c3,.slice a4 h.ds.length c4] 41)=W1 at *;have hlt:=hC.2.2;obtain⟨d0,d1,d2,d3,d4,d5⟩:=hC.c6;go_wp2_with fail
 go_loopw [3,5,9] (λah _ i w'=>∃(k:Nat) (a:Int),k<=h.bs.length/\i=.int .i64 k/\ah=.int .i64 a/\((k=0->a=0)/\(∀(j:Nat) (p:Rb),j+1=k->h.bs[j]?=some p->a=p.st)/\BatsTo h.bs h.last k)/\Below W1.heap.size W1 w') (λ_ _ i _=>h.bs.length-(intOf i).toNat)
 case atStart=>exact⟨0,0,by omega,rfl,rfl,⟨λ_=>rfl,λj p hj=>by omega,λi d hi=>by omega⟩,A4 _ _⟩
 case round =>
  obtain⟨k,a,hk,rfl,rfl,hinv,hB⟩:=hrel;have HI:Hid ((k=0->a=0)/\(∀(j:Nat) (p:Rb),j+1=k->h.bs[j]?=some p->a=p.st)/\BatsTo h.bs h.last k):=hinv;clear hinv d0 d1 d2 d3 d4 d5;by_cases hp:k<h.bs.length
  ·obtain⟨b,o,ha3,hS,hb⟩:=hpos (by omega)
   subst ha3;have hB01:=D5 hB0 hB;obtain⟨p,q,c,g,r,d,⟨e0,e1,e2,e3,e4,e5⟩,hv⟩:=((hS.at hp).up hB01 hb).open;obtain⟨-,d1,-⟩:=(hC.up hB hlt).c6;have NO:Hid (¬BatOk h.bs h.last k h.bs[k]->pB (BatsOk h)=false):=λhn=>F1 λt=>hn (t k _ hp (A0 hp));have YES:Hid (BatOk h.bs h.last k h.bs[k]->BatsTo h.bs h.last (k+1)):=λhy=>Y7 (P:=BatOk h.bs h.last) HI.out.2.2 hp hy
   have HT:Hid (∀(j:Nat) (p:Rb),j+1=k+1->h.bs[j]?=some p->(h.bs[k]).st=p.st):=λj p hj hp'=>by
    obtain rfl:j=k:=by omega
    rw[A0 hp] at hp';obtain rfl:=A5 hp';rfl
   have HP:Hid (a<(h.bs[k]).st->∀(j:Nat) (p:Rb),j+1=k->h.bs[j]?=some p->p.st<(h.bs[k]).st):=λht j p hj hp'=>by
    rw[← HI.out.2.1 j p hj hp'];exact ht
   have HQ:Hid ((h.bs[k]).st<=a->¬BatOk h.bs h.last k h.bs[k]):=λht hd=>by
    obtain⟨i1,i2,-⟩:=HI.out;obtain⟨k0,-,k2⟩:=hd;have:=k0.2.2.2.1;rcases C3 k with e|e
    ·have:=i1 e;omega
    ·obtain⟨j,rfl⟩:∃j,k=j+1:=⟨k-1,by omega⟩
     have hj:=A0 (l:=h.bs) (i:=j) (by omega);have:=k2 j _ rfl hj;have:=i2 j _ rfl hj;omega
   generalize h.bs[k]=x0 at *;clear hS;have hB1:=hB.alloc hB.size (.cells #[.string x0.nm,.slice (some ⟨p,q,none⟩) x0.ps.length c,.slice (some ⟨g,r,none⟩) x0.sl.length d,.string x0.ad,.int .i64 x0.si,.int .i64 x0.st] 71);have hX:CB (wr.alloc (.cells #[.string x0.nm,.slice (some ⟨p,q,none⟩) x0.ps.length c,.slice (some ⟨g,r,none⟩) x0.sl.length d,.string x0.ad,.int .i64 x0.si,.int .i64 x0.st] 71)) wr.heap.size [.string x0.nm,.slice (some ⟨p,q,none⟩) x0.ps.length c,.slice (some ⟨g,r,none⟩) x0.sl.length d,.string x0.ad,.int .i64 x0.si,.int .i64 x0.st]:=E8 wr _ _;have hv2:=hv.up ((A4 wr.heap.size wr).alloc (A3 _) (.cells #[.string x0.nm,.slice (some ⟨p,q,none⟩) x0.ps.length c,.slice (some ⟨g,r,none⟩) x0.sl.length d,.string x0.ad,.int .i64 x0.si,.int .i64 x0.st] 71));have d1':=((A4 wr.heap.size wr).alloc (A3 _) (.cells #[.string x0.nm,.slice (some ⟨p,q,none⟩) x0.ps.length c,.slice (some ⟨g,r,none⟩) x0.sl.length d,.string x0.ad,.int .i64 x0.si,.int .i64 x0.st] 71)).cell (p:=⟨w.heap.size,1,none⟩) (A1 hlt hB.size) |>.trans d1
   go_upto_region 5 with fail
   generalize wr.alloc (.cells #[.string x0.nm,.slice (some ⟨p,q,none⟩) x0.ps.length c,.slice (some ⟨g,r,none⟩) x0.sl.length d,.string x0.ad,.int .i64 x0.si,.int .i64 x0.st] 71)=W2 at *;obtain⟨f0,f1,f2,f3,f4,f5⟩:=hX.c6;have hXlt:=hX.2.2;have hqlt:w.heap.size<W2.heap.size:=A1 hlt hB1.size;have hB02:=D5 hB0 hB1;clear e0 e1 e2 e3 e4 e5 d1 hv;go_wp2_with fail
   refine (Aaf x0 _ _ _ (HE.out.up hB02) hv2).mono ?_;rintro e w3 ⟨rfl,hB3⟩;have g5:=(hB3.cell (p:=⟨wr.heap.size,5,none⟩) hXlt).trans f5;have g1:=(hB3.cell (p:=⟨w.heap.size,1,none⟩) hqlt).trans d1';have hB13:=D5 hB1 hB3;have hB03:=D5 hB0 hB13;clear f0 f1 f2 f3 f4 f5 d1' hB3 hv2;cases q1:pB (RbOk x0)
   ·have HN:Hid (pB (BatsOk h)=false):=NO.out λt=>J0.1 q1 t.1
    go_wp2_with fail
    go_ret
    exact⟨D6 HN.out.symm,hB03⟩
   by_cases q2:a<x0.st
   case neg =>
    have HN:Hid (pB (BatsOk h)=false):=NO.out (HQ.out (by omega));go_wp2_with fail
    go_ret
    exact⟨D6 HN.out.symm,hB03⟩
   by_cases q3:x0.st<=h.last
   case neg =>
    have HN:Hid (pB (BatsOk h)=false):=NO.out λt=>q3 t.2.1;go_wp2_with fail
    go_ret
    exact⟨D6 HN.out.symm,hB03⟩
   have HY:Hid (BatsTo h.bs h.last (k+1)):=YES.out ⟨F7.1 q1,q3,HP.out q2⟩;go_wp2_with fail
   go_roundw
   case rel=>exact⟨k+1,x0.st,by omega,by go_num,rfl,⟨λe=>by omega,HT.out,HY.out⟩,hB13⟩
   case measure=>simp[intOf];omega
  ·have HY:Hid (pB (BatsOk h)=true):=G9 (by
    have:=HI.out.2.2;rwa [show k=h.bs.length by omega] at this)
   go_wp2_with fail
   go_ret
   exact⟨D6 HY.out.symm,D5 hB0 hB⟩
end Go.Proofs.YtgecdacgmehmbaaGreatDoor
