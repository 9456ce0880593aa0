/- The program's check of what batches have (chapter 22). -/
import Derived.Test.YtebfdccbmmpceaaGreatDoorJ35
import Derived.Test.YtebfdccbmmpceaaGreatDoorJ27
import Derived.Test.YtebfdccbmmpceaaGreatDoorJ28
import Derived.Test.YtebfdccbmmpceaaGreatDoorJ30
set_option maxRecDepth 20000
set_option maxHeartbeats 8000000
namespace Go.Proofs.YtebfdccbmmpceaaGreatDoor
open Go.RowKit
theorem AlS (h:House) (tv bv xv dv:Value) (w:World) (hE:Ends w) (H:HV w h tv bv xv dv) (hok:BookOk h.sh) (hN:NamesOk h) (hBt:BatsOk h) :
  Calls Tryz.prog 133 #[.agg #[.int .i64 h.now,.int .i64 h.last,tv,bv,xv,dv]] w λe w'=>e=.returned (.bool (pB (HaveTo h h.bs.length)))/\Below w.heap.size w w':=by
 obtain⟨a1,c1,a2,c2,a3,c3,a4,c4,rfl,rfl,rfl,rfl⟩:=H.shapes;obtain⟨hmax,hpos⟩:=H.x.inv rfl;unfold maxLen at hmax;have HK:=H.book;clear H;have HE:Hid (Ends w):=hE;have HM:Hid (BookOk h.sh/\NamesOk h):=⟨hok,hN⟩;have HBt:Hid (BatsOk h):=hBt;clear hE hok hN hBt;have hfd:=AjZ;have hB0:=(A4 w.heap.size w).alloc (A3 _) (.cells #[.int .i64 h.now,.int .i64 h.last,.slice a1 h.sh.things.length c1,.slice a2 h.sh.bs.length c2,.slice a3 h.bs.length c3,.slice a4 h.ds.length c4] 37);have hC:CB (w.alloc (.cells #[.int .i64 h.now,.int .i64 h.last,.slice a1 h.sh.things.length c1,.slice a2 h.sh.bs.length c2,.slice a3 h.bs.length c3,.slice a4 h.ds.length c4] 37)) w.heap.size [.int .i64 h.now,.int .i64 h.last,.slice a1 h.sh.things.length c1,.slice a2 h.sh.bs.length c2,.slice a3 h.bs.length c3,.slice a4 h.ds.length c4]:=E7 w _ _;go_enter Tryz.func133,Tryz.ntmps133
 go_upto_region 1 with fail
 generalize w.alloc (.cells #[.int .i64 h.now,.int .i64 h.last,.slice a1 h.sh.things.length c1,.slice a2 h.sh.bs.length c2,.slice a3 h.bs.length c3,.slice a4 h.ds.length c4] 37)=W1 at *;have hlt:=hC.2.2;obtain⟨d0,d1,d2,d3,d4,d5⟩:=hC.c6;go_wp2_with fail
 go_loopw [4,5,6,10] (λ_ _ _ i w'=>∃k:Nat,k<=h.bs.length/\i=.int .i64 k/\HaveTo h k/\Below W1.heap.size W1 w') (λ_ _ _ i _=>h.bs.length-(intOf i).toNat)
 case atStart=>exact⟨0,by omega,rfl,λi b hi=>by omega,A4 _ _⟩
 case round =>
  obtain⟨k,hk,rfl,hinv,hB⟩:=hrel;have HI:Hid (HaveTo h k):=hinv;clear hinv d0 d1 d2 d3 d4 d5;by_cases hp:k<h.bs.length
  ·obtain⟨b,o,ha3,hS,hb⟩:=hpos (by omega)
   subst ha3;have hB01:=D6 hB0 hB;obtain⟨p,q,c,g,r,d,⟨e0,e1,e2,e3,e4,e5⟩,hv⟩:=((hS.at hp).up hB01 hb).open;have NO:Hid (¬(0<=(h.bs[k]).si->Part (rbOwn h.bs[k]) (shOf h.sh (h.bs[k]).nm).has)->pB (HaveTo h h.bs.length)=false):=λhn=>F3 λt=>hn (t k _ hp (A0 hp));have YES:Hid ((0<=(h.bs[k]).si->Part (rbOwn h.bs[k]) (shOf h.sh (h.bs[k]).nm).has)->HaveTo h (k+1)):=λhy=>Z7 (P:=λ_ (b:Rb)=>0<=b.si->Part (rbOwn b) (shOf h.sh b.nm).has) HI.out hp hy;have Hsi:Hid (-1<=(h.bs[k]).si):=(HBt.out k _ hp (A0 hp)).1.2.2.2.2.2.1;have Hmem:Hid ((h.bs[k]).nm∈nms h.sh.bs):=HM.out.2.2.2 _ (List.mem_map.2 ⟨h.bs[k],by simp,rfl⟩);generalize h.bs[k]=x0 at *;clear hS;have hB1:=hB.alloc hB.size (.cells #[.string x0.nm,.slice (some ⟨p,q,none⟩) x0.ps.length c,.slice (some ⟨g,r,none⟩) x0.sl.length d,.string x0.ad,.int .i64 x0.si,.int .i64 x0.st] 52);have hX:CB (wr.alloc (.cells #[.string x0.nm,.slice (some ⟨p,q,none⟩) x0.ps.length c,.slice (some ⟨g,r,none⟩) x0.sl.length d,.string x0.ad,.int .i64 x0.si,.int .i64 x0.st] 52)) wr.heap.size [.string x0.nm,.slice (some ⟨p,q,none⟩) x0.ps.length c,.slice (some ⟨g,r,none⟩) x0.sl.length d,.string x0.ad,.int .i64 x0.si,.int .i64 x0.st]:=E7 wr _ _;have hv2:=hv.up ((A4 wr.heap.size wr).alloc (A3 _) (.cells #[.string x0.nm,.slice (some ⟨p,q,none⟩) x0.ps.length c,.slice (some ⟨g,r,none⟩) x0.sl.length d,.string x0.ad,.int .i64 x0.si,.int .i64 x0.st] 52));go_upto_region 4 with fail
   generalize wr.alloc (.cells #[.string x0.nm,.slice (some ⟨p,q,none⟩) x0.ps.length c,.slice (some ⟨g,r,none⟩) x0.sl.length d,.string x0.ad,.int .i64 x0.si,.int .i64 x0.st] 52)=W2 at *;obtain⟨f0,f1,f2,f3,f4,f5⟩:=hX.c6;obtain⟨d0,d1,d2,d3,d4,d5⟩:=(hC.up hB1 hlt).c6;have hXlt:=hX.2.2;have hqlt:w.heap.size<W2.heap.size:=A1 hlt hB1.size;have hB02:=D6 hB0 hB1;have hS0:Below W2.heap.size W2 W2/\W2.cell? ⟨w.heap.size,0,none⟩=some (.int .i64 h.now)/\W2.cell? ⟨w.heap.size,1,none⟩=some (.int .i64 h.last)/\W2.cell? ⟨w.heap.size,2,none⟩=some (.slice a1 h.sh.things.length c1)/\W2.cell? ⟨w.heap.size,3,none⟩=some (.slice a2 h.sh.bs.length c2)/\W2.cell? ⟨w.heap.size,4,none⟩=some (.slice (some ⟨b,o,none⟩) h.bs.length c3)/\W2.cell? ⟨w.heap.size,5,none⟩=some (.slice a4 h.ds.length c4)/\W2.cell? ⟨wr.heap.size,0,none⟩=some (.string x0.nm)/\W2.cell? ⟨wr.heap.size,1,none⟩=some (.slice (some ⟨p,q,none⟩) x0.ps.length c)/\W2.cell? ⟨wr.heap.size,2,none⟩=some (.slice (some ⟨g,r,none⟩) x0.sl.length d)/\W2.cell? ⟨wr.heap.size,3,none⟩=some (.string x0.ad)/\W2.cell? ⟨wr.heap.size,4,none⟩=some (.int .i64 x0.si)/\W2.cell? ⟨wr.heap.size,5,none⟩=some (.int .i64 x0.st):=⟨A4 _ _,d0,d1,d2,d3,d4,d5,f0,f1,f2,f3,f4,f5⟩;have HSH:Hid (∀W,Below w.heap.size w W->Calls Tryz.prog 161 #[.agg #[.int .i64 h.now,.int .i64 h.last,.slice a1 h.sh.things.length c1,.slice a2 h.sh.bs.length c2,.slice (some ⟨b,o,none⟩) h.bs.length c3,.slice a4 h.ds.length c4],.agg #[.string x0.nm,.slice (some ⟨p,q,none⟩) x0.ps.length c,.slice (some ⟨g,r,none⟩) x0.sl.length d,.string x0.ad,.int .i64 x0.si,.int .i64 x0.st]] W λe w'=>(∃b1 k1 b2 k2,e=.returned (.agg #[.string (shOf h.sh x0.nm).nm,.slice b1 (shOf h.sh x0.nm).has.length k1,.slice b2 (shOf h.sh x0.nm).needs.length k2])/\Ls w' (.slice b1 (shOf h.sh x0.nm).has.length k1) (shOf h.sh x0.nm).has/\Ls w' (.slice b2 (shOf h.sh x0.nm).needs.length k2) (shOf h.sh x0.nm).needs)/\Below W.heap.size W w'):=λW hW=>AdB h x0 a1 a2 (some ⟨b,o,none⟩) a4 c1 c2 c3 c4 p q c g r d W (HK.up hW) HM.out.1 Hmem.out;clear e0 e1 e2 e3 e4 e5 hv d0 d1 d2 d3 d4 d5 f0 f1 f2 f3 f4 f5;have Hsz:Hid (∀s∈rbOwn x0,s.size<=maxLen):=L8 hv2;have Hv:Hid (RbV W2 x0 (.slice (some ⟨p,q,none⟩) x0.ps.length c) (.slice (some ⟨g,r,none⟩) x0.sl.length d)):=hv2;clear hv2;generalize hy:shOf h.sh x0.nm=y at *;by_cases hsi:x0.si=-1
   ·have HY:Hid (HaveTo h (k+1)):=YES.out λh0=>by omega
    have hS1:Below W2.heap.size W2 W2/\W2.cell? ⟨w.heap.size,0,none⟩=some (.int .i64 h.now)/\W2.cell? ⟨w.heap.size,1,none⟩=some (.int .i64 h.last)/\W2.cell? ⟨w.heap.size,2,none⟩=some (.slice a1 h.sh.things.length c1)/\W2.cell? ⟨w.heap.size,3,none⟩=some (.slice a2 h.sh.bs.length c2)/\W2.cell? ⟨w.heap.size,4,none⟩=some (.slice (some ⟨b,o,none⟩) h.bs.length c3)/\W2.cell? ⟨w.heap.size,5,none⟩=some (.slice a4 h.ds.length c4)/\W2.cell? ⟨wr.heap.size,0,none⟩=some (.string x0.nm)/\W2.cell? ⟨wr.heap.size,1,none⟩=some (.slice (some ⟨p,q,none⟩) x0.ps.length c)/\W2.cell? ⟨wr.heap.size,2,none⟩=some (.slice (some ⟨g,r,none⟩) x0.sl.length d)/\W2.cell? ⟨wr.heap.size,3,none⟩=some (.string x0.ad)/\W2.cell? ⟨wr.heap.size,4,none⟩=some (.int .i64 (-1))/\W2.cell? ⟨wr.heap.size,5,none⟩=some (.int .i64 x0.st):=by rw[← hsi];exact hS0
    obtain⟨-,-,-,-,-,-,-,f0,f1,f2,f3,f4,f5⟩:=hS1;have Hs1:Hid (x0.si=-1):=hsi;clear hsi hS0;go_upto_region 5 with (go_at_call 55;refine (AcD _ _ _ _ _ _ _ _ _ _).mono ?_;rintro e w3 ⟨rfl,hb3⟩)
    have hB3:=D6 hB1 hb3;clear f0 f1 f2 f3 f4 f5;go_wp2_with fail
    go_quiet (fail)
    go_wp2_with fail
    go_roundw
    case rel=>exact⟨k+1,by omega,by go_num,HY.out,E8 hB3 _⟩
    case measure=>simp[intOf];omega
   ·have H0:Hid (0<=x0.si):=by have:=Hsi.out;show _<=_;omega
    have Hs1:Hid (¬x0.si=-1):=hsi;obtain⟨-,-,-,-,-,-,-,f0,f1,f2,f3,f4,f5⟩:=id hS0;clear hsi;go_upto_region 5 with (go_at_call 55;refine (Ael _ _ _ _ _ _ _ _ _ _ _ Hs1.out).mono ?_;rintro e w3 ⟨rfl,hb3⟩)
    have hS3:=Abm hqlt hXlt hS0 hb3;have hv3:=Hv.out.up hb3;have hB03:=D6 hB02 hb3;clear f0 f1 f2 f3 f4 f5 hS0;have hS4:Below w3.heap.size w3 w3/\w3.cell? ⟨w.heap.size,0,none⟩=some (.int .i64 h.now)/\w3.cell? ⟨w.heap.size,1,none⟩=some (.int .i64 h.last)/\w3.cell? ⟨w.heap.size,2,none⟩=some (.slice a1 h.sh.things.length c1)/\w3.cell? ⟨w.heap.size,3,none⟩=some (.slice a2 h.sh.bs.length c2)/\w3.cell? ⟨w.heap.size,4,none⟩=some (.slice (some ⟨b,o,none⟩) h.bs.length c3)/\w3.cell? ⟨w.heap.size,5,none⟩=some (.slice a4 h.ds.length c4)/\w3.cell? ⟨wr.heap.size,0,none⟩=some (.string x0.nm)/\w3.cell? ⟨wr.heap.size,1,none⟩=some (.slice (some ⟨p,q,none⟩) x0.ps.length c)/\w3.cell? ⟨wr.heap.size,2,none⟩=some (.slice (some ⟨g,r,none⟩) x0.sl.length d)/\w3.cell? ⟨wr.heap.size,3,none⟩=some (.string x0.ad)/\w3.cell? ⟨wr.heap.size,4,none⟩=some (.int .i64 x0.si)/\w3.cell? ⟨wr.heap.size,5,none⟩=some (.int .i64 x0.st):=⟨A4 _ _,hS3.2⟩;have hq3:w.heap.size<w3.heap.size:=A1 hqlt hb3.size;have hr3:wr.heap.size<w3.heap.size:=A1 hXlt hb3.size;have hB13:=D6 hB1 hb3;clear hS3;go_wp2_with fail
    go_region_held (λw'=>Below w3.heap.size w3 w'/\w'.cell? ⟨w.heap.size,0,none⟩=some (.int .i64 h.now)/\w'.cell? ⟨w.heap.size,1,none⟩=some (.int .i64 h.last)/\w'.cell? ⟨w.heap.size,2,none⟩=some (.slice a1 h.sh.things.length c1)/\w'.cell? ⟨w.heap.size,3,none⟩=some (.slice a2 h.sh.bs.length c2)/\w'.cell? ⟨w.heap.size,4,none⟩=some (.slice (some ⟨b,o,none⟩) h.bs.length c3)/\w'.cell? ⟨w.heap.size,5,none⟩=some (.slice a4 h.ds.length c4)/\w'.cell? ⟨wr.heap.size,0,none⟩=some (.string x0.nm)/\w'.cell? ⟨wr.heap.size,1,none⟩=some (.slice (some ⟨p,q,none⟩) x0.ps.length c)/\w'.cell? ⟨wr.heap.size,2,none⟩=some (.slice (some ⟨g,r,none⟩) x0.sl.length d)/\w'.cell? ⟨wr.heap.size,3,none⟩=some (.string x0.ad)/\w'.cell? ⟨wr.heap.size,4,none⟩=some (.int .i64 x0.si)/\w'.cell? ⟨wr.heap.size,5,none⟩=some (.int .i64 x0.st)) (first|exact Abl hS4|exact Abm hq3 hr3 (by assumption) (by assumption))
     (first
      | (go_at_call 104;refine (Aea x0 _ _ _ (HE.out.up hB03.drew) (hv3.up (A4 _ _).drew)).mono ?_;rintro e w4 ⟨⟨u4,rfl,hO4⟩,hb4⟩;have hB04:=D6 hB03.drew hb4)
      | (go_at_call 161;refine (HSH.out _ hB04).mono ?_;rintro e w5 ⟨⟨s1,k1,s2,k2,rfl,hL5,-⟩,hb5⟩;have hO5:=hO4.up hb5)
      | (go_at_call 162;refine (Aad _ _ _ _ _ (hO5.lst.ls Hsz.out) hL5).mono ?_;rintro e w6 ⟨rfl,hb6⟩))
    rename_i hHeld;have hB6:=D6 hB13 hHeld.1;have hB06:=D6 hB0 hB6;clear hHeld hS4 hL5 hO4 hO5 hb4 hb5 hb6 hB04;cases hq:pB (PartOk (rbOwn x0) y.has)
    ·have HN:Hid (pB (HaveTo h h.bs.length)=false):=NO.out λt=>J4.1 hq ⟨t H0.out,Alc x0⟩
     go_wp2_with fail
     go_ret
     exact⟨D7 HN.out.symm,hB06⟩
    ·have HY:Hid (HaveTo h (k+1)):=YES.out λ_=>(F8.1 hq).1
     go_wp2_with fail
     go_roundw
     case rel=>exact⟨k+1,by omega,by go_num,HY.out,hB6⟩
     case measure=>simp[intOf];omega
  ·have HY:Hid (pB (HaveTo h h.bs.length)=true):=I7 (by
    have:=HI.out;rwa [show k=h.bs.length by omega] at this)
   go_wp2_with fail
   go_ret
   exact⟨D7 HY.out.symm,D6 hB0 hB⟩
def chk (h:House) (j:Nat):Prop:=match j with
 | 0=>TimesOk h
 | 1=>DonesOk h
 | 2=>SafeP h.sh
 | 3=>NamesOk h
 | 4=>BatsOk h
 | 5=>NeedTo h h.bs.length
 | _=>HaveTo h h.bs.length
theorem R6 (h:House):HouseOk h↔∀j,j<7->chk h j:=by
 constructor
 ·rintro⟨t0,t1,t2,t3,t4,t5,t6⟩ j hj
  match j,hj with
  | 0,_=>exact t0
  | 1,_=>exact t1
  | 2,_=>exact t2
  | 3,_=>exact t3
  | 4,_=>exact t4
  | 5,_=>exact t5
  | 6,_=>exact t6
 ·intro t
  exact⟨t 0 (by omega),t 1 (by omega),t 2 (by omega),t 3 (by omega),t 4 (by omega),t 5 (by omega),t 6 (by omega)⟩
theorem Ahi (h:House) (tv bv xv dv:Value) (w:World) (hE:Ends w) (H:HV w h tv bv xv dv) :
  Calls Tryz.prog 97 #[.agg #[.int .i64 h.now,.int .i64 h.last,tv,bv,xv,dv]] w λe w'=>e=.returned (.bool (pB (HouseOk h)))/\Below w.heap.size w w':=by
 obtain⟨a1,c1,a2,c2,a3,c3,a4,c4,rfl,rfl,rfl,rfl⟩:=H.shapes;have HE:Hid (Ends w):=hE;clear hE;have hB0:=(A4 w.heap.size w).alloc (A3 _) (.cells #[.int .i64 h.now,.int .i64 h.last,.slice a1 h.sh.things.length c1,.slice a2 h.sh.bs.length c2,.slice a3 h.bs.length c3,.slice a4 h.ds.length c4] 37);have hC:CB (w.alloc (.cells #[.int .i64 h.now,.int .i64 h.last,.slice a1 h.sh.things.length c1,.slice a2 h.sh.bs.length c2,.slice a3 h.bs.length c3,.slice a4 h.ds.length c4] 37)) w.heap.size [.int .i64 h.now,.int .i64 h.last,.slice a1 h.sh.things.length c1,.slice a2 h.sh.bs.length c2,.slice a3 h.bs.length c3,.slice a4 h.ds.length c4]:=E7 w _ _;go_enter Tryz.func97,Tryz.ntmps97
 go_upto_region 1 with fail
 generalize w.alloc (.cells #[.int .i64 h.now,.int .i64 h.last,.slice a1 h.sh.things.length c1,.slice a2 h.sh.bs.length c2,.slice a3 h.bs.length c3,.slice a4 h.ds.length c4] 37)=W1 at *;have hlt:=hC.2.2;have hF0:CB (W1.alloc (.cells #[.func (.func 127) #[] #[],.func (.func 128) #[] #[],.func (.func 129) #[] #[],.func (.func 130) #[] #[],.func (.func 131) #[] #[],.func (.func 132) #[] #[],.func (.func 133) #[] #[]] 47)) W1.heap.size [.func (.func 127) #[] #[],.func (.func 128) #[] #[],.func (.func 129) #[] #[],.func (.func 130) #[] #[],.func (.func 131) #[] #[],.func (.func 132) #[] #[],.func (.func 133) #[] #[]]:=E7 W1 _ _;have hBF:=(A4 W1.heap.size W1).alloc (A3 _) (.cells #[.func (.func 127) #[] #[],.func (.func 128) #[] #[],.func (.func 129) #[] #[],.func (.func 130) #[] #[],.func (.func 131) #[] #[],.func (.func 132) #[] #[],.func (.func 133) #[] #[]] 47);go_upto_region 2 with fail
 generalize W1.alloc (.cells #[.func (.func 127) #[] #[],.func (.func 128) #[] #[],.func (.func 129) #[] #[],.func (.func 130) #[] #[],.func (.func 131) #[] #[],.func (.func 132) #[] #[],.func (.func 133) #[] #[]] 47)=W2 at *;have hFlt:=hF0.2.2;go_wp2_with fail
 go_loopw [5,9] (λ_ i w'=>∃k:Nat,k<=7/\i=.int .i64 k/\(∀j,j<k->chk h j)/\Below W1.heap.size W1 w'/\Below W2.heap.size W2 w') (λ_ i _=>7-(intOf i).toNat)
 case atStart=>exact⟨0,by omega,rfl,λj hj=>by omega,hBF,A4 _ _⟩
 case round =>
  obtain⟨k,hk,rfl,hinv,hB,hBW⟩:=hrel;have HI:Hid (∀j,j<k->chk h j):=hinv;clear hinv;by_cases hp:k<7
  ·have hB01:=D6 hB0 hB
   have HV1:=H.up hB01;have hE1:=HE.out.up hB01;obtain⟨d0,d1,d2,d3,d4,d5⟩:=(hC.up hB hlt).c6;have hF:=hF0.up hBW hFlt;rcases (by omega:k=0∨k=1∨k=2∨k=3∨k=4∨k=5∨k=6) with rfl|rfl|rfl|rfl|rfl|rfl|rfl
   ·have cf:wr.cell? ⟨W1.heap.size,0,none⟩=some (.func (.func 127) #[] #[]):=hF.1 0 _ rfl
    go_wp2_with fail
    refine (Aj5 h _ _ _ _ _ HV1).mono ?_;rintro e w3 ⟨rfl,hB3⟩;have hB13:=D6 hB hB3;have hB03:=D6 hB0 hB13;clear d0 d1 d2 d3 d4 d5 cf;cases hq:pB (chk h 0)
    ·have HN:Hid (pB (HouseOk h)=false):=F3 λt=>J4.1 hq (((R6 h).1 t) 0 (by omega))
     have hq':pB (chk h 0)=false:=hq;unfold chk at hq';go_wp2_with fail
     go_ret
     exact⟨D7 HN.out.symm,hB03⟩
    ·have HY:Hid (∀j,j<0+1->chk h j):=λj hj=>by
      rcases Nat.lt_or_ge j 0 with h'|h'
      ·exact HI.out j h'
      ·obtain rfl:j=0:=by omega
       exact F8.1 hq
     have hq':pB (chk h 0)=true:=hq;unfold chk at hq';go_wp2_with fail
     go_roundw
     case rel=>exact⟨1,by omega,by go_num,HY.out,hB13,D6 hBW hB3⟩
     case measure=>simp[intOf]
   ·have cf:wr.cell? ⟨W1.heap.size,1,none⟩=some (.func (.func 128) #[] #[]):=hF.1 1 _ rfl
    go_wp2_with fail
    refine (Aj7 h _ _ _ _ _ HV1).mono ?_;rintro e w3 ⟨rfl,hB3⟩;have hB13:=D6 hB hB3;have hB03:=D6 hB0 hB13;clear d0 d1 d2 d3 d4 d5 cf;cases hq:pB (chk h 1)
    ·have HN:Hid (pB (HouseOk h)=false):=F3 λt=>J4.1 hq (((R6 h).1 t) 1 (by omega))
     have hq':pB (chk h 1)=false:=hq;unfold chk at hq';go_wp2_with fail
     go_ret
     exact⟨D7 HN.out.symm,hB03⟩
    ·have HY:Hid (∀j,j<1+1->chk h j):=λj hj=>by
      rcases Nat.lt_or_ge j 1 with h'|h'
      ·exact HI.out j h'
      ·obtain rfl:j=1:=by omega
       exact F8.1 hq
     have hq':pB (chk h 1)=true:=hq;unfold chk at hq';go_wp2_with fail
     go_roundw
     case rel=>exact⟨2,by omega,by go_num,HY.out,hB13,D6 hBW hB3⟩
     case measure=>simp[intOf]
   ·have cf:wr.cell? ⟨W1.heap.size,2,none⟩=some (.func (.func 129) #[] #[]):=hF.1 2 _ rfl
    go_wp2_with fail
    refine (Aj6 h _ _ _ _ _ HV1).mono ?_;rintro e w3 ⟨rfl,hB3⟩;have hB13:=D6 hB hB3;have hB03:=D6 hB0 hB13;clear d0 d1 d2 d3 d4 d5 cf;cases hq:pB (chk h 2)
    ·have HN:Hid (pB (HouseOk h)=false):=F3 λt=>J4.1 hq (((R6 h).1 t) 2 (by omega))
     have hq':pB (chk h 2)=false:=hq;unfold chk at hq';go_wp2_with fail
     go_ret
     exact⟨D7 HN.out.symm,hB03⟩
    ·have HY:Hid (∀j,j<2+1->chk h j):=λj hj=>by
      rcases Nat.lt_or_ge j 2 with h'|h'
      ·exact HI.out j h'
      ·obtain rfl:j=2:=by omega
       exact F8.1 hq
     have hq':pB (chk h 2)=true:=hq;unfold chk at hq';go_wp2_with fail
     go_roundw
     case rel=>exact⟨3,by omega,by go_num,HY.out,hB13,D6 hBW hB3⟩
     case measure=>simp[intOf]
   ·have cf:wr.cell? ⟨W1.heap.size,3,none⟩=some (.func (.func 130) #[] #[]):=hF.1 3 _ rfl
    go_wp2_with fail
    refine (AjE h _ _ _ _ _ HV1 (HI.out 2 (by omega)).book).mono ?_;rintro e w3 ⟨rfl,hB3⟩;have hB13:=D6 hB hB3;have hB03:=D6 hB0 hB13;clear d0 d1 d2 d3 d4 d5 cf;cases hq:pB (chk h 3)
    ·have HN:Hid (pB (HouseOk h)=false):=F3 λt=>J4.1 hq (((R6 h).1 t) 3 (by omega))
     have hq':pB (chk h 3)=false:=hq;unfold chk at hq';go_wp2_with fail
     go_ret
     exact⟨D7 HN.out.symm,hB03⟩
    ·have HY:Hid (∀j,j<3+1->chk h j):=λj hj=>by
      rcases Nat.lt_or_ge j 3 with h'|h'
      ·exact HI.out j h'
      ·obtain rfl:j=3:=by omega
       exact F8.1 hq
     have hq':pB (chk h 3)=true:=hq;unfold chk at hq';go_wp2_with fail
     go_roundw
     case rel=>exact⟨4,by omega,by go_num,HY.out,hB13,D6 hBW hB3⟩
     case measure=>simp[intOf]
   ·have cf:wr.cell? ⟨W1.heap.size,4,none⟩=some (.func (.func 131) #[] #[]):=hF.1 4 _ rfl
    go_wp2_with fail
    refine (Als h _ _ _ _ _ hE1 HV1).mono ?_;rintro e w3 ⟨rfl,hB3⟩;have hB13:=D6 hB hB3;have hB03:=D6 hB0 hB13;clear d0 d1 d2 d3 d4 d5 cf;cases hq:pB (chk h 4)
    ·have HN:Hid (pB (HouseOk h)=false):=F3 λt=>J4.1 hq (((R6 h).1 t) 4 (by omega))
     have hq':pB (chk h 4)=false:=hq;unfold chk at hq';go_wp2_with fail
     go_ret
     exact⟨D7 HN.out.symm,hB03⟩
    ·have HY:Hid (∀j,j<4+1->chk h j):=λj hj=>by
      rcases Nat.lt_or_ge j 4 with h'|h'
      ·exact HI.out j h'
      ·obtain rfl:j=4:=by omega
       exact F8.1 hq
     have hq':pB (chk h 4)=true:=hq;unfold chk at hq';go_wp2_with fail
     go_roundw
     case rel=>exact⟨5,by omega,by go_num,HY.out,hB13,D6 hBW hB3⟩
     case measure=>simp[intOf]
   ·have cf:wr.cell? ⟨W1.heap.size,5,none⟩=some (.func (.func 132) #[] #[]):=hF.1 5 _ rfl
    go_wp2_with fail
    refine (Ake h _ _ _ _ _ hE1 HV1 (HI.out 2 (by omega)).book (HI.out 3 (by omega))).mono ?_;rintro e w3 ⟨rfl,hB3⟩;have hB13:=D6 hB hB3;have hB03:=D6 hB0 hB13;clear d0 d1 d2 d3 d4 d5 cf;cases hq:pB (chk h 5)
    ·have HN:Hid (pB (HouseOk h)=false):=F3 λt=>J4.1 hq (((R6 h).1 t) 5 (by omega))
     have hq':pB (chk h 5)=false:=hq;unfold chk at hq';go_wp2_with fail
     go_ret
     exact⟨D7 HN.out.symm,hB03⟩
    ·have HY:Hid (∀j,j<5+1->chk h j):=λj hj=>by
      rcases Nat.lt_or_ge j 5 with h'|h'
      ·exact HI.out j h'
      ·obtain rfl:j=5:=by omega
       exact F8.1 hq
     have hq':pB (chk h 5)=true:=hq;unfold chk at hq';go_wp2_with fail
     go_roundw
     case rel=>exact⟨6,by omega,by go_num,HY.out,hB13,D6 hBW hB3⟩
     case measure=>simp[intOf]
   ·have cf:wr.cell? ⟨W1.heap.size,6,none⟩=some (.func (.func 133) #[] #[]):=hF.1 6 _ rfl
    go_wp2_with fail
    refine (AlS h _ _ _ _ _ hE1 HV1 (HI.out 2 (by omega)).book (HI.out 3 (by omega)) (HI.out 4 (by omega))).mono ?_;rintro e w3 ⟨rfl,hB3⟩;have hB13:=D6 hB hB3;have hB03:=D6 hB0 hB13;clear d0 d1 d2 d3 d4 d5 cf;cases hq:pB (chk h 6)
    ·have HN:Hid (pB (HouseOk h)=false):=F3 λt=>J4.1 hq (((R6 h).1 t) 6 (by omega))
     have hq':pB (chk h 6)=false:=hq;unfold chk at hq';go_wp2_with fail
     go_ret
     exact⟨D7 HN.out.symm,hB03⟩
    ·have HY:Hid (∀j,j<6+1->chk h j):=λj hj=>by
      rcases Nat.lt_or_ge j 6 with h'|h'
      ·exact HI.out j h'
      ·obtain rfl:j=6:=by omega
       exact F8.1 hq
     have hq':pB (chk h 6)=true:=hq;unfold chk at hq';go_wp2_with fail
     go_roundw
     case rel=>exact⟨7,by omega,by go_num,HY.out,hB13,D6 hBW hB3⟩
     case measure=>simp[intOf]
  ·have HY:Hid (pB (HouseOk h)=true):=I7 ((R6 h).2 λj hj=>HI.out j (by omega))
   go_wp2_with fail
   go_ret
   exact⟨D7 HY.out.symm,D6 hB0 hB⟩
theorem AeH {P:Program} (w:World) (base t ty e:Nat) (i:TypeInfo) (z:Value) (size bytes:Nat) (ht:P.underlying t=some (.slice e)) (hi:P.info? e=some i) (hz:i.zero=some z)
  (hsize:i.size=size) (hby:i.bytes=bytes) (hzs:z.cells.size=size) (g p n cap:Nat) (pre xs:List Value) (hpre:pre.length=p*size)
  (hown:w.ownsRow base e size (.slice (some ⟨g,0,none⟩) (p+n) (p+cap)) (p+n) (pre++xs))
  (a:Addr) (m c:Nat) (news:List Value) (hl:news.length=m*size) (hnews:∀j u,news[j]?=some u->w.cell? (a.add j)=some u) (h1:∀u∈news,u.oneCell'=true)
  (h63:n+m<=maxLen) (hbytes:(n+m)*bytes<=140737488355328) (hbase:base<=w.heap.size) :
  ∃v' w',(Builtin.append_ #[t,t] ty #[.slice (some ⟨g,p*size,none⟩) n cap,.slice (some a) m c]).run P w=.ok v' w'/\w.grownBy w' (some g)/\
   ((v'=.slice (some ⟨g,p*size,none⟩) (n+m) cap/\w'.ownsRow base e size (.slice (some ⟨g,0,none⟩) (p+(n+m)) (p+cap)) (p+(n+m)) (pre++(xs++news)))∨
    ∃c',v'=.slice (some ⟨w.heap.size,0,none⟩) (n+m) c'/\w'.ownsRow base e size v' (n+m) (xs++news)):=by
 subst hsize;subst hby;have hxl:xs.length=n*i.size:=by have:=hown.1;rw[A9,hpre,Nat.add_mul] at this;omega
 rcases hown.2 with⟨h,_⟩|⟨g',cap',cur,h,hbg,hg,hnc,hcm,hcs,htake⟩
 ·simp at h
 simp only[Value.slice.injEq,Option.some.injEq,Addr.mk.injEq,and_true,true_and] at h;obtain⟨rfl,rfl⟩:=h;by_cases hroom:n+m<=cap
 ·have hfit:p*i.size+n*i.size+news.length<=cur.size:=by
   rw[hl,hcs,← Nat.add_mul,← Nat.add_mul];exact Nat.mul_le_mul_right _ (by omega)
  have hf:=run_firstCells_some (P:=P) w i.size m a m c news hl hnews;have hst:=run_storeCells_at P g (p*i.size+n*i.size) e news 0 cur w hg (by simpa using hfit) h1;simp only[Nat.add_zero] at hst;refine⟨.slice (some ⟨g,p*i.size,none⟩) (n+m) cap,w.setRow g (cur.toList.take (p*i.size+n*i.size)++news++cur.toList.drop (p*i.size+n*i.size+news.length)).toArray,?_,?_,.inl ⟨rfl,?_⟩⟩
  ·simp[Builtin.append_,run_underlying ht,sizeOf,typeInfo,hi,Builtin.lenOf,hroom,hf,Addr.add_lit,hst]
  ·exact⟨rfl,rfl,rfl,by simp,λk _ hk=>setRow_other w g k _ (λe=>hk (by simp[e]))⟩
  ·have hlen:(pre++(xs++news)).length=(p+(n+m))*i.size:=by rw[A9,A9,hpre,hxl,hl,Nat.add_mul,Nat.add_mul]
   refine⟨hlen,.inr ⟨g,p+cap,_,rfl,hbg,setRow_heap w g cur _ e _ hg,by omega,hcm,?_,?_⟩⟩
   ·simp only[List.size_toArray,A9,B7,A8,Array.length_toList]
    omega
   ·have ht2:cur.toList.take (p*i.size+n*i.size)=pre++xs:=by rw[← Nat.add_mul];exact htake
    rw[ht2,← hlen,← List.append_assoc pre xs news];exact List.take_left
 ·have holds:∀j u,xs[j]?=some u->w.cell? ((⟨g,p*i.size,none⟩:Addr).add j)=some u:=λj u hu=>by
   have hj:j<xs.length:=(A2.1 hu).1;rw[Addr.add_mid,hown.cellAt (p*i.size+j) (by rw[Nat.add_mul];omega),C9 (by omega),hpre,Nat.add_sub_cancel_left];exact hu
  have hr:=run_append_grow (P:=P) w t ty e i z ht hi hz ⟨g,p*i.size,none⟩ n cap xs hxl holds a m c news hl hnews (by omega) (by unfold maxLen at h63;omega) (growslice_fits (by omega) hbytes);have hge:=grownCap_ge w (n+m) cap e;have hcm2:grownCap w (n+m) cap e<=maxLen:=grownCap_le_maxLen w (n+m) cap e h63;have hlen:(xs++news).length=(n+m)*i.size:=by rw[A9,hxl,hl,Nat.add_mul]
  refine⟨_,_,hr,⟨rfl,rfl,rfl,by simp,λk hk _=>heap_alloc_old w.drew _ hk⟩,.inr ⟨_,rfl,hlen,.inr ⟨w.heap.size,_,_,rfl,hbase,heap_alloc_new w.drew _,hge,hcm2,?_,?_⟩⟩⟩
  ·simp only[Array.size_append,List.size_toArray,size_zeroCells,hzs,hxl,hl,← Nat.add_mul]
   congr 1
   omega
  ·simp only[Array.toList_append,List.append_assoc]
   rw[← List.append_assoc,← hlen];exact List.take_left
theorem Adq {P:Program} (w:World) {ops:Array Oper} {rest:List Oper} {o:Oper} {a:Act} {Q:Exit->Act->World->Prop} (hgd:o.guard=none) (s x:Operand) (t:TypeId)
  (hop:o.op=Op.call {callee:=Callee.builtin Builtin.append,args:=#[s,x],argTypes:=#[t,t]}) (v vx:Value) (hs:a.eval s=v) (hx:a.eval x=vx) (v':Value) (w':World) (hr:(Builtin.append_ #[t,t] o.type #[v,vx]).run P w=.ok v' w')
  (h:wpList P ops Q rest (a.put o.dst v') w'):wpList P ops Q (o::rest) a w:=by
 refine wpList_plain hgd λK hK=>?_;unfold Oper.wp execOp;simp only[hop,resolve,invoke,builtin,Sem.run_bind,Sem.run_pure,Result.andThen_ok,List.map_toArray,List.map_cons,List.map_nil,hs,hx,hr];exact hK _ _ h
theorem AlT {P:Program} (w:World) (base t ty:Nat) (i:TypeInfo) (z:Value) (ht:P.underlying t=some (.slice 90)) (hi:P.info? 90=some i) (hz:i.zero=some z)
  (hsize:i.size=3) (hby:i.bytes=32) (hzs:z.cells.size=3) (v:Value) (ds:List Done) (d:Done) (h:DnsW w base v ds) (a:Addr) (c:Nat)
  (hnews:∀j u,d.cells[j]?=some u->w.cell? (a.add j)=some u) (hn:ds.length<=1048576) (hd:d.nm.size<=maxLen) (hbase:base<=w.heap.size) :
  ∃v' w',(Builtin.append_ #[t,t] ty #[v,.slice (some a) 1 c]).run P w=.ok v' w'/\DnsW w' base v' (ds++[d])/\w.grownBy w' v.ownBlock/\Where w v v':=by
 obtain⟨g,cap,pre,rfl,h1,h2⟩:=h;rw[K6] at h1
 have hzz:∀y∈ds++[d],y.nm.size<=maxLen:=λy hy=>by
  rcases D1.1 hy with k|k
  ·exact h2 y k
  ·obtain rfl:y=d:=by simpa using k
   exact hd
 obtain⟨v',w',hr,hg,hc⟩:=AeH (P:=P) w base t ty _ i z 3 32 ht hi hz hsize hby hzs g pre.length ds.length cap (rowsF Done.cells pre) (rowsF Done.cells ds) (G5 G7 _) h1 a 1 c d.cells rfl hnews
  (by simp only[Done.cells,List.mem_cons,List.not_mem_nil,or_false];rintro u (rfl|rfl|rfl)<;>rfl) (by unfold maxLen;omega) (by omega) hbase
 refine⟨v',w',hr,?_,hg,?_⟩
 ·have e1:rowsF Done.cells ds++d.cells=rowsF Done.cells (ds++[d]):=by rw[K6];simp[rowsF]
  rcases hc with⟨rfl,ho⟩|⟨c',rfl,ho⟩
  ·refine⟨g,cap,pre,by simp,?_,hzz⟩
   rw[e1,← K6] at ho;simpa using ho
  ·rw[e1] at ho
   exact⟨w.heap.size,c',[],by simp,by simpa using ho,hzz⟩
 ·rcases hc with⟨rfl,-⟩|⟨c',rfl,-⟩
  ·exact λg hg=>.inl hg
  ·exact λg hg=>.inr (by simp[Value.ownBlock] at hg;omega)
theorem DnsW.tail {w:World} {base g o n cap:Nat} {d:Done} {ds:List Done} (h:DnsW w base (.slice (some ⟨g,o,none⟩) n cap) (d::ds)):DnsW w base (.slice (some ⟨g,o+3,none⟩) (n-1) (cap-1)) ds/\1<=n/\n<=cap:=by
 obtain⟨g',cap',pre,e,h1,h2⟩:=h;simp only[Value.slice.injEq,Option.some.injEq,Addr.mk.injEq,and_true] at e;obtain⟨⟨rfl,rfl⟩,rfl,rfl⟩:=e;have hc:=Y7 h1;simp only[List.length_cons] at h1 hc ⊢
 refine⟨⟨g,cap-1,pre++[d],?_,?_,λy hy=>h2 y (by simp[hy])⟩,by omega,by omega⟩
 ·rw[A9,List.length_singleton,Nat.add_mul]
  simp
 ·rw[A9,List.length_singleton,show pre.length+1+ds.length=pre.length+(ds.length+1) by omega,show pre.length+1+(cap-1)=pre.length+cap by omega,List.append_assoc]
  exact h1
structure G2 (w w':World) (p q:Option Nat):Prop where
 os:w'.os=w.os
 tape:w'.tape=w.tape
 output:w'.output=w.output
 size:w.heap.size<=w'.heap.size
 block:∀k,k<w.heap.size->some k≠p->some k≠q->w'.heap[k]?=w.heap[k]?
theorem G2.of_below {w w':World} (h:Below w.heap.size w w') (p q:Option Nat):G2 w w' p q:=⟨h.os,h.tape,h.output,h.size,λk hk _ _=>h.block k hk⟩
theorem G2.of1 {w w':World} {p:Option Nat} (h:w.grownBy w' p) (q:Option Nat):G2 w w' p q:=⟨h.os,h.tape,h.output,h.size,λk hk h1 _=>h.block k hk h1⟩
theorem G2.of2 {w w':World} {q:Option Nat} (h:w.grownBy w' q) (p:Option Nat):G2 w w' p q:=⟨h.os,h.tape,h.output,h.size,λk hk _ h2=>h.block k hk h2⟩
theorem G2.trans {w w1 w2:World} {p q p' q':Option Nat} (h:G2 w w1 p q) (h':G2 w1 w2 p' q') (hp:∀k,k<w.heap.size->some k=p'->some k=p∨some k=q) (hq:∀k,k<w.heap.size->some k=q'->some k=p∨some k=q):G2 w w2 p q :=
 ⟨h'.os.trans h.os,h'.tape.trans h.tape,h'.output.trans h.output,B1 h.size h'.size,λk hk h1 h2=>by
  refine (h'.block k (A1 hk h.size) (λe=>?_) (λe=>?_)).trans (h.block k hk h1 h2)
  ·rcases hp k hk e with h3|h3
   ·exact h1 h3
   ·exact h2 h3
  ·rcases hq k hk e with h3|h3
   ·exact h1 h3
   ·exact h2 h3⟩
theorem G2.below {w w':World} {p q:Option Nat} {B:Nat} (h:G2 w w' p q) (hB:B<=w.heap.size) (hp:∀k,p=some k->B<=k) (hq:∀k,q=some k->B<=k):Below B w w' :=
 ⟨h.os,h.tape,h.output,h.size,λk hk=>h.block k (A1 hk hB) (λe=>by have:=hp k e.symm;omega) (λe=>by have:=hq k e.symm;omega)⟩
theorem Where.refl (w:World) (v:Value):Where w v v:=λ_ h=>.inl h
theorem Where.trans {w w1:World} {v v1 v2:Value} (h:Where w v v1) (hz:w.heap.size<=w1.heap.size) (h':Where w1 v1 v2):Where w v v2:=λg hg=>by
 rcases h' g hg with h1|h1
 ·exact h g h1
 ·exact .inr (by omega)
theorem Where.old {w:World} {v v':Value} (h:Where w v v') (k:Nat) (hk:k<w.heap.size) (e:some k=v'.ownBlock):some k=v.ownBlock:=by
 rcases h k e.symm with h1|h1
 ·exact h1.symm
 ·omega
theorem Aap (b:Bk) (v nv:Value) (nm:ByteArray) (needs:List ByteArray) (w:World) (h:BkV w v b) (hN:Ls w nv needs) (hnn:needs.length<=1048576) :
  Calls Tryz.prog 91 #[v,.string nm,nv] w λe w'=>(∃v',e=.returned (.tuple #[v',.int .i64 (lsnC b nm needs)])/\BkW w' w.heap.size v' (lsnB b nm needs))/\Below w.heap.size w w':=by
 have hsz:=h.szb;obtain⟨a1,c1,a2,c2,rfl,t1,-⟩:=h.parts;obtain⟨a9,c9,rfl,-,hNz,-⟩:=id hN;obtain⟨ii,hi,iz0,iz1,iz2⟩:=info_parts Aat;obtain⟨W1,hW1,kA,kR,hB1,hs1⟩:=L1 w [.slice a1 (b).things.length c1,.slice a2 (b).bs.length c2] 33 [.slice none 0 0,.slice none 0 0] 33;go_enter Tryz.func91,Tryz.ntmps91
 go_upto_region 1 with fail
 try rw[hW1]
 clear hW1;have hk:=h.up hB1;have hN:=hN.up hB1;have t1:=t1.up hB1;clear h;obtain⟨e0,e1⟩:=kA.c2';go_wp2_with fail
 refine (Aan b _ _ hk).mono ?_;rintro e w2 ⟨rfl,hb2⟩;have hz2:=hb2.size;have kA:=kA.up hb2 (by omega);have kR:=kR.up hb2 (by omega);have hk:=hk.up hb2;have hN:=hN.up hb2;have t1:=t1.up hb2;have hB:=D6 hB1 hb2;clear e0 e1 hB1 hb2;cases hok:bookB b
 ·obtain⟨⟨y0,y1⟩,f0,f1⟩:=kR.c2
  have HC:Hid (lsnC b nm needs=1/\lsnB b nm needs=nobody):=AbO hok;go_wp2_with fail
  refine J3 Tryz.results91 Tryz.underlying33 rfl J0 kR rfl rfl ?_;exact⟨⟨_,Aaw HC.out.1.symm,by rw[HC.out.2];exact AdL _ _⟩,F9 hB (Nat.le_succ _) _ _⟩
 obtain⟨e0,e1⟩:=kA.c2';go_wp2_with fail
 refine (Adj b _ _ hk (O4 hok)).mono ?_;rintro e w3 ⟨⟨xv,rfl,hX⟩,hb3⟩;obtain⟨a3,c3,a4,c4,ps,rfl,x1,x2,x3⟩:=hX.parts;have hz3:=hb3.size;have kA:=kA.up hb3 (by omega);have kR:=kR.up hb3 (by omega);have hk:=hk.up hb3;have hN:=hN.up hb3;have t1:=t1.up hb3;have hB:=D6 hB hb3;clear e0 e1 hb3 hX;go_upto_region 4 with fail
 obtain⟨W4,hW4,kX,hb4,hs4⟩:=K9 w3 [.slice a3 b.things.length c3,.slice a4 b.bs.length c4] 33;rw[hW4];clear hW4;have kA:=kA.up hb4 (by omega);have kR:=kR.up hb4 (by omega);have hk:=hk.up hb4;have hN:=hN.up hb4;have t1:=t1.up hb4;have hB:=D6 hB hb4;have X1:=x1;have X2:=x2;have hL:=hb4;clear hb4 x1 x2;obtain⟨e0,e1⟩:=kA.c2';go_wp2_with fail
 refine (Abn b _ nm _ hk).mono ?_;rintro e w5 ⟨rfl,hb5⟩;have hz5:=hb5.size;have kA:=kA.up hb5 (by omega);have kR:=kR.up hb5 (by omega);have kX:=kX.up hb5 (by omega);have hk:=hk.up hb5;have hN:=hN.up hb5;have hB:=D6 hB hb5;have hL:=D6 hL hb5;have HOK:Hid (bookB b=true):=hok;clear e0 e1 hb5 t1
 have back:∀(W:World) (cd:Int),Below w5.heap.size w5 W->lsnC b nm needs=cd/\lsnB b nm needs=b->∃v',(Ending.returned (.tuple #[.agg #[.slice a3 b.things.length c3,.slice a4 b.bs.length c4],.int .i64 cd])=Ending.returned (.tuple #[v',.int .i64 (lsnC b nm needs)]))/\
   BkW ((W.setCell ⟨w.heap.size+1,0,none⟩ (.slice a3 b.things.length c3)).setCell ⟨w.heap.size+1,1,none⟩ (.slice a4 b.bs.length c4)) w.heap.size v' (lsnB b nm needs):=λW cd hb hc=>by
  have hl:=D6 hL hb;refine⟨_,Aaw hc.1.symm,?_⟩;rw[hc.2];exact ((BkW.set (BkW.set ⟨_,_,ps,rfl,X1.up hl,X2.up hl,x3⟩ (by omega)) (by omega)).low (by omega))
 have Hback:Hid (∀(W:World) (cd:Int),Below w5.heap.size w5 W->lsnC b nm needs=cd/\lsnB b nm needs=b->∃v',(Ending.returned (.tuple #[.agg #[.slice a3 b.things.length c3,.slice a4 b.bs.length c4],.int .i64 cd])=Ending.returned (.tuple #[v',.int .i64 (lsnC b nm needs)]))/\
   BkW ((W.setCell ⟨w.heap.size+1,0,none⟩ (.slice a3 b.things.length c3)).setCell ⟨w.heap.size+1,1,none⟩ (.slice a4 b.bs.length c4)) w.heap.size v' (lsnB b nm needs)):=back
 clear back;cases hm:memS (nms b.bs) nm
 ·have HC:Hid (lsnC b nm needs=3/\lsnB b nm needs=b):=Aa9 hok hm
  rw[O5 hm];obtain⟨⟨y0,y1⟩,f0,f1⟩:=kR.c2;obtain⟨⟨z0,z1⟩,-⟩:=kX.c2;go_wp2_with fail
  refine J3 Tryz.results91 Tryz.underlying33 rfl J0 kR rfl rfl ?_;exact⟨Hback.out _ _ (A4 _ _) HC.out,F9 hB (Nat.le_succ _) _ _⟩
 obtain⟨hidx,hlt⟩:=T8 hm;rw[hidx];have Hp2:Hid (pB (PartOk needs (needsAt b nm))=false->lsnC b nm needs=2/\lsnB b nm needs=b):=λh=>Abc hok hm h;have Hp0:Hid (pB (PartOk needs (needsAt b nm))=true->lsnC b nm needs=0/\lsnB b nm needs=chg b (plN b nm) (lessF needs)):=λh=>Abd hok hm h;have Hna:Hid (needsAt b nm=(b.bs[plN b nm]).needs):=V7 (A0 hlt);generalize plN b nm=p at *;obtain⟨s1,s2,s3⟩:=O0 (O4 hok);obtain⟨s4,s5⟩:=s3 b.bs[p] (by simp);have hsx:=hsz.2 b.bs[p] (by simp);obtain⟨-,hpos⟩:=hk.bsOf.at;obtain⟨bb,o,rfl,hS,hbl⟩:=hpos (by omega);obtain⟨a5,d5,a6,d6,-,q4,q5,l5,l6,-⟩:=(hS.at hlt).cells;have HX0:Hid (b.bs[p]?=some b.bs[p]):=A0 hlt;generalize b.bs[p]=x0 at *;obtain⟨e0,e1⟩:=kA.c2';have hAl:=kA.2.2;go_wp2_with fail
 refine (Y6 needs x0.needs _ _ _ hN l6).mono ?_;rintro e w6 ⟨rfl,md,hmd⟩;have hb6:Below w5.heap.size w5 w6:=by rw[hmd];exact E8 (A4 _ _) md
 have hz6:=hb6.size;have kR:=kR.up hb6 (by omega);have kX:=kX.up hb6 (by omega);have hN:=hN.up hb6;have hB:=D6 hB hb6;have hL:=D6 hL hb6;clear hmd;cases hpt:pB (PartOk needs x0.needs)
 ·have HC:Hid (lsnC b nm needs=2/\lsnB b nm needs=b):=Hp2.out (by rw[Hna.out];exact hpt)
  obtain⟨⟨y0,y1⟩,f0,f1⟩:=kR.c2;obtain⟨⟨z0,z1⟩,-⟩:=kX.c2;go_wp2_with fail
  refine J3 Tryz.results91 Tryz.underlying33 rfl J0 kR rfl rfl ?_;exact⟨Hback.out _ _ hb6 HC.out,F9 hB (Nat.le_succ _) _ _⟩
 have HC:Hid (lsnC b nm needs=0/\lsnB b nm needs=chg b p (lessF needs)):=Hp0.out (by rw[Hna.out];exact hpt);have Hpart:Hid (PartOk needs x0.needs):=F8.1 hpt;clear Hback Hp0 Hp2 Hna hpt;have e1:=(hb6.cell (p:=⟨w.heap.size,1,none⟩) hAl).trans e1;have q4:=(hb6.cell (p:=⟨bb,o+p*3+1,none⟩) hbl).trans q4;have l5:=l5.up hb6;have hAl:=A1 hAl hz6;have hbl:=A1 hbl hz6;obtain⟨-,-,hpos5⟩:=l5.inv;clear e0 q5 l6 hk hS kA hb6 hpos;obtain⟨is,his,js0,js1,js2⟩:=info_parts M1;have hown0:OwnT (w6.alloc (.cells #[] 9)) w6.heap.size (.slice (some ⟨w6.heap.size,0,none⟩) 0 0) []:=Abx w6;have hb0:Below w6.heap.size w6 (w6.alloc (.cells #[] 9)):=(A4 _ _).alloc (A3 _) _;go_wp2_with fail
 go_loopw [10,11] (λu i w'=>∃k:Nat,k<=x0.has.length/\i=.int .i64 k/\OwnT w' w6.heap.size u ((x0.has.take k).filter (memS needs))/\Below w6.heap.size w6 w') (λ_ i _=>x0.has.length-(intOf i).toNat)
 case atStart=>exact⟨0,by omega,rfl,by simpa using hown0,hb0⟩
 case round =>
  clear hown0 hb0;obtain⟨k,hk,rfl,hown,hBk⟩:=hrel;have e1:=(hBk.cell (p:=⟨w.heap.size,1,none⟩) hAl).trans e1;have q4:=(hBk.cell (p:=⟨bb,o+p*3+1,none⟩) hbl).trans q4;by_cases hp:k<x0.has.length
  ·obtain⟨hb5,ho5,rfl,hS5,hl5⟩:=hpos5 (by omega)
   have c5:=(hBk.cell (p:=⟨hb5,ho5+k,none⟩) hl5).trans (hS5.cell hp);have HF:Hid ((x0.has.take (k+1)).filter (memS needs)=(x0.has.take k).filter (memS needs)++(if memS needs x0.has[k]=true then [x0.has[k]] else [])):=Ah1 hp;have hfl:((x0.has.take k).filter (memS needs)).length<=8:=B1 (List.length_filter_le _ _) (by rw[B7];omega);generalize x0.has[k]=s0 at *;obtain⟨fs,hfs⟩:∃fs,(x0.has.take k).filter (memS needs)=fs:=⟨_,rfl⟩;rw[hfs] at hown hfl HF;clear hfs;go_wp2_with fail
   refine (N6 needs _ s0 _ (hN.up hBk)).mono ?_;rintro e w' ⟨rfl,hw⟩;obtain rfl:=hw.symm;clear hw;cases hms:memS needs s0
   ·have HF2:Hid ((x0.has.take (k+1)).filter (memS needs)=fs):=by show _=_;rw[HF.out,hms];simp
    go_wp2_with fail
    go_roundw
    case rel=>exact⟨k+1,by omega,by go_num,by rw[HF2.out];exact hown,hBk⟩
    case measure=>simp[intOf];omega
   ·have HF2:Hid ((x0.has.take (k+1)).filter (memS needs)=fs++[s0]):=by show _=_;rw[HF.out,hms];simp
    have hownA:=World.ownsRow.alloc hown (.cells #[.string s0] 9);have hbA:Below w6.heap.size w6 (wr.alloc (.cells #[.string s0] 9)):=hBk.alloc hBk.size _;go_wp2_with (at_builtin;refine wpList_append_own _ rfl _ _ 22 rfl w6.heap.size 9 is _ 1 16 Tryz.underlying22 his js0 js1 js2 rfl (by decide) _ _ _ rfl hownA ⟨wr.heap.size,0,none⟩ 1 1 [.string s0] rfl rfl (Q8 _ _ _) (AaY s0) (by unfold maxLen;omega) (by omega) hbA.size ?_)
    intro v' w9 hown9 hgr9 _;have hB9:=I3 hbA hownA hgr9 (A3 _);have hO9:OwnT w9 w6.heap.size v' (fs++[s0]):=by unfold OwnT;simpa using hown9
    clear hownA hbA hgr9 hown9 hown e1 q4 c5;go_wp2_with fail
    go_roundw
    case rel=>exact⟨k+1,by omega,by go_num,by rw[HF2.out];exact hO9,hB9⟩
    case measure=>simp[intOf];omega
  ·obtain rfl:k=x0.has.length:=by omega
   rw[List.take_length] at hown;obtain⟨ah,ch,hah⟩:=hown.lst.shape;subst hah;have hps:ps.length=b.bs.length:=by rw[← x3,B4]
   have hLr:=D6 hL hBk;have hrow:=(X2.up hLr).1;rw[hps] at hrow;obtain⟨g,cp,hgp⟩:=F4 hrow (by omega);obtain⟨rfl,-,rfl⟩:=Value.slice.inj hgp;have hg3:=X2.1.lt g rfl
   obtain⟨⟨x0',hv0,nv0⟩,hpv,hpx⟩:∃pv:Bv,ps[p]?=some pv/\pv.1=x0:=by
    have h:=HX0.out;rw[← x3,B0,B5] at h;exact h
   obtain rfl:x0'=x0:=hpx;have Hpv:Hid (ps[p]?=some (x0',hv0,nv0)):=hpv;have kX:=kX.up hBk (by omega);have kR:=kR.up hBk (by omega);have hzk:=hBk.size;obtain⟨⟨z0,z1⟩,-⟩:=kX.c2;have hS1:World.cell? wr.drew ⟨w3.heap.size,1,none⟩=some (.slice (some ⟨g,0,none⟩) b.bs.length c4):=z1;have hxl:w3.heap.size<wr.heap.size:=by omega
   have hbd:Below wr.heap.size wr wr.drew:=(A4 _ _).drew;clear z0 z1 hgp hpv;go_wp2_with fail
   clear e1 q4;refine F5 7 (λw'=>World.cell? w' ⟨w3.heap.size,1,none⟩=some (.slice (some ⟨g,0,none⟩) b.bs.length c4)) (by kernel_rfl) ?_;refine tkx 0 rfl hS1 ?_;refine tkx 1 rfl hS1 ?_;refine tkx 2 rfl hS1 ?_;refine tkx 3 rfl hS1 ?_;refine D8 (i:=4) (by kernel_rfl) rfl (λK hK=>?_);go_simp
   go_wp2_with (go_at_call 83;refine (Aa4 needs _ _ ((hN.up hBk).up hbd) hnn).mono ?_;rintro e w8 ⟨⟨nu,rfl,hon,-⟩,hb8⟩;have hb8:=D6 hbd hb8;obtain⟨an,cn,rfl⟩:=hon.lst.shape;have hS8:World.cell? w8 ⟨w3.heap.size,1,none⟩=some (.slice (some ⟨g,0,none⟩) b.bs.length c4):=(hb8.cell (p:=⟨w3.heap.size,1,none⟩) hxl).trans hS1)
   refine hK.out _ _ (λ_=>hS8) ?_;clear hK K;have hrow8:=E1 hrow hb8;have r2:=(hrow8.cellAt (p*3+2) (by omega)).trans (K5 ps p _ Hpv.out 2 _ rfl);have f2:=hrow8.frozenAt (p*3+2);refine D8 (i:=5) (by kernel_rfl) rfl (λK hK=>?_);go_simp
   refine hK.out _ _ (λ_=>hS8) ?_;clear hK K;refine tkx 6 rfl hS8 ?_;refine D8 (i:=7) (by kernel_rfl) rfl (λK hK=>?_);go_simp
   refine hK.out _ _ (λh=>absurd rfl h) ?_;clear hK K;refine F0 (by kernel_rfl) ?_ _;have st9:=hrow8.stored (p*3+2) (.slice an needs.length cn);rw[AeD ps p _ _ ⟨x0'.nm,x0'.has,needs⟩ Hpv.out rfl] at st9;have hL8:=D6 hLr hb8
   have Hlist:Hid (∀q∈ps,OwnT w8 w2.heap.size q.2.1 q.1.has/\OwnT w8 w2.heap.size q.2.2 q.1.needs/\q.1.nm.size<=maxLen):=λq hq=>by
    obtain⟨q1,q2,q3⟩:=X2.2 q hq;exact⟨q1.up hL8,q2.up hL8,q3⟩
   have t8:=X1.up hL8;have hh8:=hown.up hb8;have kX8:=kX.up hb8 (by omega);have kR8:=kR.up hb8 (by omega);have hB8:=D6 (D6 hB hBk) hb8;clear hS1 hS8 r2 f2 hown hrow kX kR X1 X2 hbd;have gne1:¬w3.heap.size=g:=by omega
   have gne2:¬w.heap.size+1=g:=by omega
   have hgo:(Value.slice (some ⟨g,0,none⟩) b.bs.length c4).ownBlock=some g:=rfl;have gr9:=st9.2;have row9:=st9.1;have kX9:=kX8.kept gr9 (by simpa using gne1);have kR9:=kR8.kept gr9 (by simpa using gne2);have t9:=M0 t8 hrow8 (hgo ▸ gr9);have hh9:=M0 hh8 hrow8 (hgo ▸ gr9);have nn9:=M0 hon hrow8 (hgo ▸ gr9)
   have Hlist9:Hid (∀q∈ps,OwnT (w8.setCell ⟨g,p*3+2,none⟩ (.slice an needs.length cn)) w2.heap.size q.2.1 q.1.has/\OwnT (w8.setCell ⟨g,p*3+2,none⟩ (.slice an needs.length cn)) w2.heap.size q.2.2 q.1.needs/\q.1.nm.size<=maxLen):=λq hq=>by
    obtain⟨q1,q2,q3⟩:=Hlist.out q hq;exact⟨M0 q1 hrow8 (hgo ▸ gr9),M0 q2 hrow8 (hgo ▸ gr9),q3⟩
   have hB9:Below w.heap.size w (w8.setCell ⟨g,p*3+2,none⟩ (.slice an needs.length cn)):=hB8.setCell (p:=⟨g,p*3+2,none⟩) (by show _<=g;omega) _;have hz8:=hb8.size;have hlow1:w2.heap.size<=w6.heap.size:=by omega
   have hlow2:w2.heap.size<=wr.heap.size:=by omega
   clear st9 gr9 hrow8 kX8 kR8 t8 hh8 hon hB8 Hlist hL8 hb8 hLr hL hB hN;generalize w8.setCell ⟨g,p*3+2,none⟩ (.slice an needs.length cn)=W9 at *;have hset:(ps.set p ((⟨x0'.nm,x0'.has,needs⟩,hv0,.slice an needs.length cn):Bv))[p]?=some (⟨x0'.nm,x0'.has,needs⟩,hv0,.slice an needs.length cn):=by rw[List.getElem?_set,if_pos rfl,if_pos (by omega)]
   have r1:=(row9.cellAt (p*3+1) (by omega)).trans (K5 _ p _ hset 1 _ rfl);have f1:=row9.frozenAt (p*3+1);have st10:=row9.stored (p*3+1) (.slice ah (x0'.has.filter (memS needs)).length ch);rw[Ac9 _ p _ _ (lessF needs x0') hset rfl,List.set_set] at st10;have Hset:Hid ((ps.set p ((lessF needs x0',.slice ah (x0'.has.filter (memS needs)).length ch,.slice an needs.length cn):Bv)).map (·.1)=b.bs.set p (lessF needs x0')):=by show _=_;rw[List.map_set,x3]
   obtain⟨⟨z0,z1⟩,-⟩:=kX9.c2;clear hset;go_upto_region 17 with fail
   have gr10:=st10.2;have row10:=st10.1;have kX10:=kX9.kept gr10 (by simpa using gne1);have kR10:=kR9.kept gr10 (by simpa using gne2);have t10:=M0 t9 row9 (hgo ▸ gr10);have hh10:=G4 (M0 hh9 row9 (hgo ▸ gr10)) hlow1;have nn10:=G4 (M0 nn9 row9 (hgo ▸ gr10)) hlow2
   have hW10:=Ago (qs:=ps.set p ((lessF needs x0',.slice ah (x0'.has.filter (memS needs)).length ch,.slice an needs.length cn):Bv)) row10 rfl (by rw[List.length_set,hps]) (λq hq=>by
    rcases List.mem_or_eq_of_mem_set hq with h|rfl
    ·obtain⟨q1,q2,q3⟩:=Hlist9.out q h
     exact⟨M0 q1 row9 (hgo ▸ gr10),M0 q2 row9 (hgo ▸ gr10),q3⟩
    ·exact⟨hh10,nn10,(Hlist9.out _ (A6 Hpv.out)).2.2⟩)
   have hB10:Below w.heap.size w (W9.setCell ⟨g,p*3+1,none⟩ (.slice ah (x0'.has.filter (memS needs)).length ch)):=hB9.setCell (p:=⟨g,p*3+1,none⟩) (by show _<=g;omega) _;clear st10 gr10 row10 row9 kX9 kR9 t9 hh9 nn9 hh10 nn10 hB9 Hlist9 r1 f1 z0 z1;generalize W9.setCell ⟨g,p*3+1,none⟩ (.slice ah (x0'.has.filter (memS needs)).length ch)=W10 at *;have hmem':∀y∈b.bs.set p (lessF needs x0'),y∈b.bs∨y=lessF needs x0':=λy hy=>List.mem_or_eq_of_mem_set hy;have hbk':BkW W10 w2.heap.size (.agg #[.slice a3 b.things.length c3,.slice (some ⟨g,0,none⟩) b.bs.length c4]) ⟨b.things,b.bs.set p (lessF needs x0')⟩:=⟨_,_,_,rfl,t10,hW10,Hset.out⟩
   have hbv:=hbk'.bk ⟨hsz.1,λy hy=>by
    rcases hmem' y hy with h|rfl
    ·exact hsz.2 y h
    ·exact⟨λs hs=>hsx.1 s (List.mem_filter.1 hs).1,hNz⟩⟩
   have hpn:=N8 Hpart.out
   have Hcopy:Hid (∀(v:Value) (w:World),BkV w v ⟨b.things,b.bs.set p (lessF needs x0')⟩->Calls Tryz.prog 42 #[v] w λe w'=>(∃v',e=.returned v'/\BkW w' w.heap.size v' ⟨b.things,b.bs.set p (lessF needs x0')⟩)/\Below w.heap.size w w'):=λv w h=>U7 _ v w h (by show b.things.length<=100;omega) (by show (b.bs.set p (lessF needs x0')).length<=100;rw[List.length_set];omega) (λy hy=>by
    rcases hmem' y hy with h|rfl
    ·have:=s3 y h;omega
    ·have h1:(x0'.has.filter (memS needs)).length<=x0'.has.length:=List.length_filter_le _ _
     show (x0'.has.filter (memS needs)).length<=100/\needs.length<=100
     omega)
   have HC2:Hid (lsnC b nm needs=0/\lsnB b nm needs=⟨b.things,b.bs.set p (lessF needs x0')⟩):=by show _/\_;rw[← Abb HX0.out];exact HC.out
   clear hmem' hpn Hset hW10 HC hbk' t10;generalize (⟨b.things,b.bs.set p (lessF needs x0')⟩:Bk)=b' at *;obtain⟨⟨z0,z1⟩,-⟩:=kX10.c2;go_wp2_with fail
   refine (Hcopy.out _ _ hbv).mono ?_;rintro e w12 ⟨⟨v',rfl,hV⟩,hb12⟩;obtain⟨a7,c7,a8,c8,qs',rfl,-⟩:=hV.parts;have kR12:=kR10.up hb12 kR10.2.2;have hrl:=kR10.2.2;have hB12:=D6 hB10 hb12;clear z0 z1;obtain⟨⟨y0,y1⟩,f0,f1⟩:=kR12.c2;go_wp2_with fail
   refine J3 Tryz.results91 Tryz.underlying33 rfl J0 kR12 rfl rfl ?_;refine⟨⟨_,Aaw HC2.out.1.symm,?_⟩,F9 hB12 (Nat.le_succ _) _ _⟩;rw[HC2.out.2];exact ((BkW.set (BkW.set hV hrl) hrl).low (by omega))
theorem AeI (x:Rb) (rv sv:Value) (nm:ByteArray) (w:World) (h:RbV w x rv sv) (hok:recB x.ps=true):Calls Tryz.prog 92 #[rv,.string nm] w λe w'=>(∃u,e=.returned u/\Txt w' u (slE x.ps nm))/\Below w.heap.size w w':=by
 obtain⟨b,o,c,rfl,hr,hb,-⟩:=h.r;exact AbI x.ps b o c hok (x.ps.length+1) nm w hr hb (by omega)
theorem Abq (x:Rb) (rv sv:Value) (ss:List ByteArray) (v:Value) (w:World) (h:RbV w x rv sv) (hv:Txt w v ss) (hs:ss.length<=900):Calls Tryz.prog 88 #[.agg #[.string x.nm,rv,sv,.string x.ad,.int .i64 x.si,.int .i64 x.st],v] w λe w'=>(∃u,e=.returned u/\Txt w' u (thE x.sl ss))/\Below w.heap.size w w':=by
 obtain⟨b,o,c,rfl,-⟩:=h.r;obtain⟨g,q,d,rfl,hl,hg⟩:=h.s;exact Ac1 x b o c g q d ss v w hl hg h.ns hv hs
theorem AaF {w:World} {x:Rb} {rv sv:Value} (h:RbV w x rv sv) (ss:List ByteArray):∀s∈thE x.sl ss,s.size<=maxLen:=λs hs=>by
 have h1:=((Abf _ _).2 s.toList).1 (U6.2 hs);simp only[keys,List.mem_map] at h1;obtain⟨_,⟨t,_,rfl⟩,e⟩:=h1;rw[← M6 e];unfold firstT;split
 ·rename_i y hy
  exact (h.zs y (List.mem_of_find?_eq_some hy)).2
 ·exact Nat.zero_le _
theorem RbsW.write {w:World} {base g n cap k:Nat} {ps:List Rv} {x:Rb} {ru su:Value} (h:RbsW w base (.slice (some ⟨g,0,none⟩) n cap) ps) (hp:ps[k]?=some (x,ru,su)) (nm:ByteArray) :
  RbsW ((((((w.setCell ⟨g,k*6,none⟩ (.string x.nm)).setCell ⟨g,k*6+1,none⟩ ru).setCell ⟨g,k*6+2,none⟩ su).setCell ⟨g,k*6+3,none⟩ (.string nm)).setCell ⟨g,k*6+4,none⟩ (.int .i64 (-1))).setCell ⟨g,k*6+5,none⟩ (.int .i64 x.st)) base (.slice (some ⟨g,0,none⟩) n cap) (ps.set k ({x with ad:=nm,si:=-1},ru,su))/\w.grownBy ((((((w.setCell ⟨g,k*6,none⟩ (.string x.nm)).setCell ⟨g,k*6+1,none⟩ ru).setCell ⟨g,k*6+2,none⟩ su).setCell ⟨g,k*6+3,none⟩ (.string nm)).setCell ⟨g,k*6+4,none⟩ (.int .i64 (-1))).setCell ⟨g,k*6+5,none⟩ (.int .i64 x.st)) (some g):=by
 have hk:k<ps.length:=(A2.1 hp).1;have h0:=h.put (j:=0) (u:=.string x.nm) (y:=x) hp (by omega) rfl rfl rfl rfl;have h1:=h0.put (i:=k) (j:=1) (u:=ru) (p:=(x,ru,su)) (y:=x) (by rw[D0 hk]) (by omega) rfl rfl rfl rfl;have h2:=h1.put (i:=k) (j:=2) (u:=su) (p:=(x,ru,su)) (y:=x) (by rw[D0 (by simpa using hk)]) (by omega) rfl rfl rfl rfl;have h3:=h2.put (i:=k) (j:=3) (u:=.string nm) (p:=(x,ru,su)) (y:={x with ad:=nm}) (by rw[D0 (by simpa using hk)]) (by omega) rfl rfl rfl rfl;have h4:=h3.put (i:=k) (j:=4) (u:=.int .i64 (-1)) (p:=({x with ad:=nm},ru,su)) (y:={x with ad:=nm,si:=-1}) (by rw[D0 (by simpa using hk)]) (by omega) rfl rfl rfl rfl;have h5:=h4.put (i:=k) (j:=5) (u:=.int .i64 x.st) (p:=({x with ad:=nm,si:=-1},ru,su)) (y:={x with ad:=nm,si:=-1}) (by rw[D0 (by simpa using hk)]) (by omega) rfl rfl rfl rfl;simp only[List.set_set] at h5;exact⟨h5,E0 (rb:=g) (E0 (rb:=g) (E0 (rb:=g) (E0 (rb:=g) (E0 (rb:=g) (E0 (rb:=g) (E4 w _) _) _) _) _) _) _⟩
theorem HW.goes {w:World} {base g n cap k:Nat} {h:House} {tv bv tu bu dv ru su:Value} {b':Bk} {x:Rb} {ps:List Rv} (H:HW w base h tv bv (.slice (some ⟨g,0,none⟩) n cap) dv) (hW:RbsW w base (.slice (some ⟨g,0,none⟩) n cap) ps) (hm:ps.map (·.1)=h.bs) (hp:ps[k]?=some (x,ru,su)) (hb:BkW w base (.agg #[tu,bu]) b') (hz:Szb b') (nm:ByteArray) :
  HW ((((((w.setCell ⟨g,k*6,none⟩ (.string x.nm)).setCell ⟨g,k*6+1,none⟩ ru).setCell ⟨g,k*6+2,none⟩ su).setCell ⟨g,k*6+3,none⟩ (.string nm)).setCell ⟨g,k*6+4,none⟩ (.int .i64 (-1))).setCell ⟨g,k*6+5,none⟩ (.int .i64 x.st)) base {h with sh:=b',bs:=h.bs.set k {x with ad:=nm,si:=-1}} tu bu (.slice (some ⟨g,0,none⟩) n cap) dv:=by
 obtain⟨h1,hg⟩:=hW.write hp nm;have hg':w.grownBy ((((((w.setCell ⟨g,k*6,none⟩ (.string x.nm)).setCell ⟨g,k*6+1,none⟩ ru).setCell ⟨g,k*6+2,none⟩ su).setCell ⟨g,k*6+3,none⟩ (.string nm)).setCell ⟨g,k*6+4,none⟩ (.int .i64 (-1))).setCell ⟨g,k*6+5,none⟩ (.int .i64 x.st)) (Value.slice (some ⟨g,0,none⟩) n cap).ownBlock:=hg;exact⟨hb.step hW.1 (by decide) (by decide) hg',hz,⟨_,h1,by rw[List.map_set,hm]⟩,H.d.step hW.1 (by decide) hg'⟩
structure LS (W:World) (h:House) (x:Rb) (nm:ByteArray) (X:World) (k8 k9 k10:Option Value) (k14:Option Nat):Prop where
 B:Below W.heap.size W X
 s8:∀v,k8=some v->Txt X v (slE x.ps nm)
 s9:∀v,k9=some v->Txt X v (thE x.sl (slE x.ps nm))
 s10:∀v,k10=some v->BkW X W.heap.size v (lsnB h.sh x.nm (thE x.sl (slE x.ps nm)))
 s14:∀y,k14=some y->X.ownsRow W.heap.size 33 2 (.slice (some ⟨y,0,none⟩) 1 1) 1 [.slice none 0 0,.slice none 0 0]
theorem LS.up {W X X':World} {h:House} {x:Rb} {nm:ByteArray} {k8 k9 k10:Option Value} {k14:Option Nat} (H:LS W h x nm X k8 k9 k10 k14) (hb:Below X.heap.size X X'):LS W h x nm X' k8 k9 k10 k14 :=
 ⟨D6 H.B hb,λv e=>(H.s8 v e).up hb,λv e=>(H.s9 v e).up hb,λv e=>(H.s10 v e).up hb,λy e=>E1 (H.s14 y e) hb⟩
theorem ls_nil (W:World) (h:House) (x:Rb) (nm:ByteArray):LS W h x nm W none none none none:=⟨A4 _ _,λ_ h=>(by cases h),λ_ h=>(by cases h),λ_ h=>(by cases h),λ_ h=>(by cases h)⟩
theorem LS.c8 {W X X':World} {h:House} {x:Rb} {nm:ByteArray} {k8 k9 k10:Option Value} {k14:Option Nat} {v:Value} (H:LS W h x nm X k8 k9 k10 k14) (hb:Below X.heap.size X X') (hv:Txt X' v (slE x.ps nm)):LS W h x nm X' (some v) k9 k10 k14 :=
 {H.up hb with s8:=λu e=>by cases e;exact hv}
theorem LS.c9 {W X X':World} {h:House} {x:Rb} {nm:ByteArray} {k8 k9 k10:Option Value} {k14:Option Nat} {v:Value} (H:LS W h x nm X k8 k9 k10 k14) (hb:Below X.heap.size X X') (hv:Txt X' v (thE x.sl (slE x.ps nm))):LS W h x nm X' k8 (some v) k10 k14 :=
 {H.up hb with s9:=λu e=>by cases e;exact hv}
theorem LS.c10 {W X X':World} {h:House} {x:Rb} {nm:ByteArray} {k8 k9 k10:Option Value} {k14:Option Nat} {v:Value} (H:LS W h x nm X k8 k9 k10 k14) (hb:Below X.heap.size X X') (hv:BkW X' X.heap.size v (lsnB h.sh x.nm (thE x.sl (slE x.ps nm)))):LS W h x nm X' k8 k9 (some v) k14 :=
 {H.up hb with s10:=λu e=>by cases e;exact hv.low H.B.size}
theorem LS.c14 {W X:World} {h:House} {x:Rb} {nm:ByteArray} {k8 k9 k10:Option Value} {k14:Option Nat} (H:LS W h x nm X k8 k9 k10 k14):LS W h x nm (X.alloc (.cells #[.slice none 0 0,.slice none 0 0] 33)) k8 k9 k10 (some X.heap.size) :=
 {H.up ((A4 _ _).alloc (A3 _) _) with s14:=λu e=>by cases e;exact B9 X _ 1 H.B.size (by unfold maxLen;omega) rfl}
theorem LS.fin {W X:World} {h:House} {x:Rb} {nm:ByteArray} {k8 k9:Option Value} {tu bu:Value} {y:Nat} (H:LS W h x nm X k8 k9 (some (.agg #[tu,bu])) (some y)) :
  Below W.heap.size W ((X.setCell ⟨y,0,none⟩ tu).setCell ⟨y,1,none⟩ bu)/\BkW ((X.setCell ⟨y,0,none⟩ tu).setCell ⟨y,1,none⟩ bu) W.heap.size (.agg #[tu,bu]) (lsnB h.sh x.nm (thE x.sl (slE x.ps nm)))/\CB ((X.setCell ⟨y,0,none⟩ tu).setCell ⟨y,1,none⟩ bu) y [tu,bu]:=by
 have h18:=H.s14 y rfl;have h1:=B3 h18 0 tu;have h2:=B3 h1.1 1 bu;have hg:X.grownBy ((X.setCell ⟨y,0,none⟩ tu).setCell ⟨y,1,none⟩ bu) (Value.slice (some ⟨y,0,none⟩) 1 1).ownBlock:=E3 h1.2 h2.2;exact⟨F1 H.B H.B.size h18 hg (A3 _),(H.s10 _ rfl).step h18 (by decide) (by decide) hg,D9 h2.1⟩
theorem Anf (h:House) (tv bv xv dv:Value) (base k:Nat) (x:Rb) (nm:ByteArray) (w:World) (H:HW w base h tv bv xv dv) (hbase:base<=w.heap.size) (hT:Tiny h.sh) (hk:h.bs[k]?=some x) (hrec:recB x.ps=true) (hend:endN nm=0) :
  Calls Tryz.prog 47 #[.agg #[.int .i64 h.now,.int .i64 h.last,tv,bv,xv,dv],.int .i64 k,.string nm] w λe w'=>(∃tu bu,e=.returned (.agg #[.int .i64 h.now,.int .i64 h.last,tu,bu,xv,dv])/\Tiny (onH h k nm).sh/\HW w' base (onH h k nm) tu bu xv dv)/\w.grownBy w' xv.ownBlock:=by
 have HON:Hid (onH h k nm={h with sh:=lsnB h.sh x.nm (thE x.sl (slE x.ps nm)),bs:=h.bs.set k {x with ad:=nm,si:=-1}}):=by show _=_;simp[onH,hk,hend]
 obtain⟨a1,c1,a2,c2,a3,c3,a4,c4,rfl,rfl,rfl,rfl⟩:=H.v.shapes;obtain⟨ps,hW,hm⟩:=H.x;have hpl:ps.length=h.bs.length:=by have:=congrArg List.length hm;rwa [B4] at this
 have hkl:k<h.bs.length:=(A2.1 hk).1;obtain⟨g,cap,eg⟩:=F4 hW.1 (by omega);simp only[Value.slice.injEq] at eg;obtain⟨rfl,-,rfl⟩:=eg;obtain⟨⟨y,ru,su⟩,hpk⟩:∃p,ps[k]?=some p:=⟨ps[k]'(by omega),A0 _⟩
 obtain rfl:x=y:=by
  have e:=hk;rw[← hm,B0,hpk] at e;simpa using e.symm
 have hrc:=hW.2 _ (A6 hpk);have hnr:NN ru:=hrc.nr;have hns:NN su:=hrc.ns;obtain⟨g3,n3,m3,rfl⟩:=hnr;obtain⟨g4,n4,m4,rfl⟩:=hns;have hmx:h.bs.length<=9223372036854775807:=by have:=Aav hW.1;unfold maxLen at this;omega
 have Hpk:Hid (ps[k]?=some (x,.slice (some ⟨g3,0,none⟩) n3 m3,.slice (some ⟨g4,0,none⟩) n4 m4)):=hpk;have Hm:Hid (ps.map (·.1)=h.bs):=hm;obtain⟨W1,hW1,kA,kR,hB1⟩:∃W1,(w.alloc (.cells #[.int .i64 h.now,.int .i64 h.last,.slice a1 h.sh.things.length c1,.slice a2 h.sh.bs.length c2,.slice (some ⟨g,0,none⟩) h.bs.length c3,.slice a4 h.ds.length c4] 37)).alloc (.cells #[.int .i64 0,.int .i64 0,.slice none 0 0,.slice none 0 0,.slice none 0 0,.slice none 0 0] 37)=W1/\W1.ownsRow w.heap.size 37 6 (.slice (some ⟨w.heap.size,0,none⟩) 1 1) 1 [.int .i64 h.now,.int .i64 h.last,.slice a1 h.sh.things.length c1,.slice a2 h.sh.bs.length c2,.slice (some ⟨g,0,none⟩) h.bs.length c3,.slice a4 h.ds.length c4]/\W1.ownsRow w.heap.size 37 6 (.slice (some ⟨w.heap.size+1,0,none⟩) 1 1) 1 [.int .i64 0,.int .i64 0,.slice none 0 0,.slice none 0 0,.slice none 0 0,.slice none 0 0]/\Below w.heap.size w W1:=⟨_,rfl,Abp w [.int .i64 h.now,.int .i64 h.last,.slice a1 h.sh.things.length c1,.slice a2 h.sh.bs.length c2,.slice (some ⟨g,0,none⟩) h.bs.length c3,.slice a4 h.ds.length c4] [.int .i64 0,.int .i64 0,.slice none 0 0,.slice none 0 0,.slice none 0 0,.slice none 0 0] rfl rfl⟩;go_enter Tryz.func47,Tryz.ntmps47
 go_upto_region 1 with fail
 try rw[hW1]
 clear hW1;have H1:=H.up hB1;have hW1':=hW.up hB1;have hrow1:W1.ownsRow base 52 6 (.slice (some ⟨g,0,none⟩) h.bs.length c3) h.bs.length (rowsF rowR ps):=by have:=hW1'.1;rw[hpl] at this;exact this
 have hcl:=G8 G6 hrow1 hpk;have q0:World.cell? W1 ⟨g,k*6,none⟩=some (.string x.nm):=hcl 0 _ rfl;have q1:World.cell? W1 ⟨g,k*6+1,none⟩=some (.slice (some ⟨g3,0,none⟩) n3 m3):=hcl 1 _ rfl;have q2:World.cell? W1 ⟨g,k*6+2,none⟩=some (.slice (some ⟨g4,0,none⟩) n4 m4):=hcl 2 _ rfl;have q3:World.cell? W1 ⟨g,k*6+3,none⟩=some (.string x.ad):=hcl 3 _ rfl;have q4:World.cell? W1 ⟨g,k*6+4,none⟩=some (.int .i64 x.si):=hcl 4 _ rfl;have q5:World.cell? W1 ⟨g,k*6+5,none⟩=some (.int .i64 x.st):=hcl 5 _ rfl;have hg1:g<W1.heap.size:=(hrow1.lt g rfl).2;have hw1:w.heap.size<W1.heap.size:=(kA.lt _ rfl).2;have hgw:g<w.heap.size:=(hW.1.lt g rfl).2;have e4:=(D9 kA).c6.2.2.2.2.1;clear hcl hk hm hpk hpl;go_upto_region 2 with fail
 obtain⟨W2,hW2,kL,hB2⟩:∃W2,W1.alloc (.cells #[.string x.nm,.slice (some ⟨g3,0,none⟩) n3 m3,.slice (some ⟨g4,0,none⟩) n4 m4,.string x.ad,.int .i64 x.si,.int .i64 x.st] 52)=W2/\W2.ownsRow W1.heap.size 52 6 (.slice (some ⟨W1.heap.size,0,none⟩) 1 1) 1 [.string x.nm,.slice (some ⟨g3,0,none⟩) n3 m3,.slice (some ⟨g4,0,none⟩) n4 m4,.string x.ad,.int .i64 x.si,.int .i64 x.st]/\Below W1.heap.size W1 W2:=⟨_,rfl,B9 W1 _ 1 (A3 _) (by unfold maxLen;omega) rfl,(A4 _ _).alloc (A3 _) _⟩;try rw[hW2]
 clear hW2 q0 q1 q2 q3 q4 q5 e4;have hv:RbV W2 x (.slice (some ⟨g3,0,none⟩) n3 m3) (.slice (some ⟨g4,0,none⟩) n4 m4):=(hrc.v.up hB1).up hB2;have HB:Hid (BkV W2 (.agg #[.slice a1 h.sh.things.length c1,.slice a2 h.sh.bs.length c2]) h.sh):=H1.v.book.up hB2;have kA2:=E1 kA hB2;have hl2:W1.heap.size<W2.heap.size:=(kL.lt _ rfl).2;have hw2:w.heap.size<W2.heap.size:=by omega
 have mk:∀w',Below W2.heap.size W2 w'->Below W2.heap.size W2 w'/\World.cell? w' ⟨w.heap.size,2,none⟩=some (.slice a1 h.sh.things.length c1)/\World.cell? w' ⟨w.heap.size,3,none⟩=some (.slice a2 h.sh.bs.length c2)/\World.cell? w' ⟨W1.heap.size,0,none⟩=some (.string x.nm)/\World.cell? w' ⟨W1.heap.size,1,none⟩=some (.slice (some ⟨g3,0,none⟩) n3 m3)/\World.cell? w' ⟨W1.heap.size,2,none⟩=some (.slice (some ⟨g4,0,none⟩) n4 m4)/\World.cell? w' ⟨W1.heap.size,3,none⟩=some (.string x.ad)/\World.cell? w' ⟨W1.heap.size,4,none⟩=some (.int .i64 x.si)/\World.cell? w' ⟨W1.heap.size,5,none⟩=some (.int .i64 x.st):=λw' hb'=>by
  obtain⟨z0,z1,z2,z3,z4,z5⟩:=(D9 (E1 kL hb')).c6;obtain⟨y0,y1,y2,y3,y4,y5⟩:=(D9 (E1 kA2 hb')).c6;exact⟨hb',y2,y3,z0,z1,z2,z3,z4,z5⟩
 have Mk:Hid (∀w',Below W2.heap.size W2 w'->Below W2.heap.size W2 w'/\World.cell? w' ⟨w.heap.size,2,none⟩=some (.slice a1 h.sh.things.length c1)/\World.cell? w' ⟨w.heap.size,3,none⟩=some (.slice a2 h.sh.bs.length c2)/\World.cell? w' ⟨W1.heap.size,0,none⟩=some (.string x.nm)/\World.cell? w' ⟨W1.heap.size,1,none⟩=some (.slice (some ⟨g3,0,none⟩) n3 m3)/\World.cell? w' ⟨W1.heap.size,2,none⟩=some (.slice (some ⟨g4,0,none⟩) n4 m4)/\World.cell? w' ⟨W1.heap.size,3,none⟩=some (.string x.ad)/\World.cell? w' ⟨W1.heap.size,4,none⟩=some (.int .i64 x.si)/\World.cell? w' ⟨W1.heap.size,5,none⟩=some (.int .i64 x.st)):=mk;have hS0:=mk W2 (A4 _ _);clear mk hrc;go_upto_region 4 with ((go_at_call 90;refine (K8 nm _).mono ?_;rintro e w' ⟨rfl,hw⟩;obtain rfl:=hw.symm;clear hw))
 go_cut [9,10] (λv9 v10 wc=>∃(Y:Nat) (tw bw:Value) (cd:Int),v9=.pointer (some ⟨Y,0,none⟩)/\v10=.int .i64 cd/\Below W2.heap.size W2 wc/\BkW wc W2.heap.size (.agg #[tw,bw]) (lsnB h.sh x.nm (thE x.sl (slE x.ps nm)))/\CB wc Y [tw,bw])
 case first =>
  have hC:LS W2 h x nm W2.drew none none none none:=(ls_nil W2 h x nm).up (A4 _ _).drew;refine F5 99 (λw'=>Below W2.heap.size W2 w'/\World.cell? w' ⟨w.heap.size,2,none⟩=some (.slice a1 h.sh.things.length c1)/\World.cell? w' ⟨w.heap.size,3,none⟩=some (.slice a2 h.sh.bs.length c2)/\World.cell? w' ⟨W1.heap.size,0,none⟩=some (.string x.nm)/\World.cell? w' ⟨W1.heap.size,1,none⟩=some (.slice (some ⟨g3,0,none⟩) n3 m3)/\World.cell? w' ⟨W1.heap.size,2,none⟩=some (.slice (some ⟨g4,0,none⟩) n4 m4)/\World.cell? w' ⟨W1.heap.size,3,none⟩=some (.string x.ad)/\World.cell? w' ⟨W1.heap.size,4,none⟩=some (.int .i64 x.si)/\World.cell? w' ⟨W1.heap.size,5,none⟩=some (.int .i64 x.st)) (by kernel_rfl) ?_;generalize W2.drew=X1 at hC ⊢
  have hS1:=Mk.out _ hC.B;refine tkx 0 rfl hS1 ?_;refine tkx 1 rfl hS1 ?_;refine tkx 2 rfl hS1 ?_;refine tkx 3 rfl hS1 ?_;refine tkx 4 rfl hS1 ?_;refine tkx 5 rfl hS1 ?_;refine tkx 6 rfl hS1 ?_;refine tkx 7 rfl hS1 ?_;clear hS1;refine L2 (i:=8) (j:=14) (by kernel_rfl) rfl rfl (λK hK=>?_) (λK hK=>?_)
  ·(go_simp;go_wp2_with (go_at_call 92;refine (AeI x _ _ nm _ (hv.up hC.B) hrec).mono ?_;rintro e X2 ⟨⟨u8,rfl,hu⟩,hb2⟩;replace hC:=hC.c8 hb2 hu;clear hb2;obtain⟨g9,c9,rfl,-⟩:=hu);refine hK.out _ _ (λ_=>(Mk.out _ hC.B)) ?_;clear hK K)
   refine L2 (i:=9) (j:=14) (by kernel_rfl) rfl rfl (λK hK=>?_) (λK hK=>?_)
   ·(go_simp;go_wp2_with (go_at_call 88;refine (Abq x _ _ _ _ _ (hv.up hC.B) (hC.s8 _ rfl) (B1 (U8 hrec nm) (by omega))).mono ?_;rintro e X3 ⟨⟨u9,rfl,hu⟩,hb2⟩;replace hC:=hC.c9 hb2 hu;clear hb2;obtain⟨g10,c10,rfl,-⟩:=hu);refine hK.out _ _ (λ_=>(Mk.out _ hC.B)) ?_;clear hK K)
    refine L2 (i:=10) (j:=14) (by kernel_rfl) rfl rfl (λK hK=>?_) (λK hK=>?_)
    ·(go_simp;go_wp2_with (go_at_call 91;refine (Aap h.sh _ _ x.nm _ _ (HB.out.up hC.B) ((Lst.ls (.inr (hC.s9 _ rfl))) (AaF hv _)) (by have h5:=AaX x.sl (slE x.ps nm);have h6:=U8 hrec nm;omega)).mono ?_;rintro e X5 ⟨⟨v8,rfl,hk8⟩,hb8⟩;replace hC:=hC.c10 hb8 hk8;obtain⟨t1,d1,t2,d2,ps8,rfl,-⟩:=hk8.parts;clear hk8 hb8);refine hK.out _ _ (λ_=>(Mk.out _ hC.B)) ?_;clear hK K;(refine tkx 11 rfl (Mk.out _ hC.B) ?_);(refine tkx 12 rfl (Mk.out _ hC.B) ?_);(refine tkx 13 rfl (Mk.out _ hC.B) ?_))
     refine D8 (i:=14) (by kernel_rfl) rfl (λK hK=>?_)
     (go_simp;replace hC:=hC.c14;refine hK.out _ _ (λ_=>(Mk.out _ hC.B)) ?_;clear hK K;generalize World.alloc _ (.cells #[.slice none 0 0,.slice none 0 0] 33)=X4 at hC ⊢)
     (have kY:=D9 (hC.s14 _ rfl);obtain⟨⟨j0,j1⟩,m0,m1⟩:=kY.c2;have hF:=hC.fin;refine D8 (i:=15) (by kernel_rfl) rfl (λK hK=>?_);go_simp;refine hK.out _ _ (λ_=>Mk.out _ hF.1) ?_;clear hK K j0 j1 m0 m1 kY;(try simp only[Act.put,List.setIfInBounds_toArray,List.set_cons_zero,List.set_cons_succ]);refine D8 (i:=16) (by kernel_rfl) rfl (λK hK=>?_);go_simp;refine hK.out _ _ (λ_=>Mk.out _ hF.1) ?_;clear hK K;(try simp only[Act.put,List.setIfInBounds_toArray,List.set_cons_zero,List.set_cons_succ]);refine F0 (by kernel_rfl) ?_ _;go_wp2_with fail;go_meet;exact⟨_,_,_,_,rfl,rfl,hF⟩)
    ·(go_simp;replace hC:=hC.c14;refine hK.out _ _ (λ_=>(Mk.out _ hC.B)) ?_;clear hK K;generalize World.alloc _ (.cells #[.slice none 0 0,.slice none 0 0] 33)=X4 at hC ⊢)
     refine D8 (i:=10) (by kernel_rfl) rfl (λK hK=>?_)
     (go_simp;go_wp2_with (go_at_call 91;refine (Aap h.sh _ _ x.nm _ _ (HB.out.up hC.B) ((Lst.ls (.inr (hC.s9 _ rfl))) (AaF hv _)) (by have h5:=AaX x.sl (slE x.ps nm);have h6:=U8 hrec nm;omega)).mono ?_;rintro e X5 ⟨⟨v8,rfl,hk8⟩,hb8⟩;replace hC:=hC.c10 hb8 hk8;obtain⟨t1,d1,t2,d2,ps8,rfl,-⟩:=hk8.parts;clear hk8 hb8);refine hK.out _ _ (λ_=>(Mk.out _ hC.B)) ?_;clear hK K;(refine tkx 11 rfl (Mk.out _ hC.B) ?_);(refine tkx 12 rfl (Mk.out _ hC.B) ?_);(refine tkx 13 rfl (Mk.out _ hC.B) ?_))
     (have kY:=D9 (hC.s14 _ rfl);obtain⟨⟨j0,j1⟩,m0,m1⟩:=kY.c2;have hF:=hC.fin;refine D8 (i:=15) (by kernel_rfl) rfl (λK hK=>?_);go_simp;refine hK.out _ _ (λ_=>Mk.out _ hF.1) ?_;clear hK K j0 j1 m0 m1 kY;(try simp only[Act.put,List.setIfInBounds_toArray,List.set_cons_zero,List.set_cons_succ]);refine D8 (i:=16) (by kernel_rfl) rfl (λK hK=>?_);go_simp;refine hK.out _ _ (λ_=>Mk.out _ hF.1) ?_;clear hK K;(try simp only[Act.put,List.setIfInBounds_toArray,List.set_cons_zero,List.set_cons_succ]);refine F0 (by kernel_rfl) ?_ _;go_wp2_with fail;go_meet;exact⟨_,_,_,_,rfl,rfl,hF⟩)
   ·(go_simp;replace hC:=hC.c14;refine hK.out _ _ (λ_=>(Mk.out _ hC.B)) ?_;clear hK K;generalize World.alloc _ (.cells #[.slice none 0 0,.slice none 0 0] 33)=X4 at hC ⊢)
    refine D8 (i:=9) (by kernel_rfl) rfl (λK hK=>?_)
    (go_simp;go_wp2_with (go_at_call 88;refine (Abq x _ _ _ _ _ (hv.up hC.B) (hC.s8 _ rfl) (B1 (U8 hrec nm) (by omega))).mono ?_;rintro e X3 ⟨⟨u9,rfl,hu⟩,hb2⟩;replace hC:=hC.c9 hb2 hu;clear hb2;obtain⟨g10,c10,rfl,-⟩:=hu);refine hK.out _ _ (λ_=>(Mk.out _ hC.B)) ?_;clear hK K)
    refine D8 (i:=10) (by kernel_rfl) rfl (λK hK=>?_)
    (go_simp;go_wp2_with (go_at_call 91;refine (Aap h.sh _ _ x.nm _ _ (HB.out.up hC.B) ((Lst.ls (.inr (hC.s9 _ rfl))) (AaF hv _)) (by have h5:=AaX x.sl (slE x.ps nm);have h6:=U8 hrec nm;omega)).mono ?_;rintro e X5 ⟨⟨v8,rfl,hk8⟩,hb8⟩;replace hC:=hC.c10 hb8 hk8;obtain⟨t1,d1,t2,d2,ps8,rfl,-⟩:=hk8.parts;clear hk8 hb8);refine hK.out _ _ (λ_=>(Mk.out _ hC.B)) ?_;clear hK K;(refine tkx 11 rfl (Mk.out _ hC.B) ?_);(refine tkx 12 rfl (Mk.out _ hC.B) ?_);(refine tkx 13 rfl (Mk.out _ hC.B) ?_))
    (have kY:=D9 (hC.s14 _ rfl);obtain⟨⟨j0,j1⟩,m0,m1⟩:=kY.c2;have hF:=hC.fin;refine D8 (i:=15) (by kernel_rfl) rfl (λK hK=>?_);go_simp;refine hK.out _ _ (λ_=>Mk.out _ hF.1) ?_;clear hK K j0 j1 m0 m1 kY;(try simp only[Act.put,List.setIfInBounds_toArray,List.set_cons_zero,List.set_cons_succ]);refine D8 (i:=16) (by kernel_rfl) rfl (λK hK=>?_);go_simp;refine hK.out _ _ (λ_=>Mk.out _ hF.1) ?_;clear hK K;(try simp only[Act.put,List.setIfInBounds_toArray,List.set_cons_zero,List.set_cons_succ]);refine F0 (by kernel_rfl) ?_ _;go_wp2_with fail;go_meet;exact⟨_,_,_,_,rfl,rfl,hF⟩)
  ·(go_simp;replace hC:=hC.c14;refine hK.out _ _ (λ_=>(Mk.out _ hC.B)) ?_;clear hK K;generalize World.alloc _ (.cells #[.slice none 0 0,.slice none 0 0] 33)=X4 at hC ⊢)
   refine D8 (i:=8) (by kernel_rfl) rfl (λK hK=>?_)
   (go_simp;go_wp2_with (go_at_call 92;refine (AeI x _ _ nm _ (hv.up hC.B) hrec).mono ?_;rintro e X2 ⟨⟨u8,rfl,hu⟩,hb2⟩;replace hC:=hC.c8 hb2 hu;clear hb2;obtain⟨g9,c9,rfl,-⟩:=hu);refine hK.out _ _ (λ_=>(Mk.out _ hC.B)) ?_;clear hK K)
   refine D8 (i:=9) (by kernel_rfl) rfl (λK hK=>?_)
   (go_simp;go_wp2_with (go_at_call 88;refine (Abq x _ _ _ _ _ (hv.up hC.B) (hC.s8 _ rfl) (B1 (U8 hrec nm) (by omega))).mono ?_;rintro e X3 ⟨⟨u9,rfl,hu⟩,hb2⟩;replace hC:=hC.c9 hb2 hu;clear hb2;obtain⟨g10,c10,rfl,-⟩:=hu);refine hK.out _ _ (λ_=>(Mk.out _ hC.B)) ?_;clear hK K)
   refine D8 (i:=10) (by kernel_rfl) rfl (λK hK=>?_)
   (go_simp;go_wp2_with (go_at_call 91;refine (Aap h.sh _ _ x.nm _ _ (HB.out.up hC.B) ((Lst.ls (.inr (hC.s9 _ rfl))) (AaF hv _)) (by have h5:=AaX x.sl (slE x.ps nm);have h6:=U8 hrec nm;omega)).mono ?_;rintro e X5 ⟨⟨v8,rfl,hk8⟩,hb8⟩;replace hC:=hC.c10 hb8 hk8;obtain⟨t1,d1,t2,d2,ps8,rfl,-⟩:=hk8.parts;clear hk8 hb8);refine hK.out _ _ (λ_=>(Mk.out _ hC.B)) ?_;clear hK K;(refine tkx 11 rfl (Mk.out _ hC.B) ?_);(refine tkx 12 rfl (Mk.out _ hC.B) ?_);(refine tkx 13 rfl (Mk.out _ hC.B) ?_))
   (have kY:=D9 (hC.s14 _ rfl);obtain⟨⟨j0,j1⟩,m0,m1⟩:=kY.c2;have hF:=hC.fin;refine D8 (i:=15) (by kernel_rfl) rfl (λK hK=>?_);go_simp;refine hK.out _ _ (λ_=>Mk.out _ hF.1) ?_;clear hK K j0 j1 m0 m1 kY;(try simp only[Act.put,List.setIfInBounds_toArray,List.set_cons_zero,List.set_cons_succ]);refine D8 (i:=16) (by kernel_rfl) rfl (λK hK=>?_);go_simp;refine hK.out _ _ (λ_=>Mk.out _ hF.1) ?_;clear hK K;(try simp only[Act.put,List.setIfInBounds_toArray,List.set_cons_zero,List.set_cons_succ]);refine F0 (by kernel_rfl) ?_ _;go_wp2_with fail;go_meet;exact⟨_,_,_,_,rfl,rfl,hF⟩)
 case rest =>
  obtain⟨Y,tw,bw,cd,rfl,rfl,hBc,hbk,kY⟩:=hcut;obtain⟨t1,d1,t2,d2,qs,e9,-⟩:=hbk.parts;simp only[Value.agg.injEq,Array.mk.injEq,List.cons.injEq,and_true] at e9;obtain⟨rfl,rfl⟩:=e9;have Hdk:Hid (Szb (lsnB h.sh x.nm (thE x.sl (slE x.ps nm)))/\Tiny (lsnB h.sh x.nm (thE x.sl (slE x.ps nm)))):=Aod H.z hT (AaF hv _);generalize lsnB h.sh x.nm (thE x.sl (slE x.ps nm))=B' at *;have hB1c:Below W1.heap.size W1 wc:=hB2.trans (hBc.mono (Nat.le_of_lt hl2));have kAc:=E1 kA2 hBc;have kLc:=E1 kL hBc;have kRc:=E1 (E1 kR hB2) hBc;obtain⟨v0,v1⟩:=kY.c2';obtain⟨e0,e1,e2,e3,e4,e5⟩:=(D9 kAc).c6;obtain⟨f0,f1,f2,f3,f4,f5⟩:=(D9 kAc).f6;have b1:=J6 (j:=2) kAc (.slice t1 B'.things.length d1);have b2:=J6 (j:=3) b1.1 (.slice t2 B'.bs.length d2);have hg2:wc.grownBy ((wc.setCell ⟨w.heap.size,2,none⟩ (.slice t1 B'.things.length d1)).setCell ⟨w.heap.size,3,none⟩ (.slice t2 B'.bs.length d2)) (Value.slice (some ⟨w.heap.size,0,none⟩) 1 1).ownBlock:=E3 b1.2 b2.2
  obtain⟨W5,hW5,kA5,kL5,kR5,hbk5,hG5⟩:∃W5,(wc.setCell ⟨w.heap.size,2,none⟩ (.slice t1 B'.things.length d1)).setCell ⟨w.heap.size,3,none⟩ (.slice t2 B'.bs.length d2)=W5/\W5.ownsRow w.heap.size 37 6 (.slice (some ⟨w.heap.size,0,none⟩) 1 1) 1 [.int .i64 h.now,.int .i64 h.last,.slice t1 B'.things.length d1,.slice t2 B'.bs.length d2,.slice (some ⟨g,0,none⟩) h.bs.length c3,.slice a4 h.ds.length c4]/\W5.ownsRow W1.heap.size 52 6 (.slice (some ⟨W1.heap.size,0,none⟩) 1 1) 1 [.string x.nm,.slice (some ⟨g3,0,none⟩) n3 m3,.slice (some ⟨g4,0,none⟩) n4 m4,.string x.ad,.int .i64 x.si,.int .i64 x.st]/\W5.ownsRow w.heap.size 37 6 (.slice (some ⟨w.heap.size+1,0,none⟩) 1 1) 1 [.int .i64 0,.int .i64 0,.slice none 0 0,.slice none 0 0,.slice none 0 0,.slice none 0 0]/\BkW W5 W2.heap.size (.agg #[.slice t1 B'.things.length d1,.slice t2 B'.bs.length d2]) B'/\W1.grownBy W5 (Value.slice (some ⟨w.heap.size,0,none⟩) 1 1).ownBlock :=
   ⟨_,rfl,b2.1,E2 kLc hg2 (E5 kLc kAc (by decide)),E2 kRc hg2 (by simp[Value.ownBlock]),hbk.step kAc (by decide) (by decide) hg2,⟨hg2.os.trans hB1c.os,hg2.tape.trans hB1c.tape,hg2.output.trans hB1c.output,B1 hB1c.size hg2.size,λi hi hne=>(hg2.block i (A1 hi hB1c.size) hne).trans (hB1c.block i hi)⟩⟩
  go_upto_region 6 with fail
  try rw[hW5]
  clear hW5 e0 e1 e2 e3 e4 e5 f0 f1 f2 f3 f4 f5 v0 v1 b1 b2 hg2 kAc kRc kLc hbk kY hBc hB1c Mk HB hS0;have l1:=B3 kL5 3 (.string nm);have l2:=B3 l1.1 4 (.int .i64 (-1));have hgL:W5.grownBy ((W5.setCell ⟨W1.heap.size,3,none⟩ (.string nm)).setCell ⟨W1.heap.size,4,none⟩ (.int .i64 (-1))) (Value.slice (some ⟨W1.heap.size,0,none⟩) 1 1).ownBlock:=E3 l1.2 l2.2;obtain⟨e0,e1,e2,e3,e4,e5⟩:=(D9 kL5).c6;obtain⟨f0,f1,f2,f3,f4,f5⟩:=(D9 kL5).f6
  obtain⟨W7,hW7,kA7,kL7,kR7,hbk7,hG7⟩:∃W7,(W5.setCell ⟨W1.heap.size,3,none⟩ (.string nm)).setCell ⟨W1.heap.size,4,none⟩ (.int .i64 (-1))=W7/\W7.ownsRow w.heap.size 37 6 (.slice (some ⟨w.heap.size,0,none⟩) 1 1) 1 [.int .i64 h.now,.int .i64 h.last,.slice t1 B'.things.length d1,.slice t2 B'.bs.length d2,.slice (some ⟨g,0,none⟩) h.bs.length c3,.slice a4 h.ds.length c4]/\W7.ownsRow W1.heap.size 52 6 (.slice (some ⟨W1.heap.size,0,none⟩) 1 1) 1 [.string x.nm,.slice (some ⟨g3,0,none⟩) n3 m3,.slice (some ⟨g4,0,none⟩) n4 m4,.string nm,.int .i64 (-1),.int .i64 x.st]/\W7.ownsRow w.heap.size 37 6 (.slice (some ⟨w.heap.size+1,0,none⟩) 1 1) 1 [.int .i64 0,.int .i64 0,.slice none 0 0,.slice none 0 0,.slice none 0 0,.slice none 0 0]/\BkW W7 W2.heap.size (.agg #[.slice t1 B'.things.length d1,.slice t2 B'.bs.length d2]) B'/\W1.grownBy W7 (Value.slice (some ⟨w.heap.size,0,none⟩) 1 1).ownBlock :=
   ⟨_,rfl,E2 kA5 hgL (E5 kA5 kL5 (by decide)),l2.1,E2 kR5 hgL (E5 kR5 kL5 (by decide)),hbk5.step kL5 (by decide) (by decide) hgL,S8 (S8 hG5 (A3 _) _) (A3 _) _⟩
  go_upto_region 8 with fail
  try rw[hW7]
  clear hW7 e0 e1 e2 e3 e4 e5 f0 f1 f2 f3 f4 f5 l1 l2 hgL kA5 kL5 kR5 hbk5 hG5;have H7:=H1.box kA hG7;have hW7':RbsW W7 base (.slice (some ⟨g,0,none⟩) h.bs.length c3) ps:=⟨E2 hW1'.1 hG7 (E5 hW1'.1 kA (by decide)),λp hp=>(hW1'.2 p hp).step kA (by decide) (by decide) hG7⟩;have hrow7:=E2 hrow1 hG7 (E5 hrow1 kA (by decide));have hbkb:=hbk7.low (show base<=W2.heap.size by omega);have H9:=H7.goes hW7' Hm.out Hpk.out hbkb Hdk.out.1 nm;have hg8:=(hW7'.write Hpk.out nm).2;have e4:=(D9 kA7).c6.2.2.2.2.1;obtain⟨l0,l1,l2,l3,l4,l5⟩:=(D9 kL7).c6
  have hq:∀j,j<6->(World.cell? W7 ⟨g,k*6+j,none⟩).isSome=true/\World.frozen? W7 ⟨g,k*6+j,none⟩=false:=λj hj=>by
   refine⟨?_,hrow7.frozenAt _⟩;have hl:j<(rowR (x,.slice (some ⟨g3,0,none⟩) n3 m3,.slice (some ⟨g4,0,none⟩) n4 m4)).length:=hj;rw[hrow7.cellAt (k*6+j) (by omega),Y9 G6 ps k _ Hpk.out j _ (A0 hl)];rfl
  obtain⟨q0,f0⟩:=hq 0 (by omega);obtain⟨q1,f1⟩:=hq 1 (by omega);obtain⟨q2,f2⟩:=hq 2 (by omega);obtain⟨q3,f3⟩:=hq 3 (by omega);obtain⟨q4,f4⟩:=hq 4 (by omega);obtain⟨q5,f5⟩:=hq 5 (by omega);obtain⟨v0,q0⟩:=Option.isSome_iff_exists.1 q0;obtain⟨v1,q1⟩:=Option.isSome_iff_exists.1 q1;obtain⟨v2,q2⟩:=Option.isSome_iff_exists.1 q2;obtain⟨v3,q3⟩:=Option.isSome_iff_exists.1 q3;obtain⟨v4,q4⟩:=Option.isSome_iff_exists.1 q4;obtain⟨v5,q5⟩:=Option.isSome_iff_exists.1 q5;rw[Nat.add_zero] at q0 f0;have kA9:=E2 kA7 hg8 (E5 kA7 hrow7 (by decide));have kR9:=E2 kR7 hg8 (E5 kR7 hrow7 (by decide));clear hq;go_upto_region 9 with fail
  clear e4 l0 l1 l2 l3 l4 l5 q0 q1 q2 q3 q4 q5 f0 f1 f2 f3 f4 f5;generalize ((((((W7.setCell ⟨g,k*6,none⟩ (.string x.nm)).setCell ⟨g,k*6+1,none⟩ (.slice (some ⟨g3,0,none⟩) n3 m3)).setCell ⟨g,k*6+2,none⟩ (.slice (some ⟨g4,0,none⟩) n4 m4)).setCell ⟨g,k*6+3,none⟩ (.string nm)).setCell ⟨g,k*6+4,none⟩ (.int .i64 (-1))).setCell ⟨g,k*6+5,none⟩ (.int .i64 x.st))=W9 at *;obtain⟨e0,e1,e2,e3,e4,e5⟩:=(D9 kA9).c6;obtain⟨y0,y1,y2,y3,y4,y5⟩:=(D9 kR9).c6;obtain⟨f0,f1,f2,f3,f4,f5⟩:=(D9 kR9).f6;go_wp2_with fail
  refine R4 Tryz.results47 Tryz.underlying37 rfl J7 (D9 kR9) rfl ?_;have hg9:=J2 W9 (w.heap.size+1) (.int .i64 h.now) (.int .i64 h.last) (.slice t1 B'.things.length d1) (.slice t2 B'.bs.length d2) (.slice (some ⟨g,0,none⟩) h.bs.length c3) (.slice a4 h.ds.length c4);rw[HON.out];refine⟨⟨_,_,rfl,Hdk.out.2,H9.box kR9 hg9⟩,?_⟩;have hz1:=hB1.size;have hz7:=hG7.size;have hz9:=hg8.size;exact⟨hg9.os.trans (hg8.os.trans (hG7.os.trans hB1.os)),hg9.tape.trans (hg8.tape.trans (hG7.tape.trans hB1.tape)),hg9.output.trans (hg8.output.trans (hG7.output.trans hB1.output)),B1 hz1 (B1 hz7 (B1 hz9 hg9.size)),λi hi hne=>(hg9.block i (by omega) (by simp;omega)).trans ((hg8.block i (by omega) hne).trans ((hG7.block i (by omega) (by simp[Value.ownBlock];omega)).trans (hB1.block i hi)))⟩
theorem AfR (b:Bk) (v:Value) (nm:ByteArray) (w:World) (h:BkV w v b) :
  Calls Tryz.prog 93 #[v,.string nm] w λe w'=>(∃v',e=.returned (.tuple #[v',.int .i64 (leaveC b nm)])/\BkW w' w.heap.size v' (leaveB b nm))/\Below w.heap.size w w':=by
 obtain⟨a1,c1,a2,c2,rfl,-,-⟩:=h.parts;obtain⟨ii,hi,iz0,iz1,iz2⟩:=info_parts Aat;obtain⟨W1,hW1,kA,kR,hB1,hs1⟩:=L1 w [.slice a1 (b).things.length c1,.slice a2 (b).bs.length c2] 33 [.slice none 0 0,.slice none 0 0] 33;go_enter Tryz.func93,Tryz.ntmps93
 go_upto_region 1 with fail
 try rw[hW1]
 clear hW1;have hk:=h.up hB1;clear h;obtain⟨e0,e1⟩:=kA.c2';go_wp2_with fail
 refine (Aan b _ _ hk).mono ?_;rintro e w2 ⟨rfl,hb2⟩;have hz2:=hb2.size;have kA:=kA.up hb2 (by omega);have kR:=kR.up hb2 (by omega);have hk:=hk.up hb2;have hB:=D6 hB1 hb2;clear e0 e1 hB1 hb2;cases hok:bookB b
 ·obtain⟨⟨y0,y1⟩,f0,f1⟩:=kR.c2
  have HC:Hid (leaveC b nm=1/\leaveB b nm=nobody):=Ach hok;go_wp2_with fail
  refine J3 Tryz.results93 Tryz.underlying33 rfl J0 kR rfl rfl ?_;exact⟨⟨_,Aaw HC.out.1.symm,by rw[HC.out.2];exact AdL _ _⟩,F9 hB (Nat.le_succ _) _ _⟩
 obtain⟨e0,e1⟩:=kA.c2';go_wp2_with fail
 refine (Adj b _ _ hk (O4 hok)).mono ?_;rintro e w3 ⟨⟨xv,rfl,hX⟩,hb3⟩;obtain⟨a3,c3,a4,c4,ps,rfl,x1,x2,x3⟩:=hX.parts;have hz3:=hb3.size;have kA:=kA.up hb3 (by omega);have kR:=kR.up hb3 (by omega);have hk:=hk.up hb3;have hB:=D6 hB hb3;clear e0 e1 hb3 hX;go_upto_region 4 with fail
 obtain⟨W4,hW4,kX,hb4,hs4⟩:=K9 w3 [.slice a3 b.things.length c3,.slice a4 b.bs.length c4] 33;rw[hW4];clear hW4;have kA:=kA.up hb4 (by omega);have kR:=kR.up hb4 (by omega);have hk:=hk.up hb4;have hB:=D6 hB hb4;have X1:=x1;have X2:=x2;have hL:=hb4;have x1:=x1.up hb4;have x2:=x2.up hb4;clear hb4;obtain⟨e0,e1⟩:=kA.c2';go_wp2_with fail
 refine (Abn b _ nm _ hk).mono ?_;rintro e w5 ⟨rfl,hb5⟩;have hz5:=hb5.size;have kR:=kR.up hb5 (by omega);have kX:=kX.up hb5 (by omega);have hB:=D6 hB hb5;have x1:=x1.up hb5;have x2:=x2.up hb5;have hL:=D6 hL hb5;clear e0 e1 hb5 kA hk;cases hm:memS (nms b.bs) nm
 ·have HC:Hid (leaveC b nm=3/\leaveB b nm=b):=AaK hok hm
  rw[O5 hm];obtain⟨⟨y0,y1⟩,f0,f1⟩:=kR.c2;obtain⟨⟨z0,z1⟩,-⟩:=kX.c2;go_wp2_with fail
  refine J3 Tryz.results93 Tryz.underlying33 rfl J0 kR rfl rfl ?_;refine⟨⟨_,Aaw HC.out.1.symm,?_⟩,F9 hB (Nat.le_succ _) _ _⟩;rw[HC.out.2];exact ((BkW.set (BkW.set ⟨_,_,ps,rfl,x1,x2,x3⟩ (by omega)) (by omega)).low (by omega))
 have HC:Hid (leaveC b nm=0/\leaveB b nm=⟨b.things,b.bs.take (plN b nm)++b.bs.drop (plN b nm+1)⟩):=Abz hok hm;obtain⟨hidx,hlt⟩:=T8 hm;rw[hidx];generalize plN b nm=p at *;have hn5:=(O4 hok).2.1;have hps:ps.length=b.bs.length:=by rw[← x3,B4]
 have hrow:=x2.1;rw[hps] at hrow;obtain⟨g,cp,hgp⟩:=F4 hrow (by omega);obtain⟨rfl,-,rfl⟩:=Value.slice.inj hgp;clear hgp hidx hm;obtain⟨hc4,hc9⟩:=Y7 hrow;have hgl:=hrow.lt g rfl;obtain⟨⟨z0,z1⟩,-⟩:=kX.c2;have hS1:World.cell? w5.drew ⟨w3.heap.size,1,none⟩=some (.slice (some ⟨g,0,none⟩) b.bs.length c4):=z1;clear z0 z1;unfold maxLen at hc9;have hpc:p<=c4:=by omega
 have hp1:p+1<=b.bs.length:=hlt;have hw1:IntKind.i64.wrap ((p:Int)+1)=(p:Int)+1:=by rw[IntKind.wrap_i64];omega
 have hw2:(p:Int)+1<=(b.bs.length:Int):=by omega
 have hw3:0<=(p:Int)+1:=by omega
 have hw4:¬(b.bs.length:Int)<(p:Int)+1:=by omega
 obtain⟨o2,ho2,hq2⟩:∃o2:Nat,(if c4=p+1 then some (⟨g,0,none⟩:Addr) else some ⟨g,(p+1)*3,none⟩)=some ⟨g,o2,none⟩/\(b.bs.length-(p+1)≠0->o2=(p+1)*3):=by
  by_cases h7:c4=p+1
  ·exact⟨0,by rw[if_pos h7],λh=>by omega⟩
  ·exact⟨(p+1)*3,by rw[if_neg h7],λ_=>rfl⟩
 go_wp2_with fail
 refine F5 13 (λw'=>World.cell? w' ⟨w3.heap.size,1,none⟩=some (.slice (some ⟨g,0,none⟩) b.bs.length c4)) (by kernel_rfl) ?_;refine tkx 1 rfl hS1 ?_;refine tkx 2 rfl hS1 ?_;refine tkx 3 rfl hS1 ?_;refine tkx 4 rfl hS1 ?_;refine tkx 6 rfl hS1 ?_;refine tkx 7 rfl hS1 ?_;refine tkx 8 rfl hS1 ?_;refine tkx 9 rfl hS1 ?_;refine tkx 10 rfl hS1 ?_;have hrowL:=(Aar hrow).alloc (.cells #[] 128);have hown0:(w5.drew.alloc (.cells #[] 128)).ownsRow w5.heap.size 128 3 (.slice (some ⟨w5.heap.size,0,none⟩) 0 0) 0 []:=B9 w5.drew #[] 0 (A3 _) (by unfold maxLen;omega) rfl;have hb0:Below w5.heap.size w5 (w5.drew.alloc (.cells #[] 128)):=((A4 w5.heap.size w5).drew).alloc (A3 _) _;have hSl:World.cell? (w5.drew.alloc (.cells #[] 128)) ⟨w3.heap.size,1,none⟩=some (.slice (some ⟨g,0,none⟩) b.bs.length c4):=(hb0.cell (p:=⟨w3.heap.size,1,none⟩) (by show w3.heap.size<_;omega)).trans hS1;refine D8 (i:=0) (by kernel_rfl) rfl (λK hK=>?_);go_simp
 refine hK.out _ _ (λ_=>hSl) ?_;clear hK K;have hsrc1:=Aci hrowL 0 (ps.take p) (An8 ps p);have hone1:=x2.one (ps.take p) (λq hq=>List.mem_of_mem_take hq);have hone2:=x2.one (ps.drop (p+1)) (λq hq=>List.mem_of_mem_drop hq);have hlen1:(rowsB (ps.take p)).length=p*3:=by rw[R3,B7];omega
 have hlen2:(rowsB (ps.drop (p+1))).length=(b.bs.length-(p+1))*3:=by rw[R3,A8];omega
 refine D8 (i:=5) (by kernel_rfl) rfl (λK hK=>?_);refine F6 rfl _ _ 31 rfl w5.heap.size 128 ii _ 3 64 Tryz.underlying31 hi iz0 iz1 iz2 rfl (by decide) _ 0 [] rfl hown0 ⟨g,0,none⟩ p c4 (rowsB (ps.take p)) rfl hlen1 hsrc1 hone1 (by unfold maxLen;omega) (by omega) hb0.size ?_;intro v1 w6 hown6 hgr6;have hb6:=I3 hb0 hown0 hgr6 (A3 _);have hrow6:=E2 hrowL hgr6 (Agn (X8 hown0 hgl.2));have hS6:World.cell? w6 ⟨w3.heap.size,1,none⟩=some (.slice (some ⟨g,0,none⟩) b.bs.length c4):=(hb6.cell (p:=⟨w3.heap.size,1,none⟩) (by show w3.heap.size<_;omega)).trans hS1
 have hsrc2:∀(j:Nat) (u:Value),(rowsB (ps.drop (p+1)))[j]?=some u->w6.cell? ((⟨g,o2,none⟩:Addr).add j)=some u:=λj u hu=>by
  have hj:=(A2.1 hu).1;rw[hq2 (by omega)];exact Aci hrow6 (p+1) (ps.drop (p+1)) (Ai7 ps (p+1)) j u hu
 clear hrowL hsrc1 hgr6 hrow6 hSl;refine hK.out _ _ (λ_=>hS6) ?_;clear hK K;refine D8 (i:=11) (by kernel_rfl) rfl (λK hK=>?_);refine F6 rfl _ _ 31 rfl w5.heap.size 128 ii _ 3 64 Tryz.underlying31 hi iz0 iz1 iz2 rfl (by decide) v1 _ _ rfl hown6 ⟨g,o2,none⟩ (b.bs.length-(p+1)) _ (rowsB (ps.drop (p+1))) rfl hlen2 hsrc2 hone2 (by unfold maxLen;omega) (by omega) hb6.size ?_;intro v2 w7 hown7 hgr7;have hb7:=I3 hb6 hown6 hgr7 (A3 _);have hS7:World.cell? w7 ⟨w3.heap.size,1,none⟩=some (.slice (some ⟨g,0,none⟩) b.bs.length c4):=(hb7.cell (p:=⟨w3.heap.size,1,none⟩) (by show w3.heap.size<_;omega)).trans hS1;have kX7:=kX.up hb7 (by omega);have kR7:=kR.up hb7 (by omega);have hBB:=D6 hB hb7;obtain⟨a7,c7,rfl⟩:=F2 hown7;obtain⟨⟨j0,j1⟩,m0,m1⟩:=kX7.c2;clear hsrc2 hgr7 hown6 hown0 hS6 hb6 hb0;refine hK.out _ _ (λ_=>hS7) ?_;clear hK K;refine tkx 12 rfl hS7 ?_;refine D8 (i:=13) (by kernel_rfl) rfl (λK hK=>?_);go_simp
 refine hK.out _ _ (λh=>absurd rfl h) ?_;clear hK K;refine F0 (by kernel_rfl) ?_ _;have hV:(.slice a7 (0+p+(b.bs.length-(p+1))) c7:Value)=.slice a7 (p+(b.bs.length-(p+1))) c7:=by rw[Nat.zero_add]
 rw[hV] at hown7;have hx3:w3.heap.size<w5.heap.size:=by omega
 generalize hU:(Value.slice a7 (p+(b.bs.length-(p+1))) c7)=u7 at *;have kX8:CB (w7.setCell ⟨w3.heap.size,1,none⟩ u7) w3.heap.size [.slice a3 b.things.length c3,u7]:=kX7.set (j:=1) (by simp);have kR8:CB (w7.setCell ⟨w3.heap.size,1,none⟩ u7) (w.heap.size+1) [.slice none 0 0,.slice none 0 0]:=kR7.other (by omega);have hL8:Below w3.heap.size w3 (w7.setCell ⟨w3.heap.size,1,none⟩ u7):=((hL.trans (hb7.mono (by omega))).setCell (p:=⟨w3.heap.size,1,none⟩) (A3 _) _);have hB8:Below w.heap.size w (w7.setCell ⟨w3.heap.size,1,none⟩ u7):=hBB.setCell (p:=⟨w3.heap.size,1,none⟩) (by show _<=w3.heap.size;omega) _;have hrow8:(w7.setCell ⟨w3.heap.size,1,none⟩ u7).ownsRow w5.heap.size 128 3 u7 _ _:=E9 hown7 (E0 (E4 _ _) _) hx3;have x18:=X1.up hL8
 have hW8:BsW (w7.setCell ⟨w3.heap.size,1,none⟩ u7) w2.heap.size u7 (ps.take p++ps.drop (p+1)):=Ago (G4 hrow8 (by omega)) (by rw[Aaf];rfl) (by rw[A9,B7,A8];omega) (λq hq=>by
  have hq':q∈ps:=by
   rcases D1.1 hq with h|h
   ·exact List.mem_of_mem_take h
   ·exact List.mem_of_mem_drop h
  obtain⟨q1,q2,q3⟩:=X2.2 q hq';exact⟨q1.up hL8,q2.up hL8,q3⟩)
 have HM:Hid ((ps.take p++ps.drop (p+1)).map (·.1)=b.bs.take p++b.bs.drop (p+1)):=by
  show _=_
  rw[← x3,List.map_append,List.map_take,List.map_drop]
 subst hU;clear hS1 hS7 hown7 kX7 kR7 j0 j1 m0 m1 hb7 hBB hrow8 X1 X2 x1 x2 kX kR hB hL hL8;generalize w7.setCell ⟨w3.heap.size,1,none⟩ (.slice a7 (p+(b.bs.length-(p+1))) c7)=W8 at *;obtain⟨⟨y0,y1⟩,f0,f1⟩:=kR8.c2;obtain⟨⟨z0,z1⟩,-⟩:=kX8.c2;go_wp2_with fail
 refine J3 Tryz.results93 Tryz.underlying33 rfl J0 kR8 rfl rfl ?_;refine⟨⟨_,Aaw HC.out.1.symm,?_⟩,F9 hB8 (Nat.le_succ _) _ _⟩;rw[HC.out.2];exact ((BkW.set (BkW.set (b:=⟨b.things,b.bs.take p++b.bs.drop (p+1)⟩) ⟨_,_,_,rfl,x18,hW8,HM.out⟩ (by omega)) (by omega)).low (by omega))
end Go.Proofs.YtebfdccbmmpceaaGreatDoor
