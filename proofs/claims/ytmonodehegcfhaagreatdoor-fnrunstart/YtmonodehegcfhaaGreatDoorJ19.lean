/- The specification's slots from a name on. -/
import Derived.Test.YtmonodehegcfhaaGreatDoorJ9
import Derived.Test.YtmonodehegcfhaaGreatDoorJ16
import Derived.Test.YtmonodehegcfhaaGreatDoorJ12
import Derived.Deep.RegionWith
import Derived.Deep.RegionHeld
import Derived.Test.YtmonodehegcfhaaGreatDoorJ17
import Derived.Test.YtmonodehegcfhaaGreatDoorJ15
import Derived.Test.YtmonodehegcfhaaGreatDoorJ14
import Derived.Test.YtmonodehegcfhaaGreatDoorJ8
import Derived.Laws.OwnMore
set_option maxRecDepth 20000
set_option maxHeartbeats 4000000
namespace Go.Proofs.YtmonodehegcfhaaGreatDoor
open Go.Proofs.Tryz
open Go.RowKit
variable{a:Int}{bs:List Ba}{tg:List BA}{b g k o q:Nat}{x0 x1 x2 x3 x4 x5 x6 x7 y:Value}{W w0 w1:World}
theorem Ky(w:World):R8 (w.alloc (Kz [] 9)) (Sz w.heap.size 0 0) [] :=
 ⟨w.heap.size,0,rfl,λi s hs=>by simp at hs,by simp,by simp,by unfold maxLen;omega⟩
theorem XL(h:Up W w0/\At w0 b o x0/\At w0 b (o+1) x1/\At w0 b (o+2) x2/\At w0 b (o+3) x3/\At w0 b (o+4) x4/\At w0 b (o+5) x5/\At w0 b (o+6) x6/\At w0 b (o+7) x7):Up W w0.drew/\w0.drew.cell? ⟨b,o,none⟩=some x0/\w0.drew.cell? ⟨b,o+1,none⟩=some x1/\w0.drew.cell? ⟨b,o+2,none⟩=some x2/\w0.drew.cell? ⟨b,o+3,none⟩=some x3/\w0.drew.cell? ⟨b,o+4,none⟩=some x4/\w0.drew.cell? ⟨b,o+5,none⟩=some x5/\w0.drew.cell? ⟨b,o+6,none⟩=some x6/\w0.drew.cell? ⟨b,o+7,none⟩=some x7 :=
 ⟨h.1.drew,h.2⟩
theorem Ze(hb:b<W.heap.size)(h:Up W w0/\At w0 b o x0/\At w0 b (o+1) x1/\At w0 b (o+2) x2/\At w0 b (o+3) x3/\At w0 b (o+4) x4/\At w0 b (o+5) x5/\At w0 b (o+6) x6/\At w0 b (o+7) x7)(hB:Up w0 w1):Up W w1/\At w1 b o x0/\At w1 b (o+1) x1/\At w1 b (o+2) x2/\At w1 b (o+3) x3/\At w1 b (o+4) x4/\At w1 b (o+5) x5/\At w1 b (o+6) x6/\At w1 b (o+7) x7:=by
 obtain⟨h1,a0,a1,a2,a3,a4,a5,a6,a7⟩:=h;have hl:b<w0.heap.size:=A2 hb h1.size;exact⟨D5 h1 hB,(hB.cell (p:=⟨b,o,none⟩) hl).trans a0,(hB.cell (p:=⟨b,o+1,none⟩) hl).trans a1,(hB.cell (p:=⟨b,o+2,none⟩) hl).trans a2,(hB.cell (p:=⟨b,o+3,none⟩) hl).trans a3,(hB.cell (p:=⟨b,o+4,none⟩) hl).trans a4,(hB.cell (p:=⟨b,o+5,none⟩) hl).trans a5,(hB.cell (p:=⟨b,o+6,none⟩) hl).trans a6,(hB.cell (p:=⟨b,o+7,none⟩) hl).trans a7⟩
theorem EW(ps:List Ph)(b o c:Nat)(hok:P3 ps=true)(f:Nat):∀(nm:BA)(w:World),M2 w b o ps->b<w.heap.size->(U8 ps nm<0∨(ps.length:Int)<U8 ps nm+f)->
  Calls prog 65 #[Sy b o ps.length c,Tz nm] w λe w'=>(∃u,e=.returned u/\R8 w' u (O9 ps nm))/\Up w w':=by
 have b8:ps.length<=12:=((M3 ps).1 hok).2.1;have hn:ps.length<=1048576:=by omega
 have a0:∀nm,(O9 ps nm).length<=24:=λnm=>by have:=DU ps nm;omega
 have a1:∀nm w,U8 ps nm<0->M2 w b o ps->Calls prog 65 #[Sy b o ps.length c,Tz nm] w λe w'=>(∃u,e=.returned u/\R8 w' u (O9 ps nm))/\Up w w':=by
  intro nm w h0 hr
  have hv:O9 ps nm=[]:=by
   unfold O9;rw[Xv ps _ _ _ nm h0];split<;>rfl
  have HV:Hid (O9 ps nm=[]):=hv;clear hv a0;go_in;go_wp2_with (go_at_call 77;refine Sx (Bb _ _ _ _ _ _ hr hn) ?_)
  go_ret;exact⟨⟨_,rfl,by rw[HV.out];exact Ky w⟩,(A5 _ _).alloc (A4 _) _⟩
 induction f with
 | zero =>
  intro nm w hr hb hf;have a6:=TN ps nm;exact a1 nm w (by omega) hr
 | succ f ih =>
  intro nm w hr hb hf;have a6:=TN ps nm;by_cases h0:U8 ps nm<0
  ·exact a1 nm w h0 hr
  ·obtain⟨k,a5⟩:∃k:Nat,U8 ps nm=(k:Int):=⟨(U8 ps nm).toNat,by omega⟩;have hk:k<ps.length:=by omega
   obtain⟨g1,g2⟩:=Rm hok hk;have HV:Hid (O9 ps nm=Z0 (Z0 (CA ps[k]) (O9 ps (ps[k]).t)) (O9 ps (ps[k]).e)):=Ou hok _ _ _ nm hk a5
   have I1:Hid (∀w,M2 w b o ps->b<w.heap.size->Calls prog 65 #[Sy b o ps.length c,Tz (ps[k]).t] w λe w'=>(∃u,e=.returned u/\R8 w' u (O9 ps (ps[k]).t))/\Up w w'):=by
    show _;intro w hr hb;exact ih _ w hr hb (by have:=MW hok hk _ g1;omega)
   have I2:Hid (∀w,M2 w b o ps->b<w.heap.size->Calls prog 65 #[Sy b o ps.length c,Tz (ps[k]).e] w λe w'=>(∃u,e=.returned u/\R8 w' u (O9 ps (ps[k]).e))/\Up w w'):=by
    show _;intro w hr hb;exact ih _ w hr hb (by have:=MW hok hk _ g2;omega)
   obtain⟨c0,c1,c2,c3,c4,c5,c6,c7⟩:=hr.cells k hk
   have HH5:Hid (∀w,M2 w b o ps->Calls prog 77 #[Sy b o ps.length c,Tz nm] w λe w'=>e=.returned (Iz (k:Int))/\w'=w):=by
    show _;intro w hr;rw[← a5];exact Bb _ _ _ _ _ _ hr hn
   have b9:=a0 (ps[k]).t;have c8:=a0 (ps[k]).e
   have c9:(CA ps[k]).length<=2:=by
    unfold CA;split
    ·have:=Iw [(ps[k]).a] (ps[k]).b;simpa using this
    ·simp
   clear a5 hf a6 ih h0 a1 a0 g1 g2;generalize ps[k]=p at *;go_in;go_wp2_with fail;refine Sx (HH5.out _ hr) ?_;go_wp2_with fail;have a7:Up w w/\At w b (o+k*8) (Tz p.nm)/\At w b (o+k*8+1) (Iz p.k)/\At w b (o+k*8+2) (Tz p.a)/\At w b (o+k*8+3) (Tz p.b)/\At w b (o+k*8+4) (Iz p.n)/\At w b (o+k*8+5) (Iz p.wi)/\At w b (o+k*8+6) (Tz p.t)/\At w b (o+k*8+7) (Tz p.e):=⟨A5 _ _,c0,c1,c2,c3,c4,c5,c6,c7⟩;clear c0 c1 c2 c3 c4 c5 c6 c7;have Hr:Hid (M2 w b o ps):=hr;clear hr
   go_region_held (λw'=>Up w w'/\At w' b (o+k*8) (Tz p.nm)/\At w' b (o+k*8+1) (Iz p.k)/\At w' b (o+k*8+2) (Tz p.a)/\At w' b (o+k*8+3) (Tz p.b)/\At w' b (o+k*8+4) (Iz p.n)/\At w' b (o+k*8+5) (Iz p.wi)/\At w' b (o+k*8+6) (Tz p.t)/\At w' b (o+k*8+7) (Tz p.e)) (first|exact XL a7|exact Ze hb (by assumption) (by assumption))
    (first
     | (go_at_call 122;refine (RB p _).mono ?_;rintro e w1 ⟨⟨u1,rfl,a8⟩,b4⟩)
     | (go_at_call_of 65 (Value.string p.t);refine (I1.out _ (Hr.out.up (And.left (by assumption)) hb) (A2 hb (Below.size (And.left (by assumption))))).mono ?_;rintro e w2 ⟨⟨u2,rfl,a9⟩,b0⟩;have a2:=a8.up b0)
     | (go_at_call_of 65 (Value.string p.e);refine (I2.out _ (Hr.out.up (And.left (by assumption)) hb) (A2 hb (Below.size (And.left (by assumption))))).mono ?_;rintro e w4 ⟨⟨u4,rfl,a4⟩,b1⟩;have a3:=b2.up b1)
     | (go_at_call 121;revert a4;intro a4;refine (Pe _ _ u3 u4 _ a3 a4 (by have:=Gs (CA p) (O9 ps p.t);omega)).mono ?_;rintro e w5 ⟨⟨u5,rfl,b5⟩,b6⟩)
     | (go_at_call 121;refine (Pe _ _ u1 u2 _ a2 a9 (by omega)).mono ?_;rintro e w3 ⟨⟨u3,rfl,b2⟩,b7⟩))
   rename_i hHeld;have b3:=hHeld.1;clear hHeld b4 b0 b7 b1 b6 a8 a9 b2 a4 a2 a3 a7;go_wp2_with fail;go_ret;exact⟨⟨_,rfl,by rw[HV.out];exact b5⟩,b3⟩
theorem Ek(ps:List Ph)(l:List Sl)(b o c g q cc:Nat)(w:World)(hr:M2 w b o ps)(hb:b<w.heap.size)(hok:P3 ps=true)
  (hl:DK w g q l) (hg:g<w.heap.size) (hn:l.length<=1048576) (hz:∀y∈l,y.s.size<=maxLen/\y.t.size<=maxLen) :
  Calls prog 27 #[Sy b o ps.length c,Sy g q l.length cc] w λe w'=>e=.returned (.bool (pB (N7 ps l)))/\Up w w':=by
 obtain⟨b0,a5,-⟩:=(M3 ps).1 hok;obtain⟨c0,-⟩:=hr.cells 0 (by omega);rw[show o+0*8=o by omega] at c0;have a7:=DU ps (I0 ps);have a0:=EW ps b o c hok 20 (I0 ps) w hr hb (by omega);rw[← BL (by omega)] at c0;have HP:Hid (N7 ps l=EA l (O9 ps (I0 ps))):=rfl;have a2:(O9 ps (I0 ps)).length<=24:=by omega
 clear a7;generalize O9 ps (I0 ps)=ns at *;generalize I0 ps=f0 at *;go_in;go_wp2_with fail;refine a0.mono ?_;rintro e w1 ⟨⟨u,rfl,hT⟩,a1⟩;obtain⟨gu,cu,rfl,hS,a6,-⟩:=hT;clear a0 c0;by_cases hll:l.length=ns.length
 case neg =>
  have HN:Hid (pB (N7 ps l)=false):=I5 (by rw[HP.out];exact λh=>hll h.1);have a8:¬ns.length=l.length:=λe=>hll e.symm;go_wp2_with fail;go_ret;exact⟨D8 HN.out.symm,a1⟩
 have Hll:Hid (l.length=ns.length):=hll;go_upto_region 4 with fail;clear hll;have hn:ns.length<=1048576:=by omega
 go_wp2_with fail;go_loopw [6,7] (λi _ w'=>∃k:Nat,k<=ns.length/\i=.int .i64 k/\Ce l ns k/\Ig l k/\Up w1 w') (λi _ _=>ns.length-(intOf i).toNat)
 case atStart=>exact⟨0,by omega,rfl,λj x hj _=>by omega,λj k x y hj=>by omega,A5 _ _⟩
 case round =>
  obtain⟨k,hk,rfl,hP,hD,hB⟩:=hrel;have HPk:Hid (Ce l ns k):=hP;have HDk:Hid (Ig l k):=hD;clear hP hD;by_cases hkn:k<ns.length
  ·have hp:k<l.length:=by have:=Hll.out;omega
   have a4:=hl.up (D5 a1 hB) hg;obtain⟨d0,d1⟩:=a4.cells k hp;have e0:At wr gu k (Tz ns[k]):=(hB.cell (p:=⟨gu,k,none⟩) a6).trans (by have:=hS k ns[k] (by simp);simpa using this);obtain⟨zs,zt⟩:=hz l[k] (by simp);have N1:Hid (((l[k]).s.toList==(ns[k]).toList)=false->¬EA l ns):=Ce.no1 hp hkn;have N2:Hid (G0 (l[k]).t=false->¬EA l ns):=Ce.no2 hp;have N3:Hid (((l[k]).s.toList==(ns[k]).toList)=true->G0 (l[k]).t=true->Ce l ns (k+1)):=HPk.out.step hp hkn;have N4:Hid ((∀(j:Nat)(y:Sl),j<k->l[j]?=some y->y.t.toList≠(l[k]).t.toList)->Ig l (k+1)):=HDk.out.step hp;have N5:Hid (∀(j:Nat)(hj:j<k),((l[j]'(by omega)).t.toList==(l[k]).t.toList)=true->¬EA l ns):=λj hj=>Ig.no hp hj;have q1:∀m,Calls prog 28 #[Tz (l[k]).t] (wr.drewN m) λe w'=>e=.returned (.bool (G0 (l[k]).t))/\∃n,w'=wr.drewN n:=λm=>(O1 _ _ zt).mono λe w' ⟨h1,h2⟩=>⟨h1,m,h2⟩;generalize hy:l[k]=y at *;generalize ns[k]=s0 at *;cases h1:(y.s.toList==s0.toList)
   ·have Hno:Hid (pB (N7 ps l)=false):=I5 (by rw[HP.out];exact N1.out h1);go_wp2_with fail;go_quiet (fail);go_wp2;go_ret;exact⟨D8 Hno.out.symm,G4 (D5 a1 hB) _⟩
   ·cases h2:G0 y.t
    ·have Hno:Hid (pB (N7 ps l)=false):=I5 (by rw[HP.out];exact N2.out h2);rw[h2] at q1;go_wp2_with fail;go_quiet ((go_at_call 28;exact q1 _))
     go_wp2_with fail;go_ret;exact⟨D8 Hno.out.symm,G4 (D5 a1 hB) _⟩
    ·have Hyes:Hid (Ce l ns (k+1)):=N3.out h1 h2;rw[h2] at q1;go_wp2_with fail;go_quiet ((go_at_call 28;exact q1 _))
     go_wp2_with fail;go_loopw [7] (λi w'=>∃m:Nat,m<=k/\i=.int .i64 m/\(∀(j:Nat)(z:Sl),j<m->l[j]?=some z->z.t.toList≠y.t.toList)/\∃nd,w'=wr.drewN nd) (λi _=>k-(intOf i).toNat)
     case atStart=>exact⟨0,by omega,rfl,λj z hj=>by omega,_,rfl⟩
     case round =>
      obtain⟨m,hm,rfl,a3,nd,rfl⟩:=hrel;have Hal:Hid (∀(j:Nat)(z:Sl),j<m->l[j]?=some z->z.t.toList≠y.t.toList):=a3;clear a3;by_cases hmk:m<k
      ·have a9:m<l.length:=by omega
       obtain⟨b1,f1⟩:=a4.cells m a9;have f2:=f1;cases h3:((l[m]).t.toList==y.t.toList)
       ·have Hq:Hid (∀(j:Nat)(z:Sl),j<m+1->l[j]?=some z->z.t.toList≠y.t.toList):=λj z hj hz=>by
         rcases Nat.lt_or_ge j m with h'|h'
         ·exact Hal.out j z h' hz
         ·obtain rfl:j=m:=by omega
          obtain⟨_,rfl⟩:=A3.1 hz;intro e;rw[e] at h3;simp at h3
        go_wp2_with fail;go_quiet (fail);go_wp2_with fail;go_roundw
        case rel=>exact⟨m+1,by omega,by go_num,Hq.out,_,rfl⟩
        case measure=>simp[intOf];omega
       ·have Hno:Hid (pB (N7 ps l)=false):=I5 (by rw[HP.out];exact N5.out m hmk h3);go_wp2_with fail;go_quiet (fail);go_wp2_with fail;go_ret;exact⟨D8 Hno.out.symm,G4 (G4 (D5 a1 hB) _) _⟩
      ·have Hd:Hid (Ig l (k+1)):=N4.out λj z hj hz=>Hal.out j z (by omega) hz;go_wp2_with fail;go_roundw
       case rel=>exact⟨k+1,by omega,by go_num,Hyes.out,Hd.out,G4 hB _⟩
       case measure=>simp[intOf];omega
  ·have Hq:Hid (pB (N7 ps l)=true):=L9 (by
    rw[HP.out];have e:k=l.length:=by have:=Hll.out;omega
    exact⟨Hll.out,by have:=HPk.out;rwa [e] at this,by have:=HDk.out;rwa [e] at this⟩)
   go_wp2_with fail;go_ret;exact⟨D8 Hq.out.symm,D5 a1 hB⟩
theorem CV(s:BA)(w:World)(hs:s.size<=maxLen):Calls prog 28 #[Tz s] w λe w'=>e=.returned (.bool (G0 s))/\Up w w' :=
 (O1 s w hs).mono λ_ _ h=>⟨h.1,by rw[h.2];exact A5 _ _⟩
theorem Bu(x:Rb)(rv sv:Value)(w:World)(h:T1 w x rv sv):
  Calls prog 44 #[.agg #[Tz x.nm,rv,sv,Tz x.ad,Iz x.si,Iz x.st]] w λe w'=>e=.returned (.bool (pB (M0 x)))/\Up w w':=by
 obtain⟨b,o,c,rfl,hr,hb,a4,a5⟩:=h.r;obtain⟨g,q,d,rfl,hl,hg⟩:=h.s;have zp:=h.zp;have zs:=h.zs;have zn:=h.zn;have np:=h.np;have ns:=h.ns;clear h;have hC:CB (w.alloc (Kz [Tz x.nm,Sy b o x.ps.length c,Sy g q x.sl.length d,Tz x.ad,Iz x.si,Iz x.st] 40)) w.heap.size [Tz x.nm,Sy b o x.ps.length c,Sy g q x.sl.length d,Tz x.ad,Iz x.si,Iz x.st]:=F3 w _ _;have a1:=(A5 w.heap.size w).alloc (A4 _) (Kz [Tz x.nm,Sy b o x.ps.length c,Sy g q x.sl.length d,Tz x.ad,Iz x.si,Iz x.st] 40);go_in;go_upto_region 1 with fail;generalize w.alloc (Kz [Tz x.nm,Sy b o x.ps.length c,Sy g q x.sl.length d,Tz x.ad,Iz x.si,Iz x.st] 40)=W1 at *;obtain⟨d0,d1,d2,d3,d4,d5⟩:=hC.c6;have a6:=hC.2.2;have hB:Up W1 W1:=A5 _ _;obtain⟨hc,hf⟩:=G9 hB;cases h1:G0 x.nm
 ·have HN:Hid (pB (M0 x)=false):=I5 λh=>by rw[h.1] at h1;cases h1
  go_wp2_with (first|(go_at_call 28;refine (CV _ _ zn).mono ?_;rintro e w1 ⟨rfl,a0⟩;(first|replace hB:=D5 hB a0|have hB:=a0);clear a0;(try clear hc hf);obtain⟨hc,hf⟩:=G9 hB))
  go_ret;exact⟨D8 HN.out.symm,D5 a1 hB⟩
 cases h3:P3 x.ps
 ·have HN:Hid (pB (M0 x)=false):=I5 λh=>by rw[h.2.1] at h3;cases h3
  go_wp2_with (first|(go_at_call 28;refine (CV _ _ zn).mono ?_;rintro e w1 ⟨rfl,a0⟩;(first|replace hB:=D5 hB a0|have hB:=a0);clear a0;(try clear hc hf);obtain⟨hc,hf⟩:=G9 hB)|(go_at_call 26;refine (Dl x.ps b o c _ (hr.up (D5 a1 hB) hb) (A2 hb (D5 a1 hB).size) zp np).mono ?_;rintro e w1 ⟨rfl,a0⟩;(first|replace hB:=D5 hB a0|have hB:=a0);clear a0;(try clear hc hf);obtain⟨hc,hf⟩:=G9 hB))
  go_ret;exact⟨D8 HN.out.symm,D5 a1 hB⟩
 cases h4:pB (N7 x.ps x.sl)
 ·have HN:Hid (pB (M0 x)=false):=I5 λh=>S1.1 h4 h.2.2.1;go_wp2_with (first|(go_at_call 28;refine (CV _ _ zn).mono ?_;rintro e w1 ⟨rfl,a0⟩;(first|replace hB:=D5 hB a0|have hB:=a0);clear a0;(try clear hc hf);obtain⟨hc,hf⟩:=G9 hB)|(go_at_call 26;refine (Dl x.ps b o c _ (hr.up (D5 a1 hB) hb) (A2 hb (D5 a1 hB).size) zp np).mono ?_;rintro e w1 ⟨rfl,a0⟩;(first|replace hB:=D5 hB a0|have hB:=a0);clear a0;(try clear hc hf);obtain⟨hc,hf⟩:=G9 hB)|(go_at_call 27;refine (Ek x.ps x.sl b o c g q d _ (hr.up (D5 a1 hB) hb) (A2 hb (D5 a1 hB).size) h3 (hl.up (D5 a1 hB) hg) (A2 hg (D5 a1 hB).size) ns zs).mono ?_;rintro e w1 ⟨rfl,a0⟩;(first|replace hB:=D5 hB a0|have hB:=a0);clear a0;(try clear hc hf);obtain⟨hc,hf⟩:=G9 hB))
  go_ret;exact⟨D8 HN.out.symm,D5 a1 hB⟩
 by_cases h2:1<=x.st
 case neg =>
  have HN:Hid (pB (M0 x)=false):=I5 λh=>h2 h.2.2.2.1;go_wp2_with (first|(go_at_call 28;refine (CV _ _ zn).mono ?_;rintro e w1 ⟨rfl,a0⟩;(first|replace hB:=D5 hB a0|have hB:=a0);clear a0;(try clear hc hf);obtain⟨hc,hf⟩:=G9 hB)|(go_at_call 26;refine (Dl x.ps b o c _ (hr.up (D5 a1 hB) hb) (A2 hb (D5 a1 hB).size) zp np).mono ?_;rintro e w1 ⟨rfl,a0⟩;(first|replace hB:=D5 hB a0|have hB:=a0);clear a0;(try clear hc hf);obtain⟨hc,hf⟩:=G9 hB)|(go_at_call 27;refine (Ek x.ps x.sl b o c g q d _ (hr.up (D5 a1 hB) hb) (A2 hb (D5 a1 hB).size) h3 (hl.up (D5 a1 hB) hg) (A2 hg (D5 a1 hB).size) ns zs).mono ?_;rintro e w1 ⟨rfl,a0⟩;(first|replace hB:=D5 hB a0|have hB:=a0);clear a0;(try clear hc hf);obtain⟨hc,hf⟩:=G9 hB))
  go_ret;exact⟨D8 HN.out.symm,D5 a1 hB⟩
 have H123:Hid (G0 x.nm=true/\P3 x.ps=true/\N7 x.ps x.sl/\1<=x.st):=⟨h1,h3,K5.1 h4,h2⟩;go_upto_region 3 with (first|(go_at_call 28;refine (CV _ _ zn).mono ?_;rintro e w1 ⟨rfl,a0⟩;(first|replace hB:=D5 hB a0|have hB:=a0);clear a0;(try clear hc hf);obtain⟨hc,hf⟩:=G9 hB)|(go_at_call 26;refine (Dl x.ps b o c _ (hr.up (D5 a1 hB) hb) (A2 hb (D5 a1 hB).size) zp np).mono ?_;rintro e w1 ⟨rfl,a0⟩;(first|replace hB:=D5 hB a0|have hB:=a0);clear a0;(try clear hc hf);obtain⟨hc,hf⟩:=G9 hB)|(go_at_call 27;refine (Ek x.ps x.sl b o c g q d _ (hr.up (D5 a1 hB) hb) (A2 hb (D5 a1 hB).size) h3 (hl.up (D5 a1 hB) hg) (A2 hg (D5 a1 hB).size) ns zs).mono ?_;rintro e w1 ⟨rfl,a0⟩;(first|replace hB:=D5 hB a0|have hB:=a0);clear a0;(try clear hc hf);obtain⟨hc,hf⟩:=G9 hB))
 clear h1 h2 h4;cases h5:O6 x.ps x.ad
 ·have HN:Hid (pB (M0 x)=false):=I5 λh=>by rw[h.2.2.2.2.1] at h5;cases h5
  have a2:=λW (hW:M2 W b o x.ps)=>Bb x.ps b o c x.ad W hW np;rw[KY x.ps x.ad h5] at a2;clear h5;go_wp2_with fail;refine Sx (a2 _ (hr.up (D5 a1 hB) hb)) ?_;go_wp2_with fail;go_quiet (fail);go_wp2;go_ret;exact⟨D8 HN.out.symm,G4 (D5 a1 hB) _⟩
 obtain⟨k,hk,a3⟩:=EH h5
 have HY:Hid (pB (M0 x)=Ai x.si (-1) ((x.ps[k]).wi-1)):=by
  show _=_
  obtain⟨k1,k2,k3,k4⟩:=H123.out;have e:=EB hk a3
  have:M0 x↔(-1<=x.si/\x.si<=(x.ps[k]).wi-1):=by
   rw[← e];exact⟨λh=>⟨h.2.2.2.2.2.1,by have:=h.2.2.2.2.2.2;omega⟩,λh=>⟨k1,k2,k3,k4,h5,h.1,by omega⟩⟩
  rw[Bool.eq_iff_iff,BX,K5];exact this
 have a2:=λW (hW:M2 W b o x.ps)=>Bb x.ps b o c x.ad W hW np;rw[a3] at a2;have a7:1<=(x.ps[k]).wi/\(x.ps[k]).wi<=1000:=Kc (FN h3 (by simp));obtain⟨-,-,-,-,-,c5,-⟩:=(hr.up (D5 a1 hB) hb).cells k hk;clear a3 h5 h3;generalize (x.ps[k]).wi=wi at *;go_upto_region 4 with (go_at_call 77;refine Sx (a2 _ (hr.up (D5 a1 hB) hb)) ?_)
 rename_i W3;go_wp2_with fail;go_quiet ((go_at_call 41;exact Calls.quiet_of_same (O7 _ _ _ _)))
 go_wp2_with fail;go_ret;exact⟨D8 HY.out.symm,G4 (D5 a1 hB) _⟩
theorem Uv(x:Rb)(b o c g q d:Nat)(s:BA)(w:World)(hl:DK w g q x.sl)(hg:g<w.heap.size)(hn:x.sl.length<=1048576):
  Calls prog 139 #[.agg #[Tz x.nm,Sy b o x.ps.length c,Sy g q x.sl.length d,Tz x.ad,Iz x.si,Iz x.st],Tz s] w λe w'=>e=.returned (Tz (U9 x.sl s))/\Up w w':=by
 have hC:CB (w.alloc (Kz [Tz x.nm,Sy b o x.ps.length c,Sy g q x.sl.length d,Tz x.ad,Iz x.si,Iz x.st] 40)) w.heap.size [Tz x.nm,Sy b o x.ps.length c,Sy g q x.sl.length d,Tz x.ad,Iz x.si,Iz x.st]:=F3 w _ _;have a0:=(A5 w.heap.size w).alloc (A4 _) (Kz [Tz x.nm,Sy b o x.ps.length c,Sy g q x.sl.length d,Tz x.ad,Iz x.si,Iz x.st] 40);go_in;go_upto_region 1 with fail;generalize w.alloc (Kz [Tz x.nm,Sy b o x.ps.length c,Sy g q x.sl.length d,Tz x.ad,Iz x.si,Iz x.st] 40)=W1 at *;obtain⟨-,-,d2,-⟩:=hC.c6;have a2:=hl.up a0 hg;go_wp2_with fail;go_loop [5] (λi=>∃k:Nat,k<=x.sl.length/\i=.int .i64 k/\∀(j:Nat)(y:Sl),j<k->x.sl[j]?=some y->(y.s.toList==s.toList)=false) (λi=>x.sl.length-(intOf i).toNat)
 case atStart=>exact⟨0,by omega,rfl,λj y hj=>by omega⟩
 case round =>
  obtain⟨k,hk,rfl,a1⟩:=hrel;have Hal:Hid (∀(j:Nat)(y:Sl),j<k->x.sl[j]?=some y->(y.s.toList==s.toList)=false):=a1;clear a1;by_cases hp:k<x.sl.length
  ·obtain⟨c0,c1⟩:=a2.cells k hp;cases hq:((x.sl[k]).s.toList==s.toList)
   ·have Hq:Hid (∀(j:Nat)(y:Sl),j<k+1->x.sl[j]?=some y->(y.s.toList==s.toList)=false):=λj y hj hy=>by
     rcases Nat.lt_or_ge j k with h'|h'
     ·exact Hal.out j y h' hy
     ·obtain rfl:j=k:=by omega
      obtain⟨_,rfl⟩:=A3.1 hy;exact hq
    go_wp2;go_round
    case rel=>exact⟨k+1,by omega,by go_num,Hq.out⟩
    case measure=>simp[intOf];omega
   ·have Hq:Hid (U9 x.sl s=(x.sl[k]).t):=LL hp Hal.out hq;go_wp2;go_ret;exact⟨by rw[Hq.out];rfl,a0⟩
  ·have Hq:Hid (U9 x.sl s=⟨#[]⟩):=Qu λj y hy=>Hal.out j y (by have:=(A3.1 hy).1;omega) hy;go_wp2;go_ret;exact⟨by rw[Hq.out];rfl,a0⟩
theorem XM(h:Up W w0/\At w0 q 0 x0/\At w0 q 1 x1/\At w0 q 2 x2/\At w0 q 3 x3/\At w0 q 4 x4/\At w0 q 5 x5/\At w0 g k y):Up W w0.drew/\w0.drew.cell? ⟨q,0,none⟩=some x0/\w0.drew.cell? ⟨q,1,none⟩=some x1/\w0.drew.cell? ⟨q,2,none⟩=some x2/\w0.drew.cell? ⟨q,3,none⟩=some x3/\w0.drew.cell? ⟨q,4,none⟩=some x4/\w0.drew.cell? ⟨q,5,none⟩=some x5/\w0.drew.cell? ⟨g,k,none⟩=some y :=
 ⟨h.1.drew,h.2⟩
theorem Zf(hq:q<W.heap.size)(hr:g<W.heap.size)(h:Up W w0/\At w0 q 0 x0/\At w0 q 1 x1/\At w0 q 2 x2/\At w0 q 3 x3/\At w0 q 4 x4/\At w0 q 5 x5/\At w0 g k y)(hB:Up w0 w1):Up W w1/\At w1 q 0 x0/\At w1 q 1 x1/\At w1 q 2 x2/\At w1 q 3 x3/\At w1 q 4 x4/\At w1 q 5 x5/\At w1 g k y:=by
 obtain⟨h1,a0,a1,a2,a3,a4,a5,a6⟩:=h;have hl:q<w0.heap.size:=A2 hq h1.size;have hm:g<w0.heap.size:=A2 hr h1.size;exact⟨D5 h1 hB,(hB.cell (p:=⟨q,0,none⟩) hl).trans a0,(hB.cell (p:=⟨q,1,none⟩) hl).trans a1,(hB.cell (p:=⟨q,2,none⟩) hl).trans a2,(hB.cell (p:=⟨q,3,none⟩) hl).trans a3,(hB.cell (p:=⟨q,4,none⟩) hl).trans a4,(hB.cell (p:=⟨q,5,none⟩) hl).trans a5,(hB.cell (p:=⟨g,k,none⟩) hm).trans a6⟩
theorem Wu(l:List Sl)(ss:List BA)(k:Nat)(hk:k<ss.length):Af l (ss.take (k+1))=M7 (Af l (ss.take k)) (U9 l ss[k]):=by
 unfold Af Z0;rw[A8 hk,List.map_append,List.foldl_append];rfl
theorem IZ(x:Rb)(b o c g q d:Nat)(ss:List BA)(v:Value)(w:World)(hl:DK w g q x.sl)(hg:g<w.heap.size)(hn:x.sl.length<=1048576)(h:R8 w v ss)(hs:ss.length<=900):
  Calls prog 83 #[.agg #[.string x.nm,.slice (some ⟨b,o,none⟩) x.ps.length c,.slice (some ⟨g,q,none⟩) x.sl.length d,.string x.ad,.int .i64 x.si,.int .i64 x.st],v] w λe w'=>(∃u,e=.returned u/\R8 w' u (Af x.sl ss))/\Up w w':=by
 obtain⟨gs,cs,rfl,hS,a1,b5,-⟩:=h;have hC:CB (w.alloc (.cells #[.string x.nm,.slice (some ⟨b,o,none⟩) x.ps.length c,.slice (some ⟨g,q,none⟩) x.sl.length d,.string x.ad,.int .i64 x.si,.int .i64 x.st] 40)) w.heap.size [.string x.nm,.slice (some ⟨b,o,none⟩) x.ps.length c,.slice (some ⟨g,q,none⟩) x.sl.length d,.string x.ad,.int .i64 x.si,.int .i64 x.st]:=F3 w _ _;have a2:=(A5 w.heap.size w).alloc (A4 _) (.cells #[.string x.nm,.slice (some ⟨b,o,none⟩) x.ps.length c,.slice (some ⟨g,q,none⟩) x.sl.length d,.string x.ad,.int .i64 x.si,.int .i64 x.st] 40);go_in;go_upto_region 1 with fail;generalize w.alloc (.cells #[.string x.nm,.slice (some ⟨b,o,none⟩) x.ps.length c,.slice (some ⟨g,q,none⟩) x.sl.length d,.string x.ad,.int .i64 x.si,.int .i64 x.st] 40)=W1 at *;have a3:=hC.2.2;have a8:=Ky W1;have a9:=(A5 W1.heap.size W1).alloc (A4 _) (.cells #[] 9);go_upto_region 2 with fail;generalize hW2:W1.alloc (.cells #[] 9)=W2 at *;clear hW2;go_wp2_with fail;go_loopw [5,6] (λu i w'=>∃k:Nat,k<=ss.length/\i=.int .i64 k/\R8 w' u (Af x.sl (ss.take k))/\Up W1 w') (λ_ i _=>ss.length-(intOf i).toNat)
 case atStart=>exact⟨0,by omega,rfl,a8,a9⟩
 case round =>
  obtain⟨k,hk,rfl,hT,hB⟩:=hrel;by_cases hp:k<ss.length
  ·have a0:=D5 a2 hB;have c0:=(a0.cell (p:=⟨gs,k,none⟩) a1).trans (by have:=hS k ss[k] (by simp);simpa using this);obtain⟨d0,d1,d2,d3,d4,d5⟩:=(hC.up hB a3).c6;have b0:=EC x.sl (ss.take k);rw[B8] at b0;have Ht:=Wu x.sl ss k hp;have HT:Hid (Af x.sl (ss.take (k+1))=M7 (Af x.sl (ss.take k)) (U9 x.sl ss[k])):=Ht;clear Ht;generalize ss[k]=s0 at *;generalize Af x.sl (ss.take k)=tt at *;have b1:w.heap.size<wr.heap.size:=A2 a3 hB.size;have b2:gs<wr.heap.size:=A2 a1 a0.size;have a4:(λw'=>Up wr w'/\w'.cell? ⟨w.heap.size,0,none⟩=some (.string x.nm)/\w'.cell? ⟨w.heap.size,1,none⟩=some (.slice (some ⟨b,o,none⟩) x.ps.length c)/\w'.cell? ⟨w.heap.size,2,none⟩=some (.slice (some ⟨g,q,none⟩) x.sl.length d)/\w'.cell? ⟨w.heap.size,3,none⟩=some (.string x.ad)/\w'.cell? ⟨w.heap.size,4,none⟩=some (.int .i64 x.si)/\w'.cell? ⟨w.heap.size,5,none⟩=some (.int .i64 x.st)/\w'.cell? ⟨gs,k,none⟩=some (.string s0)) wr:=⟨A5 _ _,d0,d1,d2,d3,d4,d5,c0⟩;have HL:Hid (∀W,Up wr W->Calls prog 139 #[.agg #[.string x.nm,.slice (some ⟨b,o,none⟩) x.ps.length c,.slice (some ⟨g,q,none⟩) x.sl.length d,.string x.ad,.int .i64 x.si,.int .i64 x.st],.string s0] W λe w'=>e=.returned (.string (U9 x.sl s0))/\Up W w'):=λW hW=>Uv x b o c g q d s0 W (hl.up (D5 a0 hW) hg) (A2 hg (D5 a0 hW).size) hn;obtain⟨gu,cu,hu,-⟩:=id hT;subst hu;clear d0 d1 d2 d3 d4 d5 c0;go_wp2_with fail
   go_region_held (λw'=>Up wr w'/\w'.cell? ⟨w.heap.size,0,none⟩=some (.string x.nm)/\w'.cell? ⟨w.heap.size,1,none⟩=some (.slice (some ⟨b,o,none⟩) x.ps.length c)/\w'.cell? ⟨w.heap.size,2,none⟩=some (.slice (some ⟨g,q,none⟩) x.sl.length d)/\w'.cell? ⟨w.heap.size,3,none⟩=some (.string x.ad)/\w'.cell? ⟨w.heap.size,4,none⟩=some (.int .i64 x.si)/\w'.cell? ⟨w.heap.size,5,none⟩=some (.int .i64 x.st)/\w'.cell? ⟨gs,k,none⟩=some (.string s0)) (first|exact XM a4|exact Zf b1 b2 (by assumption) (by assumption))
    (first
     | (go_at_call 139;refine (HL.out _ (And.left (by assumption))).mono ?_;rintro e w3 ⟨rfl,a6⟩;have a5:=(hT.up (A5 _ _).drew).up a6)
     | (go_at_call 138;refine (IK tt _ _ _ a5 (by omega)).mono ?_;rintro e w4 ⟨⟨u4,rfl,a7⟩,b4⟩))
   rename_i hHeld;have b3:=D5 hB hHeld.1;rw[← HT.out] at a7;clear hHeld a4 hT a5 a6 b4 HL;go_wp2_with fail;go_roundw
   case rel=>exact⟨k+1,by omega,by go_num,a7,b3⟩
   case measure=>simp[intOf];omega
  ·have HK:Hid (∀u,R8 wr u (Af x.sl (ss.take k))->R8 wr u (Af x.sl ss)):=λu h=>by rwa [D2 (by omega)] at h
   go_wp2_with fail;go_ret;exact⟨⟨_,rfl,HK.out _ hT⟩,D5 a2 hB⟩
theorem GD(b:Bk)(v:Value)(w:World)(h:Q6 w v b)(hok:J1 b):
  Calls prog 75 #[v] w λe w'=>(∃v',e=.returned v'/\L6 w' w.heap.size v' b)/\Up w w':=by
 obtain⟨s1,s2,s3⟩:=An hok;refine (FC b v w h (by omega) (by omega) (λy hy=>by have:=s3 y hy;omega)).mono ?_;rintro e w' ⟨⟨tu,bu,ps,rfl,h1,h2,h3,-⟩,hb⟩;exact⟨⟨_,rfl,tu,bu,ps,rfl,h1,h2,h3⟩,hb⟩
theorem BN(b:Bk)(v:Value)(w:World)(h:Q6 w v b)(h1:b.tg.length<=100)(h2:b.bs.length<=100)(h3:∀y∈b.bs,y.has.length<=100/\y.nj.length<=100):
  Calls prog 75 #[v] w λe w'=>(∃v',e=.returned v'/\L6 w' w.heap.size v' b)/\Up w w':=by
 refine (FC b v w h (by omega) (by omega) (λy hy=>by have:=h3 y hy;omega)).mono ?_;rintro e w' ⟨⟨tu,bu,ps,rfl,h1,h2,h3,-⟩,hb⟩;exact⟨⟨_,rfl,tu,bu,ps,rfl,h1,h2,h3⟩,hb⟩
theorem Uw(b:Bk)(v:Value)(w:World)(h:Q6 w v b)(h1:b.tg.length<=100)(h2:b.bs.length<=100)(h3:∀y∈b.bs,y.has.length<=100/\y.nj.length<=100):
  Calls prog 75 #[v] w λe w'=>(∃a1 c1 a2 c2 ps,e=.returned (.agg #[Vz a1 b.tg.length c1,Vz a2 b.bs.length c2])/\Bq w' w.heap.size (Vz a2 b.bs.length c2) ps/\ps.map (·.1)=b.bs/\L7 w' w.heap.size none ((Vz a1 b.tg.length c1,b.tg)::N0 ps))/\Up w w':=by
 refine (FC b v w h (by omega) (by omega) (λy hy=>by have:=h3 y hy;omega)).mono ?_;rintro e w' ⟨⟨tu,bu,ps,rfl,h1,h2,h3,hF,-⟩,hb⟩;obtain⟨a1,c1,rfl⟩:=h1.lst.shape;obtain⟨a2,c2,rfl⟩:=I7 h2.1;have hl:ps.length=b.bs.length:=by rw[← h3,B5]
 rw[hl] at h2;exact⟨⟨a1,c1,a2,c2,ps,by rw[hl],h2,h3,hF⟩,hb⟩
theorem Ge(b:Bk)(v:Value)(w:World)(h:Q6 w v b):
  Calls prog 42 #[v] w λe w'=>(∃ss ok,e=.returned (.bool ok)/\R9 b ss ok)/\Up w w':=by
 obtain⟨a1,c1,a2,c2,rfl,-,-⟩:=h.parts;have hC:CB (w.alloc (Kz [Vz a1 (b).tg.length c1,Vz a2 (b).bs.length c2] 26)) w.heap.size [Vz a1 b.tg.length c1,Vz a2 b.bs.length c2]:=F3 w _ _;have a3:=(A5 w.heap.size w).alloc (A4 _) (Kz [Vz a1 (b).tg.length c1,Vz a2 (b).bs.length c2] 26);go_in;go_upto_region 1 with fail;generalize w.alloc (Kz [Vz a1 (b).tg.length c1,Vz a2 (b).bs.length c2] 26)=W1 at *;have hk:=h.up a3;obtain⟨e0,e1⟩:=hC.c2';go_wp2_with fail;refine (NX b _ _ hk).mono ?_;rintro e w2 ⟨⟨u,ss,ok,rfl,a0,-,-⟩,a4⟩;clear e0 e1;go_wp2_with fail;go_ret;exact⟨⟨ss,ok,rfl,a0⟩,D5 a3 a4⟩
def Dm(bs:List Ba)(at':Int)(tg:List BA)(k:Nat):Prop:=∀(i:Nat)(x:Ba),i<k->(i:Int)≠at'->bs[i]?=some x->O2 x.has tg=false
def Bz(bs:List Ba)(at':Int)(tg:List BA):Prop:=∃(i:Nat)(x:Ba),(i:Int)≠at'/\bs[i]?=some x/\O2 x.has tg=true
theorem Dm.step(h:Dm bs a tg k)(hk:k<bs.length)(h1:(k:Int)=a∨O2 (bs[k]).has tg=false):Dm bs a tg (k+1):=λi x hi hne hx=>by
 by_cases e:i=k
 ·subst e;rw[A0 hk] at hx;obtain rfl:=A6 hx;exact h1.resolve_left hne
 ·exact h i x (by omega) hne hx
theorem Wv(h:Dm bs a tg k)(hk:¬k<bs.length):¬Bz bs a tg:=λ⟨i,x,hne,hx,hs⟩=>by
 rw[h i x (by have:=(A3.1 hx).1;omega) hne hx] at hs;cases hs
theorem QL(b:Bk)(v tv:Value)(at':Int)(tg:List BA)(w:World)(h:Q6 w v b)(ht:Ls w tv tg):
  Calls prog 140 #[v,.int .i64 at',tv] w λe w'=>e=.returned (.bool (pB (Bz b.bs at' tg)))/\Up w w':=by
 obtain⟨a1,c1,a2,c2,rfl,h1,h2⟩:=h.parts;obtain⟨a8,a9,rfl,-⟩:=id ht;have hC:CB (w.alloc (.cells #[.slice a1 (b).tg.length c1,.slice a2 (b).bs.length c2] 26)) w.heap.size [.slice a1 b.tg.length c1,.slice a2 b.bs.length c2]:=F3 w _ _;have a0:=(A5 w.heap.size w).alloc (A4 _) (.cells #[.slice a1 (b).tg.length c1,.slice a2 (b).bs.length c2] 26);have g2:=h2.at.1;unfold maxLen at g2;go_in;go_upto_region 1 with fail;generalize w.alloc (.cells #[.slice a1 (b).tg.length c1,.slice a2 (b).bs.length c2] 26)=W1 at *;have l2:=h2.up a0;have lt:=ht.up a0;clear h h1 h2 ht;obtain⟨e0,e1⟩:=hC.c2';obtain⟨-,a5⟩:=l2.at;go_wp2_with fail;go_loop [7] (λi=>∃k:Nat,k<=b.bs.length/\i=.int .i64 k/\Dm b.bs at' tg k) (λi=>b.bs.length-(intOf i).toNat)
 case atStart=>exact⟨0,by omega,rfl,λi _ hi=>by omega⟩
 case round =>
  obtain⟨k,hk,rfl,a6⟩:=hrel;have Hal:Hid (Dm b.bs at' tg k):=a6;clear a6;by_cases hp:k<b.bs.length
  ·obtain⟨bb,o,rfl,hS,hb⟩:=a5 (by omega);by_cases hka:(k:Int)=at'
   ·have a7:((k:Int) != at')=false:=by rw[bne_eq_false_iff_eq];exact hka
    have Hs:Hid (Dm b.bs at' tg (k+1)):=Hal.out.step hp (.inl hka);clear hka;go_wp2_with fail;go_round
    case rel=>exact⟨k+1,by omega,by go_num,Hs.out⟩
    case measure=>simp[intOf];omega
   have a7:((k:Int) != at')=true:=by rw[bne_iff_ne];exact hka
   obtain⟨a3,d3,a4,d4,-,c4,-,l3,-,-⟩:=(hS.at hp).cells;have HY:Hid (O2 (b.bs[k]).has tg=false->Dm b.bs at' tg (k+1)):=λh=>Hal.out.step hp (.inr h);have HN:Hid (O2 (b.bs[k]).has tg=true->Bz b.bs at' tg):=λh=>⟨k,_,hka,A0 hp,h⟩;clear hka;generalize b.bs[k]=x0 at *;go_wp2_with fail;refine (ET x0.has tg _ _ _ l3 lt).mono ?_;rintro e w' ⟨rfl,hw⟩;obtain rfl:=hw.symm;clear hw;cases hs:O2 x0.has tg
   ·have Hs:Hid (Dm b.bs at' tg (k+1)):=HY.out hs;clear HY HN;go_wp2_with fail;go_round
    case rel=>exact⟨k+1,by omega,by go_num,Hs.out⟩
    case measure=>simp[intOf];omega
   ·have Hs:Hid (Bz b.bs at' tg):=HN.out hs;clear HY HN;go_wp2_with fail;go_ret;exact⟨D8 (L9 Hs.out).symm,a0⟩
  ·have Hs:Hid (¬Bz b.bs at' tg):=Wv Hal.out hp;go_wp2_with fail;go_ret;exact⟨D8 (I5 Hs.out).symm,a0⟩
theorem NY(b:Bk)(v:Value)(nm:BA)(w:World)(h:Q6 w v b):
  Calls prog 206 #[v,Tz nm] w λe w'=>(∃v',e=.returned (.tuple #[v',Iz (Dy b nm)])/\L6 w' w.heap.size v' (AP b nm))/\Up w w':=by
 obtain⟨a1,c1,a2,c2,rfl,-,-⟩:=h.parts;obtain⟨ii,hi,d4,d5,d6⟩:=info_parts Cs;obtain⟨W1,d7,kA,kR,d1,g0⟩:=cbE2 w [Vz a1 (b).tg.length c1,Vz a2 (b).bs.length c2] 26 [Nz,Nz] 26;go_in;go_upto_region 1 with fail;try rw[d7]
 clear d7;have hk:=h.up d1;clear h;obtain⟨e0,e1⟩:=kA.c2';go_wp2_with fail;refine (Cc b _ _ hk).mono ?_;rintro e w2 ⟨rfl,b6⟩;have g4:=b6.size;have kA:=kA.up b6 (by omega);have kR:=kR.up b6 (by omega);have hk:=hk.up b6;have hB:=D5 d1 b6;clear e0 e1 d1 b6;cases hok:K4 b
 ·obtain⟨⟨y0,y1⟩,f0,f1⟩:=kR.c2;have HC:Hid (Dy b nm=1/\AP b nm=S2):=OY hok;go_wp2_with fail;refine O0 results206 underlying26 rfl M5 kR rfl rfl ?_;exact⟨⟨_,BQ HC.out.1.symm,by rw[HC.out.2];exact IJ _ _⟩,K6 hB (Nat.le_succ _) _ _⟩
 obtain⟨e0,e1⟩:=kA.c2';go_wp2_with fail;refine (GD b _ _ hk (Ab hok)).mono ?_;rintro e w3 ⟨⟨xv,rfl,hX⟩,b7⟩;obtain⟨a3,c3,a4,c4,ps,rfl,x1,x2,x3⟩:=hX.parts;have g5:=b7.size;have kA:=kA.up b7 (by omega);have kR:=kR.up b7 (by omega);have hk:=hk.up b7;have hB:=D5 hB b7;clear e0 e1 b7 hX;go_upto_region 4 with fail;obtain⟨W4,d8,kX,a9,g1⟩:=cbE1 w3 [Vz a3 b.tg.length c3,Vz a4 b.bs.length c4] 26;rw[d8];clear d8;have kA:=kA.up a9 (by omega);have kR:=kR.up a9 (by omega);have hk:=hk.up a9;have hB:=D5 hB a9;have X1:=x1;have X2:=x2;have hL:=a9;have x1:=x1.up a9;have x2:=x2.up a9;clear a9;obtain⟨e0,e1⟩:=kA.c2';go_wp2_with fail;refine (EE b _ nm _ hk).mono ?_;rintro e w5 ⟨rfl,b4⟩;have g6:=b4.size;have kR:=kR.up b4 (by omega);have kX:=kX.up b4 (by omega);have hB:=D5 hB b4;have x1:=x1.up b4;have x2:=x2.up b4;have hL:=D5 hL b4;clear e0 e1 b4 kA hk;cases hm:E3 (G7 b.bs) nm
 ·have HC:Hid (Dy b nm=3/\AP b nm=b):=LO hok hm;rw[AN hm];obtain⟨⟨y0,y1⟩,f0,f1⟩:=kR.c2;obtain⟨⟨z0,z1⟩,-⟩:=kX.c2;go_wp2_with fail;refine O0 results206 underlying26 rfl M5 kR rfl rfl ?_;refine⟨⟨_,BQ HC.out.1.symm,?_⟩,K6 hB (Nat.le_succ _) _ _⟩;rw[HC.out.2];exact ((L6.set (L6.set ⟨_,_,ps,rfl,x1,x2,x3⟩ (by omega)) (by omega)).low (by omega))
 have HC:Hid (Dy b nm=0/\AP b nm=⟨b.tg,b.bs.take (L1 b nm)++b.bs.drop (L1 b nm+1)⟩):=Ng hok hm;obtain⟨b8,e7⟩:=Dx hm;rw[b8];generalize L1 b nm=p at *;have g7:=(Ab hok).2.1;have f2:ps.length=b.bs.length:=by rw[← x3,B5]
 have a6:=x2.1;rw[f2] at a6;obtain⟨g,cp,d9⟩:=I6 a6 (by omega);obtain⟨rfl,-,rfl⟩:=Value.slice.inj d9;clear d9 b8 hm;obtain⟨g2,e8⟩:=BP a6;have f3:=a6.lt g rfl;obtain⟨⟨z0,z1⟩,-⟩:=kX.c2;have a5:At w5.drew w3.heap.size 1 (Sz g b.bs.length c4):=z1;clear z0 z1;unfold maxLen at e8;have g8:p<=c4:=by omega
 have g9:p+1<=b.bs.length:=e7;have h0:IntKind.i64.wrap ((p:Int)+1)=(p:Int)+1:=by rw[IntKind.wrap_i64];omega
 have h1:(p:Int)+1<=(b.bs.length:Int):=by omega
 have h2:0<=(p:Int)+1:=by omega
 have h3:¬(b.bs.length:Int)<(p:Int)+1:=by omega
 obtain⟨o2,g3,e9⟩:∃o2:Nat,(if c4=p+1 then some (⟨g,0,none⟩:Addr) else some ⟨g,(p+1)*3,none⟩)=some ⟨g,o2,none⟩/\(b.bs.length-(p+1)≠0->o2=(p+1)*3):=by
  by_cases h7:c4=p+1
  ·exact⟨0,by rw[if_pos h7],λh=>by omega⟩
  ·exact⟨(p+1)*3,by rw[if_neg h7],λ_=>rfl⟩
 go_wp2_with fail;refine F5 13 (λw'=>At w' w3.heap.size 1 (Sz g b.bs.length c4)) (by kernel_rfl) ?_;refine D6 1 rfl a5 ?_;refine D6 2 rfl a5 ?_;refine D6 3 rfl a5 ?_;refine D6 4 rfl a5 ?_;refine D6 6 rfl a5 ?_;refine D6 7 rfl a5 ?_;refine D6 8 rfl a5 ?_;refine D6 9 rfl a5 ?_;refine D6 10 rfl a5 ?_;have a8:=(Bp a6).alloc (Kz [] 115);have a0:(w5.drew.alloc (Kz [] 115)).ownsRow w5.heap.size 115 3 (Sz w5.heap.size 0 0) 0 []:=C0 w5.drew #[] 0 (A4 _) (by unfold maxLen;omega) rfl;have c8:Up w5 (w5.drew.alloc (Kz [] 115)):=((A5 w5.heap.size w5).drew).alloc (A4 _) _;have e2:At (w5.drew.alloc (Kz [] 115)) w3.heap.size 1 (Sz g b.bs.length c4):=(c8.cell (p:=⟨w3.heap.size,1,none⟩) (by show w3.heap.size<_;omega)).trans a5;refine E7 0 rfl (λK hK=>?_);go_simp;refine E6 hK e2 ?_;clear hK K;have b0:=Cu a8 0 (ps.take p) (MC ps p);have b9:=x2.one (ps.take p) (λq hq=>List.mem_of_mem_take hq);have c0:=x2.one (ps.drop (p+1)) (λq hq=>List.mem_of_mem_drop hq);have c5:(E8 (ps.take p)).length=p*3:=by rw[R6,B8];omega
 have c6:(E8 (ps.drop (p+1))).length=(b.bs.length-(p+1))*3:=by rw[R6,A9];omega
 refine E7 5 rfl (λK hK=>?_);refine J0 rfl _ _ 24 rfl w5.heap.size 115 ii _ 3 64 underlying24 hi d4 d5 d6 rfl (by decide) _ 0 [] rfl a0 ⟨g,0,none⟩ p c4 (E8 (ps.take p)) rfl c5 b0 b9 (by unfold maxLen;omega) (by omega) c8.size ?_;intro v1 w6 hown6 hgr6;have c9:=M1 c8 a0 hgr6 (A4 _);have b1:=E5 a8 hgr6 (Wi (Aj a0 f3.2));have e3:At w6 w3.heap.size 1 (Sz g b.bs.length c4):=(c9.cell (p:=⟨w3.heap.size,1,none⟩) (by show w3.heap.size<_;omega)).trans a5
 have b2:∀(j:Nat)(u:Value),(E8 (ps.drop (p+1)))[j]?=some u->w6.cell? ((⟨g,o2,none⟩:Addr).add j)=some u:=λj u hu=>by
  have hj:=(A3.1 hu).1;rw[e9 (by omega)];exact Cu b1 (p+1) (ps.drop (p+1)) (Kt ps (p+1)) j u hu
 clear a8 b0 hgr6 b1 e2;refine E6 hK e3 ?_;clear hK K;refine E7 11 rfl (λK hK=>?_);refine J0 rfl _ _ 24 rfl w5.heap.size 115 ii _ 3 64 underlying24 hi d4 d5 d6 rfl (by decide) v1 _ _ rfl hown6 ⟨g,o2,none⟩ (b.bs.length-(p+1)) _ (E8 (ps.drop (p+1))) rfl c6 b2 c0 (by unfold maxLen;omega) (by omega) c9.size ?_;intro v2 w7 hown7 hgr7;have b5:=M1 c9 hown6 hgr7 (A4 _);have d2:At w7 w3.heap.size 1 (Sz g b.bs.length c4):=(b5.cell (p:=⟨w3.heap.size,1,none⟩) (by show w3.heap.size<_;omega)).trans a5;have d3:=kX.up b5 (by omega);have e4:=kR.up b5 (by omega);have e5:=D5 hB b5;obtain⟨a7,c7,rfl⟩:=I7 hown7;obtain⟨⟨j0,j1⟩,m0,m1⟩:=d3.c2;clear b2 hgr7 hown6 a0 e3 c9 c8;refine E6 hK d2 ?_;clear hK K;refine D6 12 rfl d2 ?_;refine E7 13 rfl (λK hK=>?_);go_simp;refine Bf hK ?_;clear hK K;refine F0 (by kernel_rfl) ?_ _;have hV:(Vz a7 (0+p+(b.bs.length-(p+1))) c7:Value)=Vz a7 (p+(b.bs.length-(p+1))) c7:=by rw[Nat.zero_add]
 rw[hV] at hown7;have f4:w3.heap.size<w5.heap.size:=by omega
 generalize hU:(Vz a7 (p+(b.bs.length-(p+1))) c7)=u7 at *;have f5:CB (w7.setCell ⟨w3.heap.size,1,none⟩ u7) w3.heap.size [Vz a3 b.tg.length c3,u7]:=d3.set (j:=1) (by simp);have e6:CB (w7.setCell ⟨w3.heap.size,1,none⟩ u7) (w.heap.size+1) [Nz,Nz]:=e4.other (by omega);have d0:Up w3 (w7.setCell ⟨w3.heap.size,1,none⟩ u7):=((hL.trans (b5.mono (by omega))).setCell (p:=⟨w3.heap.size,1,none⟩) (A4 _) _);have f6:Up w (w7.setCell ⟨w3.heap.size,1,none⟩ u7):=e5.setCell (p:=⟨w3.heap.size,1,none⟩) (by show _<=w3.heap.size;omega) _;have b3:(w7.setCell ⟨w3.heap.size,1,none⟩ u7).ownsRow w5.heap.size 115 3 u7 _ _:=F2 hown7 (E1 (E2 _ _) _) f4;have f7:=X1.up d0
 have f8:Bq (w7.setCell ⟨w3.heap.size,1,none⟩ u7) w2.heap.size u7 (ps.take p++ps.drop (p+1)):=JW (I8 b3 (by omega)) (by rw[Bt];rfl) (by rw[B0,B8,A9];omega) (λq hq=>by
  have f9:q∈ps:=by
   rcases D0.1 hq with h|h
   ·exact List.mem_of_mem_take h
   ·exact List.mem_of_mem_drop h
  obtain⟨q1,q2,q3⟩:=X2.2 q f9;exact⟨q1.up d0,q2.up d0,q3⟩)
 have HM:Hid ((ps.take p++ps.drop (p+1)).map (·.1)=b.bs.take p++b.bs.drop (p+1)):=by
  show _=_
  rw[← x3,List.map_append,List.map_take,List.map_drop]
 subst hU;clear a5 d2 hown7 d3 e4 j0 j1 m0 m1 b5 e5 b3 X1 X2 x1 x2 kX kR hB hL d0;generalize w7.setCell ⟨w3.heap.size,1,none⟩ (Vz a7 (p+(b.bs.length-(p+1))) c7)=W8 at *;obtain⟨⟨y0,y1⟩,f0,f1⟩:=e6.c2;obtain⟨⟨z0,z1⟩,-⟩:=f5.c2;go_wp2_with fail;refine O0 results206 underlying26 rfl M5 e6 rfl rfl ?_;refine⟨⟨_,BQ HC.out.1.symm,?_⟩,K6 f6 (Nat.le_succ _) _ _⟩;rw[HC.out.2];exact ((L6.set (L6.set (b:=⟨b.tg,b.bs.take p++b.bs.drop (p+1)⟩) ⟨_,_,_,rfl,f7,f8,HM.out⟩ (by omega)) (by omega)).low (by omega))
end Go.Proofs.YtmonodehegcfhaaGreatDoor
