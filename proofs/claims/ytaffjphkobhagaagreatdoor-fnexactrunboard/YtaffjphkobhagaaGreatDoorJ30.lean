/- The specification's slots of a batch, and which batch is ok (chapter 21). -/
import Derived.Test.YtaffjphkobhagaaGreatDoorU3
import Derived.Test.YtaffjphkobhagaaGreatDoorJ19
import Derived.Test.YtaffjphkobhagaaGreatDoorJ27
set_option maxRecDepth 20000
set_option maxHeartbeats 4000000
namespace Go.Proofs.YtaffjphkobhagaaGreatDoor
open Proofs.Tryz
open Go.RowKit
variable{ss tt:List BA}{l:List Sl}{o q r:Nat}{x:Rb}{x0 x1 x10 x11 x12 x13 x2 x3 x4 x5 x6 x7 x8 x9:Value}{W w w' w0 w1:World}
theorem Ge(ps:List Ph)(l:List Sl)(b o c g q cc:Nat)(w:World)(hr:G4 w b o ps)(hb:b<w.heap.size)(hok:M3 ps=true)
  (hl:Z9 w g q l) (hg:g<w.heap.size) (hn:l.length<=1048576) (hz:∀y∈l,y.s.size<=maxLen/\y.t.size<=maxLen) :
  cU prog 71 #[Sx b o ps.length c,Sx g q l.length cc] w (.bool (pB (J5 ps l))):=by
 obtain⟨b0,a5,-⟩:=(J2 ps).1 hok;obtain⟨c0,-⟩:=hr.cells 0 oM;rw[show o+0*8=o by omega] at c0;have a7:=Ip ps (BC ps);have a0:=LC ps b o c hok 20 (BC ps) w hr hb oM;rw[← Pf oM] at c0;have HP:Hid (J5 ps l=Eh l (Y3 ps (BC ps))):=rfl;have a2:(Y3 ps (BC ps)).length<=24:=oM
 clear a7;generalize Y3 ps (BC ps)=ns at *;generalize BC ps=f0 at *;delta cU;go_in;go_wp2_with fail;refine a0.mono ?_;rintro e w1 ⟨⟨u,rfl,hT⟩,a1⟩;obtain⟨gu,cu,rfl,hS,a6,-⟩:=hT;clear a0 c0;by_cases hll:l.length=ns.length
 case neg =>
  have HN:Hid (pB (J5 ps l)=false):=F3 (by rw[HP.out];exact λh=>hll h.1);have a8:¬ns.length=l.length:=λe=>hll e.symm;go_wp2_with fail;go_ret;exact⟨D4 HN.out.symm,a1⟩
 have Hll:Hid (l.length=ns.length):=hll;go_upto_region 4 with fail;clear hll;have hn:ns.length<=1048576:=oM
 go_wp2_with fail;(try dsimp only[Iz,Sy,Sx,Nz,Vz,Tz,Ez,Pz]);go_loopw [6,7] (λi _ w'=>∃k:Nat,k<=ns.length/\i=.int .i64 k/\Br l ns k/\Iv l k/\Up w1 w') (λi _ _=>ns.length-(intOf i).toNat)
 case atStart=>exact⟨0,oM,rfl,λj x hj _=>oM,λj k x y hj=>oM,A4 _ _⟩
 case round =>
  obtain⟨k,hk,rfl,hP,hD,hB⟩:=hrel;have HPk:Hid (Br l ns k):=hP;have HDk:Hid (Iv l k):=hD;clear hP hD;by_cases hkn:k<ns.length
  .have hp:k<l.length:=by have:=Hll.out;omega
   have a4:=hl.up (D3 a1 hB) hg;obtain⟨d0,d1⟩:=a4.cells k hp;have e0:AS wr gu k (Tz ns[k]):=(hB.cell (p:=⟨gu,k,none⟩) a6).trans (by have:=hS k ns[k] dC;simpa using this);obtain⟨zs,zt⟩:=hz l[k] dC;have N1:Hid (((l[k]).s.toList==(ns[k]).toList)=false->¬Eh l ns):=Br.no1 hp hkn;have N2:Hid (E4 (l[k]).t=false->¬Eh l ns):=Br.no2 hp;have N3:Hid (((l[k]).s.toList==(ns[k]).toList)=true->E4 (l[k]).t=true->Br l ns (k+1)):=HPk.out.step hp hkn;have N4:Hid ((∀(j:Nat)(y:Sl),j<k->l[j]?=some y->y.t.toList≠(l[k]).t.toList)->Iv l (k+1)):=HDk.out.step hp;have N5:Hid (∀(j:Nat)(hj:j<k),((l[j]' oM).t.toList==(l[k]).t.toList)=true->¬Eh l ns):=λj hj=>Iv.no hp hj;have q1:∀m,Calls prog 69 #[Tz (l[k]).t] (wr.drewN m) λe w'=>e=.returned (.bool (E4 (l[k]).t))/\∃n,w'=wr.drewN n:=λm=>(H9 _ _ zt).mono λe w' ⟨h1,h2⟩=>⟨h1,m,h2⟩;generalize hy:l[k]=y at *;generalize ns[k]=s0 at *;cases h1:(y.s.toList==s0.toList)
   .have Hno:Hid (pB (J5 ps l)=false):=F3 (by rw[HP.out];exact N1.out h1);go_wp2_with fail;go_quiet (fail);go_wp2;go_ret;exact⟨D4 Hno.out.symm,E5 (D3 a1 hB) _⟩
   .cases h2:E4 y.t
    .have Hno:Hid (pB (J5 ps l)=false):=F3 (by rw[HP.out];exact N2.out h2);rw[h2] at q1;go_wp2_with fail;go_quiet ((go_at_call 69;exact q1 _))
     go_wp2_with fail;go_ret;exact⟨D4 Hno.out.symm,E5 (D3 a1 hB) _⟩
    .have Hyes:Hid (Br l ns (k+1)):=N3.out h1 h2;rw[h2] at q1;go_wp2_with fail;go_quiet ((go_at_call 69;exact q1 _))
     go_wp2_with fail;(try dsimp only[Iz,Sy,Sx,Nz,Vz,Tz,Ez,Pz]);go_loopw [7] (λi w'=>∃m:Nat,m<=k/\i=.int .i64 m/\(∀(j:Nat)(z:Sl),j<m->l[j]?=some z->z.t.toList≠y.t.toList)/\∃nd,w'=wr.drewN nd) (λi _=>k-(intOf i).toNat)
     case atStart=>exact⟨0,oM,rfl,λj z hj=>oM,_,rfl⟩
     case round =>
      obtain⟨m,hm,rfl,a3,nd,rfl⟩:=hrel;have Hal:Hid (∀(j:Nat)(z:Sl),j<m->l[j]?=some z->z.t.toList≠y.t.toList):=a3;clear a3;by_cases hmk:m<k
      .have a9:m<l.length:=oM
       obtain⟨b1,f1⟩:=a4.cells m a9;have f2:=f1;cases h3:((l[m]).t.toList==y.t.toList)
       .have Hq:Hid (∀(j:Nat)(z:Sl),j<m+1->l[j]?=some z->z.t.toList≠y.t.toList):=λj z hj hz=>by
         rcases Nat.lt_or_ge j m with h'|h'
         .exact Hal.out j z h' hz
         .obtain rfl:j=m:=oM
          obtain⟨_,rfl⟩:=A2.1 hz;intro e;rw[e] at h3;simp at h3
        go_wp2_with fail;go_quiet (fail);go_wp2_with fail;go_roundw
        case rel=>exact⟨m+1,oM,mO,Hq.out,_,rfl⟩
        case measure=>simp[intOf];omega
       .have Hno:Hid (pB (J5 ps l)=false):=F3 (by rw[HP.out];exact N5.out m hmk h3);go_wp2_with fail;go_quiet (fail);go_wp2_with fail;go_ret;exact⟨D4 Hno.out.symm,E5 (E5 (D3 a1 hB) _) _⟩
      .have Hd:Hid (Iv l (k+1)):=N4.out λj z hj hz=>Hal.out j z oM hz;go_wp2_with fail;go_roundw
       case rel=>exact⟨k+1,oM,mO,Hyes.out,Hd.out,E5 hB _⟩
       case measure=>simp[intOf];omega
  .have Hq:Hid (pB (J5 ps l)=true):=M5 (by
    rw[HP.out];have e:k=l.length:=by have:=Hll.out;omega
    exact⟨Hll.out,by have:=HPk.out;rwa [e] at this,by have:=HDk.out;rwa [e] at this⟩)
   go_wp2_with fail;go_ret;exact⟨D4 Hq.out.symm,D3 a1 hB⟩
theorem EN(s:BA)(w)(hs:s.size<=maxLen):Calls prog 69 #[Tz s] w λe w'=>e=.returned (.bool (E4 s))/\Up w w' :=
 (H9 s w hs).mono λ_ _ h=>⟨h.1,by rw[h.2];exact A4 _ _⟩
theorem Ak(x:Rb)(rv sv:Value)(w:World)(h:CU w x rv sv):
  cU prog 34 #[.agg #[Tz x.nm,rv,sv,Tz x.ad,Iz x.si,Iz x.st]] w (.bool (pB (I7 x))):=by
 obtain⟨b,o,c,rfl,hr,hb,a4,a5⟩:=h.r;obtain⟨g,q,d,rfl,hl,hg⟩:=h.s;have zp:=h.zp;have zs:=h.zs;have zn:=h.zn;have np:=h.np;have ns:=h.ns;clear h;have hC:CB (w.alloc (.cells (Rzz x b o c g q d).toArray 52)) w.heap.size (Rzz x b o c g q d):=E9 w _ _;have a0:=(A4 w.heap.size w).alloc (A3 _) (.cells (Rzz x b o c g q d).toArray 52);delta cU;go_in;go_upto_region 1 with fail;generalize w.alloc (.cells (Rzz x b o c g q d).toArray 52)=W1 at *;obtain⟨d0,d1,d2,d3,d4,d5⟩:=hC.c6;have a6:=hC.2.2;have hB:Up W1 W1:=A4 _ _;obtain⟨hc,hf⟩:=E2 hB;cases h1:E4 x.nm
 .have HN:Hid (pB (I7 x)=false):=F3 λh=>by rw[h.1] at h1;cases h1
  go_wp2_with (first|(go_at_call 69;refine (EN _ _ zn).mono ?_;rintro e w1 ⟨rfl,a1⟩;obtain⟨hB,hc,hf⟩:=gr a1))
  go_ret;exact⟨D4 HN.out.symm,D3 a0 hB⟩
 cases h3:M3 x.ps
 .have HN:Hid (pB (I7 x)=false):=F3 λh=>by rw[h.2.1] at h3;cases h3
  go_wp2_with (first|(go_at_call 69;refine (EN _ _ zn).mono ?_;rintro e w1 ⟨rfl,a1⟩;obtain⟨hB,hc,hf⟩:=gr a1)|(go_at_call 70;refine (Fl x.ps b o c _ (hr.up (D3 a0 hB) hb) (A1 hb (D3 a0 hB).size) zp np).mono ?_;rintro e w1 ⟨rfl,a1⟩;obtain⟨hB,hc,hf⟩:=gr a1))
  go_ret;exact⟨D4 HN.out.symm,D3 a0 hB⟩
 cases h4:pB (J5 x.ps x.sl)
 .have HN:Hid (pB (I7 x)=false):=F3 λh=>N8.1 h4 h.2.2.1;go_wp2_with (first|(go_at_call 69;refine (EN _ _ zn).mono ?_;rintro e w1 ⟨rfl,a1⟩;obtain⟨hB,hc,hf⟩:=gr a1)|(go_at_call 70;refine (Fl x.ps b o c _ (hr.up (D3 a0 hB) hb) (A1 hb (D3 a0 hB).size) zp np).mono ?_;rintro e w1 ⟨rfl,a1⟩;obtain⟨hB,hc,hf⟩:=gr a1)|(go_at_call 71;refine (Ge x.ps x.sl b o c g q d _ (hr.up (D3 a0 hB) hb) (A1 hb (D3 a0 hB).size) h3 (hl.up (D3 a0 hB) hg) (A1 hg (D3 a0 hB).size) ns zs).mono ?_;rintro e w1 ⟨rfl,a1⟩;obtain⟨hB,hc,hf⟩:=gr a1))
  go_ret;exact⟨D4 HN.out.symm,D3 a0 hB⟩
 by_cases h2:1<=x.st
 case neg =>
  have HN:Hid (pB (I7 x)=false):=F3 λh=>h2 h.2.2.2.1;go_wp2_with (first|(go_at_call 69;refine (EN _ _ zn).mono ?_;rintro e w1 ⟨rfl,a1⟩;obtain⟨hB,hc,hf⟩:=gr a1)|(go_at_call 70;refine (Fl x.ps b o c _ (hr.up (D3 a0 hB) hb) (A1 hb (D3 a0 hB).size) zp np).mono ?_;rintro e w1 ⟨rfl,a1⟩;obtain⟨hB,hc,hf⟩:=gr a1)|(go_at_call 71;refine (Ge x.ps x.sl b o c g q d _ (hr.up (D3 a0 hB) hb) (A1 hb (D3 a0 hB).size) h3 (hl.up (D3 a0 hB) hg) (A1 hg (D3 a0 hB).size) ns zs).mono ?_;rintro e w1 ⟨rfl,a1⟩;obtain⟨hB,hc,hf⟩:=gr a1))
  go_ret;exact⟨D4 HN.out.symm,D3 a0 hB⟩
 have H123:Hid (E4 x.nm=true/\M3 x.ps=true/\J5 x.ps x.sl/\1<=x.st):=⟨h1,h3,G7.1 h4,h2⟩;go_upto_region 3 with (first|(go_at_call 69;refine (EN _ _ zn).mono ?_;rintro e w1 ⟨rfl,a1⟩;obtain⟨hB,hc,hf⟩:=gr a1)|(go_at_call 70;refine (Fl x.ps b o c _ (hr.up (D3 a0 hB) hb) (A1 hb (D3 a0 hB).size) zp np).mono ?_;rintro e w1 ⟨rfl,a1⟩;obtain⟨hB,hc,hf⟩:=gr a1)|(go_at_call 71;refine (Ge x.ps x.sl b o c g q d _ (hr.up (D3 a0 hB) hb) (A1 hb (D3 a0 hB).size) h3 (hl.up (D3 a0 hB) hg) (A1 hg (D3 a0 hB).size) ns zs).mono ?_;rintro e w1 ⟨rfl,a1⟩;obtain⟨hB,hc,hf⟩:=gr a1))
 clear h1 h2 h4;cases h5:H7 x.ps x.ad
 .have HN:Hid (pB (I7 x)=false):=F3 λh=>by rw[h.2.2.2.2.1] at h5;cases h5
  have a2:=λW (hW:G4 W b o x.ps)=>Y7 x.ps b o c x.ad W hW np;rw[LQ x.ps x.ad h5] at a2;clear h5;go_wp2_with fail;refine Swz (a2 _ (hr.up (D3 a0 hB) hb)) ?_;go_wp2_with fail;go_quiet (fail);go_wp2;go_ret;exact⟨D4 HN.out.symm,E5 (D3 a0 hB) _⟩
 obtain⟨k,hk,a3⟩:=Iy h5
 have HY:Hid (pB (I7 x)=U7 x.si (-1) ((x.ps[k]).wi-1)):=by
  show _=_
  obtain⟨k1,k2,k3,k4⟩:=H123.out;have e:=Iw hk a3
  have:I7 x↔(-1<=x.si/\x.si<=(x.ps[k]).wi-1):=by
   rw[← e];exact⟨λh=>⟨h.2.2.2.2.2.1,by have:=h.2.2.2.2.2.2;omega⟩,λh=>⟨k1,k2,k3,k4,h5,h.1,oM⟩⟩
  rw[Bool.eq_iff_iff,AX,G7];exact this
 have a2:=λW (hW:G4 W b o x.ps)=>Y7 x.ps b o c x.ad W hW np;rw[a3] at a2;have a7:1<=(x.ps[k]).wi/\(x.ps[k]).wi<=1000:=FZ (Cy h3 dC);obtain⟨-,-,-,-,-,c5,-⟩:=(hr.up (D3 a0 hB) hb).cells k hk;clear a3 h5 h3;generalize (x.ps[k]).wi=wi at *;go_upto_region 4 with (go_at_call 72;refine Swz (a2 _ (hr.up (D3 a0 hB) hb)) ?_)
 rename_i W3;go_wp2_with fail;go_quiet ((go_at_call 31;exact Calls.quiet_of_same (I5 _ _ _ _)))
 go_wp2_with fail;go_ret;exact⟨D4 HY.out.symm,E5 (D3 a0 hB) _⟩
theorem Ot(h:Up W w0/\AS w0 q 0 x0/\AS w0 q 1 x1/\AS w0 q 2 x2/\AS w0 q 3 x3/\AS w0 q 4 x4/\AS w0 q 5 x5):Up W w0.drew/\w0.drew.cell? ⟨q,0,none⟩=some x0/\w0.drew.cell? ⟨q,1,none⟩=some x1/\w0.drew.cell? ⟨q,2,none⟩=some x2/\w0.drew.cell? ⟨q,3,none⟩=some x3/\w0.drew.cell? ⟨q,4,none⟩=some x4/\w0.drew.cell? ⟨q,5,none⟩=some x5 :=
 ⟨h.1.drew,h.2⟩
theorem XF(hq:q<W.heap.size)(h:Up W w0/\AS w0 q 0 x0/\AS w0 q 1 x1/\AS w0 q 2 x2/\AS w0 q 3 x3/\AS w0 q 4 x4/\AS w0 q 5 x5)(hB:Up w0 w1):Up W w1/\AS w1 q 0 x0/\AS w1 q 1 x1/\AS w1 q 2 x2/\AS w1 q 3 x3/\AS w1 q 4 x4/\AS w1 q 5 x5:=by
 obtain⟨h0,a0,a1,a2,a3,a4,a5⟩:=h;have lq:=A1 hq h0.size;exact⟨D3 h0 hB,(hB.cell lq).trans a0,(hB.cell lq).trans a1,(hB.cell lq).trans a2,(hB.cell lq).trans a3,(hB.cell lq).trans a4,(hB.cell lq).trans a5⟩
theorem Acf(h:Up W w0/\AS w0 q 0 x0/\AS w0 q 1 x1/\AS w0 q 2 x2/\AS w0 q 3 x3/\AS w0 q 4 x4/\AS w0 q 5 x5/\AS w0 r o x6/\AS w0 r (o+1) x7/\AS w0 r (o+2) x8/\AS w0 r (o+3) x9/\AS w0 r (o+4) x10/\AS w0 r (o+5) x11/\AS w0 r (o+6) x12/\AS w0 r (o+7) x13):Up W w0.drew/\w0.drew.cell? ⟨q,0,none⟩=some x0/\w0.drew.cell? ⟨q,1,none⟩=some x1/\w0.drew.cell? ⟨q,2,none⟩=some x2/\w0.drew.cell? ⟨q,3,none⟩=some x3/\w0.drew.cell? ⟨q,4,none⟩=some x4/\w0.drew.cell? ⟨q,5,none⟩=some x5/\w0.drew.cell? ⟨r,o,none⟩=some x6/\w0.drew.cell? ⟨r,o+1,none⟩=some x7/\w0.drew.cell? ⟨r,o+2,none⟩=some x8/\w0.drew.cell? ⟨r,o+3,none⟩=some x9/\w0.drew.cell? ⟨r,o+4,none⟩=some x10/\w0.drew.cell? ⟨r,o+5,none⟩=some x11/\w0.drew.cell? ⟨r,o+6,none⟩=some x12/\w0.drew.cell? ⟨r,o+7,none⟩=some x13 :=
 ⟨h.1.drew,h.2⟩
theorem AfU(hq:q<W.heap.size)(hr:r<W.heap.size)(h:Up W w0/\AS w0 q 0 x0/\AS w0 q 1 x1/\AS w0 q 2 x2/\AS w0 q 3 x3/\AS w0 q 4 x4/\AS w0 q 5 x5/\AS w0 r o x6/\AS w0 r (o+1) x7/\AS w0 r (o+2) x8/\AS w0 r (o+3) x9/\AS w0 r (o+4) x10/\AS w0 r (o+5) x11/\AS w0 r (o+6) x12/\AS w0 r (o+7) x13)(hB:Up w0 w1):Up W w1/\AS w1 q 0 x0/\AS w1 q 1 x1/\AS w1 q 2 x2/\AS w1 q 3 x3/\AS w1 q 4 x4/\AS w1 q 5 x5/\AS w1 r o x6/\AS w1 r (o+1) x7/\AS w1 r (o+2) x8/\AS w1 r (o+3) x9/\AS w1 r (o+4) x10/\AS w1 r (o+5) x11/\AS w1 r (o+6) x12/\AS w1 r (o+7) x13:=by
 obtain⟨h0,a0,a1,a2,a3,a4,a5,a6,a7,a8,a9,b0,b1,b2,b3⟩:=h;have lq:=A1 hq h0.size;have lr:=A1 hr h0.size;exact⟨D3 h0 hB,(hB.cell lq).trans a0,(hB.cell lq).trans a1,(hB.cell lq).trans a2,(hB.cell lq).trans a3,(hB.cell lq).trans a4,(hB.cell lq).trans a5,(hB.cell lr).trans a6,(hB.cell lr).trans a7,(hB.cell lr).trans a8,(hB.cell lr).trans a9,(hB.cell lr).trans b0,(hB.cell lr).trans b1,(hB.cell lr).trans b2,(hB.cell lr).trans b3⟩
theorem Ju.up{M n:Nat}{D:DataW Unit}(h:Ju w M n D)(hB:Up w w'):Ju w' M n D :=
 World.ownsMap.kept (row:=none) h ⟨hB.os,hB.tape,hB.output,hB.size,λi hi _=>hB.block i hi⟩ dC
theorem HW(h:I7 x)(nm:BA):K5 x nm=Bq x.sl (Y3 x.ps nm):=by unfold K5;rw[if_pos (M5 h)]
theorem Ia(h:¬I7 x)(nm):K5 x nm=[]:=by unfold K5;rw[F3 h];rfl
theorem Mg(h:I7 x):R6 x=Bq x.sl (Dm (EU x.ps x.ad)):=by unfold R6;rw[if_pos (M5 h)]
theorem Mh(h:¬I7 x):R6 x=[]:=by unfold R6;rw[F3 h];rfl
theorem SV(h:D7 (Bq l ss)=CQ l tt):F8 (CQ l tt)=Bq l ss:=by rw[← h,Jy]
theorem Ib(x:Rb)(rv sv:Value)(nm:BA)(w:World)(h:CU w x rv sv):
  Calls prog 74 #[.agg #[Tz x.nm,rv,sv,Tz x.ad,Iz x.si,Iz x.st],Tz nm] w λe w'=>(∃u,e=.returned u/\R9 w' u (K5 x nm))/\Up w w':=by
 have a4:=λW (hB:Up w W)=>Ak x rv sv W (h.up hB);obtain⟨b,o,c,rfl,hr,hb,b0,b5⟩:=h.r;obtain⟨g,q,d,rfl,hl,hg⟩:=h.s;have ns:=h.ns;clear h;have hC:CB (w.alloc (.cells (Rzz x b o c g q d).toArray 52)) w.heap.size (Rzz x b o c g q d):=E9 w _ _;have a2:=(A4 w.heap.size w).alloc (A3 _) (.cells (Rzz x b o c g q d).toArray 52);have HO:Hid (∀W,Up w W->Calls prog 34 #[.agg (Rzz x b o c g q d).toArray] W λe w'=>e=.returned (.bool (pB (I7 x)))/\Up W w'):=a4;clear a4;go_in;go_upto_region 1 with fail;generalize w.alloc (.cells (Rzz x b o c g q d).toArray 52)=W1 at *;obtain⟨d0,d1,d2,d3,d4,d5⟩:=hC.c6;have a5:=hC.2.2;by_cases hk:I7 x
 case neg =>
  have HN:Hid (K5 x nm=[]):=Ia hk nm;have hp:=F3 hk;go_wp2_with fail;refine (HO.out _ a2).mono ?_;rw[hp];rintro e w1 ⟨rfl,a1⟩;go_wp2_with fail;go_ret;exact⟨⟨_,rfl,by rw[HN.out];exact Lg w1⟩,D3 (D3 a2 a1) ((A4 _ _).alloc (A3 _) _)⟩
 have HY:Hid (K5 x nm=Bq x.sl (Y3 x.ps nm)):=HW hk nm;have a6:=hk.2.1;have b6:x.ps.length<=12:=((J2 x.ps).1 a6).2.1;have hp:=M5 hk;have b7:=Ip x.ps nm;clear hk;go_wp2_with fail;refine (HO.out _ a2).mono ?_;rw[hp];rintro e w1 ⟨rfl,a1⟩;go_upto_region 3 with fail;have a0:=D3 a2 a1;obtain⟨f0,f1,f2,f3,f4,f5⟩:=(hC.up a1 a5).c6;have b1:w.heap.size<w1.heap.size:=A1 a5 a1.size;have a7:Up w1 w1/\AS w1 w.heap.size 0 (Tz x.nm)/\AS w1 w.heap.size 1 (Sx b o x.ps.length c)/\AS w1 w.heap.size 2 (Sx g q x.sl.length d)/\AS w1 w.heap.size 3 (Tz x.ad)/\AS w1 w.heap.size 4 (Iz x.si)/\AS w1 w.heap.size 5 (Iz x.st):=⟨A4 _ _,f0,f1,f2,f3,f4,f5⟩;clear d0 d1 d2 d3 d4 d5 f0 f1 f2 f3 f4 f5 hp;go_wp2_with fail
 go_region_held (λw'=>Up w1 w'/\AS w' w.heap.size 0 (Tz x.nm)/\AS w' w.heap.size 1 (Sx b o x.ps.length c)/\AS w' w.heap.size 2 (Sx g q x.sl.length d)/\AS w' w.heap.size 3 (Tz x.ad)/\AS w' w.heap.size 4 (Iz x.si)/\AS w' w.heap.size 5 (Iz x.st)) (first|exact Ot a7|exact XF b1 sO sO)
  (first
   | (go_at_call 125;refine (LC x.ps b o c a6 20 nm _ (hr.up (D3 a0 (And.left sO)) hb) (A1 hb (D3 a0 (And.left sO)).size) oM).mono ?_;rintro e w3 ⟨⟨u3,rfl,a8⟩,a9⟩;have a3:=D3 a0 (D3 (A4 _ _).drew a9))
   | (go_at_call 126;refine (Nk x b o c g q d _ _ _ (hl.up a3 hg) (A1 hg a3.size) ns a8 oM).mono ?_;rintro e w4 ⟨⟨u4,rfl,b3⟩,b4⟩))
 rename_i hHeld;have b2:=D3 a0 hHeld.1;clear hHeld a7 a8 a9 b4 a3;go_wp2_with fail;go_ret;exact⟨⟨_,rfl,by rw[HY.out];exact b3⟩,b2⟩
theorem Ut(x:Rb)(rv sv:Value)(nm:BA)(w:World)(hE:F6 w)(h:CU w x rv sv):
  Calls prog 87 #[.agg #[Tz x.nm,rv,sv,Tz x.ad,Iz x.si,Iz x.st],Tz nm] w λe w'=>(∃u,e=.returned u/\F9 w' w.heap.size u (K5 x nm))/\Up w w':=by
 have a6:=λW (hB:Up w W)=>Ga x rv sv W (hE.up hB) (h.up hB);obtain⟨b,o,c,rfl,hr,hb,a3,b5⟩:=h.r;obtain⟨g,q,d,rfl,hl,hg⟩:=h.s;have ns:=h.ns;have zs:=h.zs;have zp:=h.zp;clear h;have hC:CB (w.alloc (.cells (Rzz x b o c g q d).toArray 52)) w.heap.size (Rzz x b o c g q d):=E9 w _ _;have a2:=(A4 w.heap.size w).alloc (A3 _) (.cells (Rzz x b o c g q d).toArray 52);have HO:Hid (∀W,Up w W->Calls prog 85 #[.agg (Rzz x b o c g q d).toArray] W λe w'=>e=.returned (.bool (pB (I7 x)))/\Up W w'):=a6;have HE:Hid (F6 w):=hE;clear a6 hE;go_in;go_upto_region 1 with fail;generalize w.alloc (.cells (Rzz x b o c g q d).toArray 52)=W1 at *;obtain⟨d0,d1,d2,d3,d4,d5⟩:=hC.c6;have a7:=hC.2.2;by_cases hk:I7 x
 case neg =>
  have HN:Hid (K5 x nm=[]):=Ia hk nm;have hp:=F3 hk;go_wp2_with fail;refine (HO.out _ a2).mono ?_;rw[hp];rintro e w1 ⟨rfl,a1⟩;go_wp2_with fail;go_ret;exact⟨⟨_,rfl,by rw[HN.out];exact B9 _ _ _ _⟩,D3 a2 a1⟩
 have a8:=hk.2.1;have c2:x.ps.length<=12:=((J2 x.ps).1 a8).2.1
 have HY:Hid (F8 (CQ x.sl (Y3 x.ps nm))=K5 x nm):=by
  show _=_
  rw[HW hk nm];exact SV (Lz hk.2.2.1.nodup λ_=>Iff.rfl)
 have hV:Cc x.ps nm=Y3 x.ps nm:=by simp[Cc,a8]
 have HR:Hid (∀W,Up w W->Calls prog 141 #[Sx b o x.ps.length c,Tz nm] W λe w'=>(∃u,e=.returned u/\F9 w' W.heap.size u (Y3 x.ps nm))/\Up W w'):=λW hW=>by
  have:=Kq x.ps b o c nm W (HE.out.up hW) (hr.up hW hb) (A1 hb hW.size) zp a3 b5;rw[hV] at this;exact this
 have b6:=Po zp nm;have hp:=M5 hk;have c3:=Ip x.ps nm;clear hk hV;go_wp2_with fail;refine (HO.out _ a2).mono ?_;rw[hp];rintro e w1 ⟨rfl,a1⟩;go_upto_region 3 with fail;have a0:=D3 a2 a1;obtain⟨f0,f1,f2,f3,f4,f5⟩:=(hC.up a1 a7).c6;have b7:w.heap.size<w1.heap.size:=A1 a7 a1.size;have a9:Up w1 w1/\AS w1 w.heap.size 0 (Tz x.nm)/\AS w1 w.heap.size 1 (Sx b o x.ps.length c)/\AS w1 w.heap.size 2 (Sx g q x.sl.length d)/\AS w1 w.heap.size 3 (Tz x.ad)/\AS w1 w.heap.size 4 (Iz x.si)/\AS w1 w.heap.size 5 (Iz x.st):=⟨A4 _ _,f0,f1,f2,f3,f4,f5⟩;clear d0 d1 d2 d3 d4 d5 f0 f1 f2 f3 f4 f5 hp;go_wp2_with fail
 go_region_held (λw'=>Up w1 w'/\AS w' w.heap.size 0 (Tz x.nm)/\AS w' w.heap.size 1 (Sx b o x.ps.length c)/\AS w' w.heap.size 2 (Sx g q x.sl.length d)/\AS w' w.heap.size 3 (Tz x.ad)/\AS w' w.heap.size 4 (Iz x.si)/\AS w' w.heap.size 5 (Iz x.st)) (first|exact Ot a9|exact XF b7 sO sO)
  (first
   | (go_at_call 139;refine (GX x.sl g q d _ (hl.up a0.drew hg) (A1 hg a0.drew.size) ns (λy hy=>(zs y hy).1)).mono ?_;rintro e w2 ⟨⟨M,D,rfl,hM,hD,-⟩,b2⟩;have a4:=D3 a0.drew b2)
   | (go_at_call 141;refine (HR.out _ a4).mono ?_;rintro e w3 ⟨⟨u3,rfl,b3⟩,a5⟩;have b0:=hM.up a5;have b1:=D3 a4 a5)
   | (go_at_call 140;refine (GY x.sl (Y3 x.ps nm) M _ D _ _ b0 hD b3.lst b6 oM).mono ?_;rintro e w4 ⟨⟨u4,rfl,b4⟩,c1⟩))
 rename_i hHeld;have b8:=D3 a0 hHeld.1;have b9:=Dj b4 b1.size;clear hHeld a9 b3 b4 a5 c1 b1 hM hD b0 b2 a4;go_wp2_with fail;go_ret;exact⟨⟨_,rfl,by rw[← HY.out];exact b9⟩,b8⟩
end Go.Proofs.YtaffjphkobhagaaGreatDoor
