/- The program's RunBatchOk, RunThings and RunOwn (chapter 21). -/
import Derived.Test.YtaffjphkobhagaaGreatDoorJ20
namespace Go.Proofs.YtaffjphkobhagaaGreatDoor
open Proofs.Tryz
open Go.RowKit
variable{nm:BA}{ps:List Ph}{q r:Nat}{p:Ph}{x:Rb}{rv sv x0 x1 x2 x3 x4 x5 y:Value}{W w w' w0:World}
structure CU (w:World) (x:Rb) (rv sv:Value):Prop where
 r:∃b o c,rv=.slice (some ⟨b,o,none⟩) x.ps.length c/\G4 w b o x.ps/\b<w.heap.size/\x.ps.length<=c/\c<=9223372036854775807
 s:∃b o c,sv=.slice (some ⟨b,o,none⟩) x.sl.length c/\Z9 w b o x.sl/\b<w.heap.size
 zp:Dz x.ps
 zs:∀y∈x.sl,y.s.size<=maxLen/\y.t.size<=maxLen
 zn:x.nm.size<=maxLen
 np:x.ps.length<=1048576
 ns:x.sl.length<=1048576
theorem CU.up(h:CU w x rv sv)(hb:Up w w'):CU w' x rv sv:=by
 obtain⟨b,o,c,h1,h2,h3,h4⟩:=h.r;obtain⟨g,q,d,k1,k2,k3⟩:=h.s;exact⟨⟨b,o,c,h1,h2.up hb h3,A1 h3 hb.size,h4⟩,⟨g,q,d,k1,k2.up hb k3,A1 k3 hb.size⟩,h.zp,h.zs,h.zn,h.np,h.ns⟩
theorem Iy(h:H7 ps nm=true):∃k,k<ps.length/\M6 ps nm=(k:Int):=by
 cases hf:ps.findIdx? λp=>p.nm.toList==nm.toList with
 | none =>
  rw[List.findIdx?_eq_none_iff] at hf;unfold H7 at h;rw[List.any_eq_true] at h;obtain⟨p,hp,e⟩:=h;rw[hf p hp] at e;cases e
 | some i =>
  obtain⟨h1,-⟩:=List.findIdx?_eq_some_iff_getElem.1 hf;exact⟨i,h1,by unfold M6;rw[hf]⟩
theorem Dd(h:H7 ps nm=true):EU ps nm∈ps:=by
 obtain⟨k,hk,ha⟩:=Iy h;rw[Iw hk ha];simp
theorem Cy(h:M3 ps=true)(hp:p∈ps):p.okB=true:=by
 obtain⟨i,hi,rfl⟩:=B7 hp;have:=((J2 ps).1 h).2.2 i ps[i] hi dC;unfold Al at this;simp only[Bool.and_eq_true] at this;exact this.1.1.1
theorem FZ(h:p.okB=true):1<=p.wi/\p.wi<=1000:=by
 unfold Ph.okB O7 at h;simp only[Bool.and_eq_true] at h;exact (AX _ _ _).1 h.1.1.1.2
theorem Oh(h:Up W w0/\AS w0 q 0 x0/\AS w0 q 1 x1/\AS w0 q 2 x2/\AS w0 q 3 x3/\AS w0 q 4 x4/\AS w0 q 5 x5/\AS w0 r 5 y):Up W w0.drew/\w0.drew.cell? ⟨q,0,none⟩=some x0/\w0.drew.cell? ⟨q,1,none⟩=some x1/\w0.drew.cell? ⟨q,2,none⟩=some x2/\w0.drew.cell? ⟨q,3,none⟩=some x3/\w0.drew.cell? ⟨q,4,none⟩=some x4/\w0.drew.cell? ⟨q,5,none⟩=some x5/\w0.drew.cell? ⟨r,5,none⟩=some y :=
 ⟨h.1.drew,h.2⟩
theorem Qq{w1:World}(hq:q<W.heap.size)(hr:r<W.heap.size)(h:Up W w0/\AS w0 q 0 x0/\AS w0 q 1 x1/\AS w0 q 2 x2/\AS w0 q 3 x3/\AS w0 q 4 x4/\AS w0 q 5 x5/\AS w0 r 5 y)(hB:Up w0 w1):Up W w1/\AS w1 q 0 x0/\AS w1 q 1 x1/\AS w1 q 2 x2/\AS w1 q 3 x3/\AS w1 q 4 x4/\AS w1 q 5 x5/\AS w1 r 5 y:=by
 obtain⟨h1,a0,a1,a2,a3,a4,a5,a6⟩:=h;have hl:q<w0.heap.size:=A1 hq h1.size;have hm:r<w0.heap.size:=A1 hr h1.size;exact⟨D3 h1 hB,(hB.cell (p:=⟨q,0,none⟩) hl).trans a0,(hB.cell (p:=⟨q,1,none⟩) hl).trans a1,(hB.cell (p:=⟨q,2,none⟩) hl).trans a2,(hB.cell (p:=⟨q,3,none⟩) hl).trans a3,(hB.cell (p:=⟨q,4,none⟩) hl).trans a4,(hB.cell (p:=⟨q,5,none⟩) hl).trans a5,(hB.cell (p:=⟨r,5,none⟩) hm).trans a6⟩
set_option maxRecDepth 20000 in
set_option maxHeartbeats 4000000 in
theorem Ga(x:Rb)(rv sv:Value)(w:World)(hE:F6 w)(h:CU w x rv sv):
  cU prog 85 #[.agg #[Tz x.nm,rv,sv,Tz x.ad,Iz x.si,Iz x.st]] w (.bool (pB (I7 x))):=by
 obtain⟨b,o,c,rfl,hr,hb,a7,b3⟩:=h.r;obtain⟨g,q,d,rfl,hl,hg⟩:=h.s;have zp:=h.zp;have zs:=h.zs;have zn:=h.zn;have np:=h.np;have ns:=h.ns;clear h;have hC:CB (w.alloc (.cells (Rzz x b o c g q d).toArray 52)) w.heap.size (Rzz x b o c g q d):=E9 w _ _;have a1:=(A4 w.heap.size w).alloc (A3 _) (.cells (Rzz x b o c g q d).toArray 52);have HE:Hid (F6 w):=hE;clear hE;delta cU;go_in;go_upto_region 1 with fail;generalize w.alloc (.cells (Rzz x b o c g q d).toArray 52)=W1 at *;obtain⟨d0,d1,d2,d3,d4,d5⟩:=hC.c6;have a6:=hC.2.2;have hB:Up W1 W1:=A4 _ _;obtain⟨hc,hf⟩:=E2 hB;cases h1:E4 x.nm
 .have HN:Hid (pB (I7 x)=false):=F3 λh=>by rw[h.1] at h1;cases h1
  go_wp2_with (first|(go_at_call 80;refine (Z8 _ _ zn).mono ?_;rintro e w1 ⟨rfl,a3⟩;obtain⟨hB,hc,hf⟩:=gr a3))
  go_ret;exact⟨D4 HN.out.symm,D3 a1 hB⟩
 by_cases h2:1<=x.st
 case neg =>
  have HN:Hid (pB (I7 x)=false):=F3 λh=>h2 h.2.2.2.1;go_wp2_with (first|(go_at_call 80;refine (Z8 _ _ zn).mono ?_;rintro e w1 ⟨rfl,a3⟩;obtain⟨hB,hc,hf⟩:=gr a3))
  go_ret;exact⟨D4 HN.out.symm,D3 a1 hB⟩
 cases h3:M3 x.ps
 .have HN:Hid (pB (I7 x)=false):=F3 λh=>by rw[h.2.1] at h3;cases h3
  go_wp2_with (first|(go_at_call 80;refine (Z8 _ _ zn).mono ?_;rintro e w1 ⟨rfl,a3⟩;obtain⟨hB,hc,hf⟩:=gr a3)|(go_at_call 135;refine (Dr x.ps b o c _ (HE.out.up (D3 a1 hB)) (hr.up (D3 a1 hB) hb) (A1 hb (D3 a1 hB).size) zp a7 b3).mono ?_;rintro e w1 ⟨rfl,a3⟩;obtain⟨hB,hc,hf⟩:=gr a3))
  go_ret;exact⟨D4 HN.out.symm,D3 a1 hB⟩
 have H123:Hid (E4 x.nm=true/\M3 x.ps=true/\1<=x.st):=⟨h1,h3,h2⟩;go_upto_region 3 with (first|(go_at_call 80;refine (Z8 _ _ zn).mono ?_;rintro e w1 ⟨rfl,a3⟩;obtain⟨hB,hc,hf⟩:=gr a3)|(go_at_call 135;refine (Dr x.ps b o c _ (HE.out.up (D3 a1 hB)) (hr.up (D3 a1 hB) hb) (A1 hb (D3 a1 hB).size) zp a7 b3).mono ?_;rintro e w1 ⟨rfl,a3⟩;obtain⟨hB,hc,hf⟩:=gr a3))
 clear h1 h2;go_wp2_with fail;refine (GZ x.ps b o c x.ad _ (hr.up (D3 a1 hB) hb) (A1 hb (D3 a1 hB).size) np).mono ?_;rintro e w3 ⟨⟨p,rfl,b8⟩,b9⟩
 have Hpk:Hid (H7 x.ps x.ad=true->p=EU x.ps x.ad):=λhh=>by
  obtain⟨k,hk,ha⟩:=Iy hh;rw[b8 k hk ha,Iw hk ha]
 have a8:=D3 hB b9;clear b8 b9 hB hc hf;have a4:=a8.alloc a8.size (Kz [Tz (p).nm,Iz (p).k,Tz (p).a,Tz (p).b,Iz (p).n,Iz (p).wi,Tz (p).t,Tz (p).e] 126);have b4:CB (w3.alloc (Kz [Tz (p).nm,Iz (p).k,Tz (p).a,Tz (p).b,Iz (p).n,Iz (p).wi,Tz (p).t,Tz (p).e] 126)) w3.heap.size [Tz p.nm,Iz p.k,Tz p.a,Tz p.b,Iz p.n,Iz p.wi,Tz p.t,Tz p.e]:=E9 w3 _ _;go_upto_region 4 with fail;generalize w3.alloc (Kz [Tz (p).nm,Iz (p).k,Tz (p).a,Tz (p).b,Iz (p).n,Iz (p).wi,Tz (p).t,Tz (p).e] 126)=W4 at *;obtain⟨hc,hf⟩:=E2 a4;have e0:=(hc w.heap.size 0 a6).trans d0;have e1:=(hc w.heap.size 1 a6).trans d1;have e2:=(hc w.heap.size 2 a6).trans d2;have e3:=(hc w.heap.size 3 a6).trans d3;have e4:=(hc w.heap.size 4 a6).trans d4;have e5:=(hc w.heap.size 5 a6).trans d5;have e6:AS W4 w3.heap.size 5 (Iz p.wi):=b4.1 5 _ rfl;have a0:=D3 a1 a4;have b1:w.heap.size<W4.heap.size:=A1 a6 a4.size;have b2:w3.heap.size<W4.heap.size:=b4.2.2;clear d0 d1 d2 d3 d4 d5 hC b4 a1 a8 a4 hc hf a6;cases h5:H7 x.ps x.ad
 .have HN:Hid (pB (I7 x)=false):=F3 λh=>by rw[h.2.2.2.2.1] at h5;cases h5
  go_wp2_with fail;go_quiet (fail);go_wp2;go_ret;exact⟨D4 HN.out.symm,E5 a0 _⟩
 have Hw:Hid (1<=p.wi/\p=EU x.ps x.ad):=by
  have e:=Hpk.out h5;exact⟨by rw[e];exact (FZ (Cy h3 (Dd h5))).1,e⟩
 have HR:Hid (∀(W:World),Up W4 W->Calls prog 138 #[Sx g q x.sl.length d,Sx b o x.ps.length c] W λe w'=>e=.returned (.bool (pB (J5 x.ps x.sl)))/\Up W w'):=λW hW =>
  Sv x.ps x.sl b o c g q d W (HE.out.up (D3 a0 hW)) (hr.up (D3 a0 hW) hb) (A1 hb (D3 a0 hW).size) zp a7 b3 h3 (hl.up (D3 a0 hW) hg) (A1 hg (D3 a0 hW).size) ns zs
 have a9:(λw'=>Up W4 w'/\AS w' w.heap.size 0 (Tz x.nm)/\AS w' w.heap.size 1 (Sx b o x.ps.length c)/\AS w' w.heap.size 2 (Sx g q x.sl.length d)/\AS w' w.heap.size 3 (Tz x.ad)/\AS w' w.heap.size 4 (Iz x.si)/\AS w' w.heap.size 5 (Iz x.st)/\AS w' w3.heap.size 5 (Iz p.wi)) W4:=⟨A4 _ _,e0,e1,e2,e3,e4,e5,e6⟩;clear e0 e1 e2 e3 e4 e5 e6 h3;by_cases h6:x.si=-1
 .have H6:Hid (pB (I7 x)=pB (J5 x.ps x.sl)):=by
   show _=_
   obtain⟨k1,k2,k3⟩:=H123.out;obtain⟨k4,k5⟩:=Hw.out;have:I7 x↔J5 x.ps x.sl:=⟨λh=>h.2.2.1,λh=>⟨k1,k2,h,k3,h5,oM,by rw[← k5];omega⟩⟩;unfold pB;simp[this]
  have a5:(λw'=>Up W4 w'/\AS w' w.heap.size 0 (Tz x.nm)/\AS w' w.heap.size 1 (Sx b o x.ps.length c)/\AS w' w.heap.size 2 (Sx g q x.sl.length d)/\AS w' w.heap.size 3 (Tz x.ad)/\AS w' w.heap.size 4 (Iz (-1))/\AS w' w.heap.size 5 (Iz x.st)/\AS w' w3.heap.size 5 (Iz p.wi)) W4:=by rw[← h6];exact a9
  clear h6 a9;go_wp2_with fail
  go_region_held (λw'=>Up W4 w'/\AS w' w.heap.size 0 (Tz x.nm)/\AS w' w.heap.size 1 (Sx b o x.ps.length c)/\AS w' w.heap.size 2 (Sx g q x.sl.length d)/\AS w' w.heap.size 3 (Tz x.ad)/\AS w' w.heap.size 4 (Iz (-1))/\AS w' w.heap.size 5 (Iz x.st)/\AS w' w3.heap.size 5 (Iz p.wi)) (first|exact Oh a5|exact Qq b1 b2 sO sO)
   (first
    | (go_at_call 137;refine (Nf _ _ _ _ _ _ _ _ _ _).mono ?_;rintro e w5 ⟨rfl,b6⟩)
    | (go_at_call 250;refine (Xn _ _).mono ?_;rintro e w6 ⟨rfl,b7⟩)
    | (go_at_call 138;refine (HR.out _ (And.left sO)).mono ?_;rintro e w7 ⟨rfl,c1⟩))
  rename_i hHeld;have b0:=D3 a0 hHeld.1;go_wp2_with fail;go_ret;exact⟨D4 H6.out.symm,b0⟩
 .by_cases h7:0<=x.si/\x.si<p.wi
  .have H6:Hid (pB (I7 x)=pB (J5 x.ps x.sl)):=by
    show _=_
    obtain⟨k1,k2,k3⟩:=H123.out;obtain⟨k4,k5⟩:=Hw.out;have:I7 x↔J5 x.ps x.sl:=⟨λh=>h.2.2.1,λh=>⟨k1,k2,h,k3,h5,oM,by rw[← k5];omega⟩⟩;unfold pB;simp[this]
   have h8:(decide (0<=x.si)&&decide (x.si<p.wi))=true:=by simp[h7]
   have H6':Hid (¬x.si=-1):=h6;clear h6 h7;go_wp2_with fail
   go_region_held (λw'=>Up W4 w'/\AS w' w.heap.size 0 (Tz x.nm)/\AS w' w.heap.size 1 (Sx b o x.ps.length c)/\AS w' w.heap.size 2 (Sx g q x.sl.length d)/\AS w' w.heap.size 3 (Tz x.ad)/\AS w' w.heap.size 4 (Iz x.si)/\AS w' w.heap.size 5 (Iz x.st)/\AS w' w3.heap.size 5 (Iz p.wi)) (first|exact Oh a9|exact Qq b1 b2 sO sO)
    (first
     | (go_at_call 137;refine (Mb _ _ _ _ _ _ _ _ _ _ _ H6'.out).mono ?_;rintro e w5 ⟨rfl,b6⟩)
     | (go_at_call 249;refine (Su _ _ _).mono ?_;rw[h8];rintro e w6 ⟨rfl,b7⟩)
     | (go_at_call 138;refine (HR.out _ (And.left sO)).mono ?_;rintro e w7 ⟨rfl,c1⟩))
   rename_i hHeld;have b0:=D3 a0 hHeld.1;go_wp2_with fail;go_ret;exact⟨D4 H6.out.symm,b0⟩
  .have HN:Hid (pB (I7 x)=false):=F3 λh=>h7 (by
    obtain⟨-,k5⟩:=Hw.out;rw[k5];exact⟨by have:=h.2.2.2.2.2.1;omega,h.2.2.2.2.2.2⟩)
   have h8:(decide (0<=x.si)&&decide (x.si<p.wi))=false:=by
    rw[Bool.and_eq_false_iff];simp only[decide_eq_false_iff_not];omega
   have H6':Hid (¬x.si=-1):=h6;clear h6 h7;have a5:(λw'=>Up W4 w'/\AS w' w.heap.size 0 (Tz x.nm)/\AS w' w.heap.size 1 (Sx b o x.ps.length c)/\AS w' w.heap.size 2 (Sx g q x.sl.length d)/\AS w' w.heap.size 3 (Tz x.ad)/\AS w' w.heap.size 4 (Iz x.si)/\AS w' w.heap.size 5 (Iz x.st)/\AS w' w3.heap.size 5 (Iz p.wi)) W4.drew:=Oh a9;clear a9;refine L6 99 (λw'=>Up W4 w'/\AS w' w.heap.size 0 (Tz x.nm)/\AS w' w.heap.size 1 (Sx b o x.ps.length c)/\AS w' w.heap.size 2 (Sx g q x.sl.length d)/\AS w' w.heap.size 3 (Tz x.ad)/\AS w' w.heap.size 4 (Iz x.si)/\AS w' w.heap.size 5 (Iz x.st)/\AS w' w3.heap.size 5 (Iz p.wi)) sI ?_;refine D8 0 rfl a5 ?_;refine D8 1 rfl a5 ?_;refine D8 2 rfl a5 ?_;refine D8 4 rfl a5 ?_;refine D8 5 rfl a5 ?_;refine W9 3 rfl (λK hK=>?_);go_simp;go_wp2_with (go_at_call 137;refine (Mb _ _ _ _ _ _ _ _ _ _ _ H6'.out).mono ?_;rintro e w5 ⟨rfl,b6⟩)
   have b5:(λw'=>Up W4 w'/\AS w' w.heap.size 0 (Tz x.nm)/\AS w' w.heap.size 1 (Sx b o x.ps.length c)/\AS w' w.heap.size 2 (Sx g q x.sl.length d)/\AS w' w.heap.size 3 (Tz x.ad)/\AS w' w.heap.size 4 (Iz x.si)/\AS w' w.heap.size 5 (Iz x.st)/\AS w' w3.heap.size 5 (Iz p.wi)) w5:=Qq b1 b2 a5 b6;refine U4 hK b5 ?_;clear hK K;refine W9 6 rfl (λK hK=>?_);go_simp;go_wp2_with (go_at_call 249;refine (Su _ _ _).mono ?_;rw[h8];rintro e w6 ⟨rfl,b7⟩)
   have a2:(λw'=>Up W4 w'/\AS w' w.heap.size 0 (Tz x.nm)/\AS w' w.heap.size 1 (Sx b o x.ps.length c)/\AS w' w.heap.size 2 (Sx g q x.sl.length d)/\AS w' w.heap.size 3 (Tz x.ad)/\AS w' w.heap.size 4 (Iz x.si)/\AS w' w.heap.size 5 (Iz x.st)/\AS w' w3.heap.size 5 (Iz p.wi)) w6:=Qq b1 b2 b5 b7;refine U4 hK a2 ?_;clear hK K;refine D8 7 rfl a2 ?_;refine D8 8 rfl a2 ?_;refine G3 9 rfl a2 ?_;refine G3 10 rfl a2 ?_;refine G3 11 rfl a2 ?_;refine G3 12 rfl a2 ?_;refine G3 13 rfl a2 ?_;refine D8 14 rfl a2 ?_;refine W9 15 rfl (λK hK=>?_);go_simp;refine U4 hK a2 ?_;clear hK K;refine O1 sI ?_ _;have b0:=D3 a0 a2.1;clear a5 b5 a2 h8 h5;go_wp2_with fail;go_ret;exact⟨D4 HN.out.symm,b0⟩
end Go.Proofs.YtaffjphkobhagaaGreatDoor
