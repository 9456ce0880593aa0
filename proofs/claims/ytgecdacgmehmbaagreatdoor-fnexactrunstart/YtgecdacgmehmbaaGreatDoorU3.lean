/- The program's RunBatchOk, RunThings and RunOwn (chapter 21). -/
import Derived.Test.YtgecdacgmehmbaaGreatDoorJ20
import Derived.Test.YtgecdacgmehmbaaGreatDoorXr
namespace Go.Proofs.YtgecdacgmehmbaaGreatDoor
open Go.RowKit
structure RbV (w:World) (x:Rb) (rv sv:Value):Prop where
 r:∃b o c,rv=.slice (some ⟨b,o,none⟩) x.ps.length c/\RecAt w b o x.ps/\b<w.heap.size/\x.ps.length<=c/\c<=9223372036854775807
 s:∃b o c,sv=.slice (some ⟨b,o,none⟩) x.sl.length c/\SlAt w b o x.sl/\b<w.heap.size
 zp:Sized x.ps
 zs:∀y∈x.sl,y.s.size<=maxLen/\y.t.size<=maxLen
 zn:x.nm.size<=maxLen
 np:x.ps.length<=1048576
 ns:x.sl.length<=1048576
theorem RbV.up {w w':World} {x:Rb} {rv sv:Value} (h:RbV w x rv sv) (hb:Below w.heap.size w w'):RbV w' x rv sv:=by
 obtain⟨b,o,c,h1,h2,h3,h4⟩:=h.r;obtain⟨g,q,d,k1,k2,k3⟩:=h.s;exact⟨⟨b,o,c,h1,h2.up hb h3,A1 h3 hb.size,h4⟩,⟨g,q,d,k1,k2.up hb k3,A1 k3 hb.size⟩,h.zp,h.zs,h.zn,h.np,h.ns⟩
theorem Ab6 {ps:List Ph} {nm:ByteArray} (h:hasB ps nm=true):∃k,k<ps.length/\atI ps nm=(k:Int):=by
 cases hf:ps.findIdx? λp=>p.nm.toList==nm.toList with
 | none =>
  rw[List.findIdx?_eq_none_iff] at hf;unfold hasB at h;rw[List.any_eq_true] at h;obtain⟨p,hp,e⟩:=h;rw[hf p hp] at e;cases e
 | some i =>
  obtain⟨h1,-⟩:=List.findIdx?_eq_some_iff_getElem.1 hf;exact⟨i,h1,by unfold atI;rw[hf]⟩
theorem AdC {ps:List Ph} {nm:ByteArray} (h:hasB ps nm=true):phOf ps nm∈ps:=by
 obtain⟨k,hk,ha⟩:=Ab6 h;rw[Ab2 hk ha];simp
theorem AeD {ps:List Ph} (h:recB ps=true) {p:Ph} (hp:p∈ps):p.okB=true:=by
 obtain⟨i,hi,rfl⟩:=B5 hp;have:=((I4 ps).1 h).2.2 i ps[i] hi (by simp);unfold stepI at this;simp only[Bool.and_eq_true] at this;exact this.1.1.1
theorem AkG {p:Ph} (h:p.okB=true):1<=p.wi/\p.wi<=1000:=by
 unfold Ph.okB phaseB at h;simp only[Bool.and_eq_true] at h;exact (P9 _ _ _).1 h.1.1.1.2
theorem AeE {W w0:World} {q r:Nat} {x0 x1 x2 x3 x4 x5 y:Value} (h:Below W.heap.size W w0/\w0.cell? ⟨q,0,none⟩=some x0/\w0.cell? ⟨q,1,none⟩=some x1/\w0.cell? ⟨q,2,none⟩=some x2/\w0.cell? ⟨q,3,none⟩=some x3/\w0.cell? ⟨q,4,none⟩=some x4/\w0.cell? ⟨q,5,none⟩=some x5/\w0.cell? ⟨r,5,none⟩=some y):Below W.heap.size W w0.drew/\w0.drew.cell? ⟨q,0,none⟩=some x0/\w0.drew.cell? ⟨q,1,none⟩=some x1/\w0.drew.cell? ⟨q,2,none⟩=some x2/\w0.drew.cell? ⟨q,3,none⟩=some x3/\w0.drew.cell? ⟨q,4,none⟩=some x4/\w0.drew.cell? ⟨q,5,none⟩=some x5/\w0.drew.cell? ⟨r,5,none⟩=some y :=
 ⟨h.1.drew,h.2⟩
theorem AfA {W w0 w1:World} {q r:Nat} {x0 x1 x2 x3 x4 x5 y:Value} (hq:q<W.heap.size) (hr:r<W.heap.size) (h:Below W.heap.size W w0/\w0.cell? ⟨q,0,none⟩=some x0/\w0.cell? ⟨q,1,none⟩=some x1/\w0.cell? ⟨q,2,none⟩=some x2/\w0.cell? ⟨q,3,none⟩=some x3/\w0.cell? ⟨q,4,none⟩=some x4/\w0.cell? ⟨q,5,none⟩=some x5/\w0.cell? ⟨r,5,none⟩=some y) (hB:Below w0.heap.size w0 w1):Below W.heap.size W w1/\w1.cell? ⟨q,0,none⟩=some x0/\w1.cell? ⟨q,1,none⟩=some x1/\w1.cell? ⟨q,2,none⟩=some x2/\w1.cell? ⟨q,3,none⟩=some x3/\w1.cell? ⟨q,4,none⟩=some x4/\w1.cell? ⟨q,5,none⟩=some x5/\w1.cell? ⟨r,5,none⟩=some y:=by
 obtain⟨h1,a0,a1,a2,a3,a4,a5,a6⟩:=h;have hl:q<w0.heap.size:=A1 hq h1.size;have hm:r<w0.heap.size:=A1 hr h1.size;exact⟨D5 h1 hB,(hB.cell (p:=⟨q,0,none⟩) hl).trans a0,(hB.cell (p:=⟨q,1,none⟩) hl).trans a1,(hB.cell (p:=⟨q,2,none⟩) hl).trans a2,(hB.cell (p:=⟨q,3,none⟩) hl).trans a3,(hB.cell (p:=⟨q,4,none⟩) hl).trans a4,(hB.cell (p:=⟨q,5,none⟩) hl).trans a5,(hB.cell (p:=⟨r,5,none⟩) hm).trans a6⟩
set_option maxRecDepth 20000 in
set_option maxHeartbeats 4000000 in
theorem Aaf (x:Rb) (rv sv:Value) (w:World) (hE:Ends w) (h:RbV w x rv sv) :
  Calls Tryz.prog 120 #[.agg #[.string x.nm,rv,sv,.string x.ad,.int .i64 x.si,.int .i64 x.st]] w λe w'=>e=.returned (.bool (pB (RbOk x)))/\Below w.heap.size w w':=by
 obtain⟨b,o,c,rfl,hr,hb,hcap,hc9⟩:=h.r;obtain⟨g,q,d,rfl,hl,hg⟩:=h.s;have zp:=h.zp;have zs:=h.zs;have zn:=h.zn;have np:=h.np;have ns:=h.ns;clear h;have hC:CB (w.alloc (.cells #[.string x.nm,.slice (some ⟨b,o,none⟩) x.ps.length c,.slice (some ⟨g,q,none⟩) x.sl.length d,.string x.ad,.int .i64 x.si,.int .i64 x.st] 71)) w.heap.size [.string x.nm,.slice (some ⟨b,o,none⟩) x.ps.length c,.slice (some ⟨g,q,none⟩) x.sl.length d,.string x.ad,.int .i64 x.si,.int .i64 x.st]:=E8 w _ _;have hB0:=(A4 w.heap.size w).alloc (A3 _) (.cells #[.string x.nm,.slice (some ⟨b,o,none⟩) x.ps.length c,.slice (some ⟨g,q,none⟩) x.sl.length d,.string x.ad,.int .i64 x.si,.int .i64 x.st] 71);have HE:Hid (Ends w):=hE;clear hE;go_enter Tryz.func120,Tryz.ntmps120
 go_upto_region 1 with fail
 generalize w.alloc (.cells #[.string x.nm,.slice (some ⟨b,o,none⟩) x.ps.length c,.slice (some ⟨g,q,none⟩) x.sl.length d,.string x.ad,.int .i64 x.si,.int .i64 x.st] 71)=W1 at *;obtain⟨d0,d1,d2,d3,d4,d5⟩:=hC.c6;have hlt:=hC.2.2;have hB:Below W1.heap.size W1 W1:=A4 _ _;obtain⟨hc,hf⟩:=E2 hB;cases h1:nameB x.nm
 ·have HN:Hid (pB (RbOk x)=false):=F1 λh=>by rw[h.1] at h1;cases h1
  go_wp2_with (first|(go_at_call 144;refine (M6 _ _ zn).mono ?_;rintro e w1 ⟨rfl,hb1⟩;(first|(have hB':=D5 hB hb1;clear hB;have hB:=hB';clear hB')|(have hB:=hb1));clear hb1;(try clear hc hf);obtain⟨hc,hf⟩:=E2 hB))
  go_ret
  exact⟨D6 HN.out.symm,D5 hB0 hB⟩
 by_cases h2:1<=x.st
 case neg =>
  have HN:Hid (pB (RbOk x)=false):=F1 λh=>h2 h.2.2.2.1;go_wp2_with (first|(go_at_call 144;refine (M6 _ _ zn).mono ?_;rintro e w1 ⟨rfl,hb1⟩;(first|(have hB':=D5 hB hb1;clear hB;have hB:=hB';clear hB')|(have hB:=hb1));clear hb1;(try clear hc hf);obtain⟨hc,hf⟩:=E2 hB))
  go_ret
  exact⟨D6 HN.out.symm,D5 hB0 hB⟩
 cases h3:recB x.ps
 ·have HN:Hid (pB (RbOk x)=false):=F1 λh=>by rw[h.2.1] at h3;cases h3
  go_wp2_with (first|(go_at_call 144;refine (M6 _ _ zn).mono ?_;rintro e w1 ⟨rfl,hb1⟩;(first|(have hB':=D5 hB hb1;clear hB;have hB:=hB';clear hB')|(have hB:=hb1));clear hb1;(try clear hc hf);obtain⟨hc,hf⟩:=E2 hB)|(go_at_call 145;refine (Abk x.ps b o c _ (HE.out.up (D5 hB0 hB)) (hr.up (D5 hB0 hB) hb) (A1 hb (D5 hB0 hB).size) zp hcap hc9).mono ?_;rintro e w1 ⟨rfl,hb1⟩;(first|(have hB':=D5 hB hb1;clear hB;have hB:=hB';clear hB')|(have hB:=hb1));clear hb1;(try clear hc hf);obtain⟨hc,hf⟩:=E2 hB))
  go_ret
  exact⟨D6 HN.out.symm,D5 hB0 hB⟩
 have H123:Hid (nameB x.nm=true/\recB x.ps=true/\1<=x.st):=⟨h1,h3,h2⟩;go_upto_region 3 with (first|(go_at_call 144;refine (M6 _ _ zn).mono ?_;rintro e w1 ⟨rfl,hb1⟩;(first|(have hB':=D5 hB hb1;clear hB;have hB:=hB';clear hB')|(have hB:=hb1));clear hb1;(try clear hc hf);obtain⟨hc,hf⟩:=E2 hB)|(go_at_call 145;refine (Abk x.ps b o c _ (HE.out.up (D5 hB0 hB)) (hr.up (D5 hB0 hB) hb) (A1 hb (D5 hB0 hB).size) zp hcap hc9).mono ?_;rintro e w1 ⟨rfl,hb1⟩;(first|(have hB':=D5 hB hb1;clear hB;have hB:=hB';clear hB')|(have hB:=hb1));clear hb1;(try clear hc hf);obtain⟨hc,hf⟩:=E2 hB))
 clear h1 h2;go_wp2_with fail
 refine (Abs x.ps b o c x.ad _ (hr.up (D5 hB0 hB) hb) (A1 hb (D5 hB0 hB).size) np).mono ?_;rintro e w3 ⟨⟨p,rfl,hpk⟩,hb3⟩
 have Hpk:Hid (hasB x.ps x.ad=true->p=phOf x.ps x.ad):=λhh=>by
  obtain⟨k,hk,ha⟩:=Ab6 hh;rw[hpk k hk ha,Ab2 hk ha]
 have hB13:=D5 hB hb3;clear hpk hb3 hB hc hf;have hB14:=hB13.alloc hB13.size (.cells #[.string (p).nm,.int .i64 (p).k,.string (p).a,.string (p).b,.int .i64 (p).n,.int .i64 (p).wi,.string (p).t,.string (p).e] 73);have hCp:CB (w3.alloc (.cells #[.string (p).nm,.int .i64 (p).k,.string (p).a,.string (p).b,.int .i64 (p).n,.int .i64 (p).wi,.string (p).t,.string (p).e] 73)) w3.heap.size [.string p.nm,.int .i64 p.k,.string p.a,.string p.b,.int .i64 p.n,.int .i64 p.wi,.string p.t,.string p.e]:=E8 w3 _ _;go_upto_region 4 with fail
 generalize w3.alloc (.cells #[.string (p).nm,.int .i64 (p).k,.string (p).a,.string (p).b,.int .i64 (p).n,.int .i64 (p).wi,.string (p).t,.string (p).e] 73)=W4 at *;obtain⟨hc,hf⟩:=E2 hB14;have e0:=(hc w.heap.size 0 hlt).trans d0;have e1:=(hc w.heap.size 1 hlt).trans d1;have e2:=(hc w.heap.size 2 hlt).trans d2;have e3:=(hc w.heap.size 3 hlt).trans d3;have e4:=(hc w.heap.size 4 hlt).trans d4;have e5:=(hc w.heap.size 5 hlt).trans d5;have e6:W4.cell? ⟨w3.heap.size,5,none⟩=some (.int .i64 p.wi):=hCp.1 5 _ rfl;have hB04:=D5 hB0 hB14;have hq4:w.heap.size<W4.heap.size:=A1 hlt hB14.size;have hr4:w3.heap.size<W4.heap.size:=hCp.2.2;clear d0 d1 d2 d3 d4 d5 hC hCp hB0 hB13 hB14 hc hf hlt;cases h5:hasB x.ps x.ad
 ·have HN:Hid (pB (RbOk x)=false):=F1 λh=>by rw[h.2.2.2.2.1] at h5;cases h5
  go_wp2_with fail
  go_quiet (fail)
  go_wp2
  go_ret
  exact⟨D6 HN.out.symm,E7 hB04 _⟩
 have Hw:Hid (1<=p.wi/\p=phOf x.ps x.ad):=by
  have e:=Hpk.out h5;exact⟨by rw[e];exact (AkG (AeD h3 (AdC h5))).1,e⟩
 have HR:Hid (∀(W:World),Below W4.heap.size W4 W->Calls Tryz.prog 148 #[.slice (some ⟨g,q,none⟩) x.sl.length d,.slice (some ⟨b,o,none⟩) x.ps.length c] W λe w'=>e=.returned (.bool (pB (SlotsOk x.ps x.sl)))/\Below W.heap.size W w'):=λW hW =>
  Ag4 x.ps x.sl b o c g q d W (HE.out.up (D5 hB04 hW)) (hr.up (D5 hB04 hW) hb) (A1 hb (D5 hB04 hW).size) zp hcap hc9 h3 (hl.up (D5 hB04 hW) hg) (A1 hg (D5 hB04 hW).size) ns zs
 have hS0:(λw'=>Below W4.heap.size W4 w'/\w'.cell? ⟨w.heap.size,0,none⟩=some (.string x.nm)/\w'.cell? ⟨w.heap.size,1,none⟩=some (.slice (some ⟨b,o,none⟩) x.ps.length c)/\w'.cell? ⟨w.heap.size,2,none⟩=some (.slice (some ⟨g,q,none⟩) x.sl.length d)/\w'.cell? ⟨w.heap.size,3,none⟩=some (.string x.ad)/\w'.cell? ⟨w.heap.size,4,none⟩=some (.int .i64 x.si)/\w'.cell? ⟨w.heap.size,5,none⟩=some (.int .i64 x.st)/\w'.cell? ⟨w3.heap.size,5,none⟩=some (.int .i64 p.wi)) W4:=⟨A4 _ _,e0,e1,e2,e3,e4,e5,e6⟩;clear e0 e1 e2 e3 e4 e5 e6 h3;by_cases h6:x.si=-1
 ·have H6:Hid (pB (RbOk x)=pB (SlotsOk x.ps x.sl)):=by
   show _=_
   obtain⟨k1,k2,k3⟩:=H123.out;obtain⟨k4,k5⟩:=Hw.out;have:RbOk x↔SlotsOk x.ps x.sl:=⟨λh=>h.2.2.1,λh=>⟨k1,k2,h,k3,h5,by omega,by rw[← k5];omega⟩⟩;unfold pB;simp[this]
  have hS1:(λw'=>Below W4.heap.size W4 w'/\w'.cell? ⟨w.heap.size,0,none⟩=some (.string x.nm)/\w'.cell? ⟨w.heap.size,1,none⟩=some (.slice (some ⟨b,o,none⟩) x.ps.length c)/\w'.cell? ⟨w.heap.size,2,none⟩=some (.slice (some ⟨g,q,none⟩) x.sl.length d)/\w'.cell? ⟨w.heap.size,3,none⟩=some (.string x.ad)/\w'.cell? ⟨w.heap.size,4,none⟩=some (.int .i64 (-1))/\w'.cell? ⟨w.heap.size,5,none⟩=some (.int .i64 x.st)/\w'.cell? ⟨w3.heap.size,5,none⟩=some (.int .i64 p.wi)) W4:=by rw[← h6];exact hS0
  clear h6 hS0;go_wp2_with fail
  go_region_held (λw'=>Below W4.heap.size W4 w'/\w'.cell? ⟨w.heap.size,0,none⟩=some (.string x.nm)/\w'.cell? ⟨w.heap.size,1,none⟩=some (.slice (some ⟨b,o,none⟩) x.ps.length c)/\w'.cell? ⟨w.heap.size,2,none⟩=some (.slice (some ⟨g,q,none⟩) x.sl.length d)/\w'.cell? ⟨w.heap.size,3,none⟩=some (.string x.ad)/\w'.cell? ⟨w.heap.size,4,none⟩=some (.int .i64 (-1))/\w'.cell? ⟨w.heap.size,5,none⟩=some (.int .i64 x.st)/\w'.cell? ⟨w3.heap.size,5,none⟩=some (.int .i64 p.wi)) (first|exact AeE hS1|exact AfA hq4 hr4 (by assumption) (by assumption))
   (first
    | (go_at_call 147;refine (Aek _ _ _ _ _ _ _ _ _ _).mono ?_;rintro e w5 ⟨rfl,hb5⟩)
    | (go_at_call 267;refine (Ajc _ _).mono ?_;rintro e w6 ⟨rfl,hb6⟩)
    | (go_at_call 148;refine (HR.out _ (And.left (by assumption))).mono ?_;rintro e w7 ⟨rfl,hb7⟩))
  rename_i hHeld;have hB5:=D5 hB04 hHeld.1;go_wp2_with fail
  go_ret
  exact⟨D6 H6.out.symm,hB5⟩
 ·by_cases h7:0<=x.si/\x.si<p.wi
  ·have H6:Hid (pB (RbOk x)=pB (SlotsOk x.ps x.sl)):=by
    show _=_
    obtain⟨k1,k2,k3⟩:=H123.out;obtain⟨k4,k5⟩:=Hw.out;have:RbOk x↔SlotsOk x.ps x.sl:=⟨λh=>h.2.2.1,λh=>⟨k1,k2,h,k3,h5,by omega,by rw[← k5];omega⟩⟩;unfold pB;simp[this]
   have h8:(decide (0<=x.si)&&decide (x.si<p.wi))=true:=by simp[h7]
   have H6':Hid (¬x.si=-1):=h6;clear h6 h7;go_wp2_with fail
   go_region_held (λw'=>Below W4.heap.size W4 w'/\w'.cell? ⟨w.heap.size,0,none⟩=some (.string x.nm)/\w'.cell? ⟨w.heap.size,1,none⟩=some (.slice (some ⟨b,o,none⟩) x.ps.length c)/\w'.cell? ⟨w.heap.size,2,none⟩=some (.slice (some ⟨g,q,none⟩) x.sl.length d)/\w'.cell? ⟨w.heap.size,3,none⟩=some (.string x.ad)/\w'.cell? ⟨w.heap.size,4,none⟩=some (.int .i64 x.si)/\w'.cell? ⟨w.heap.size,5,none⟩=some (.int .i64 x.st)/\w'.cell? ⟨w3.heap.size,5,none⟩=some (.int .i64 p.wi)) (first|exact AeE hS0|exact AfA hq4 hr4 (by assumption) (by assumption))
    (first
     | (go_at_call 147;refine (AdA _ _ _ _ _ _ _ _ _ _ _ H6'.out).mono ?_;rintro e w5 ⟨rfl,hb5⟩)
     | (go_at_call 263;refine (Ag3 _ _ _).mono ?_;rw[h8];rintro e w6 ⟨rfl,hb6⟩)
     | (go_at_call 148;refine (HR.out _ (And.left (by assumption))).mono ?_;rintro e w7 ⟨rfl,hb7⟩))
   rename_i hHeld;have hB5:=D5 hB04 hHeld.1;go_wp2_with fail
   go_ret
   exact⟨D6 H6.out.symm,hB5⟩
  ·have HN:Hid (pB (RbOk x)=false):=F1 λh=>h7 (by
    obtain⟨-,k5⟩:=Hw.out;rw[k5];exact⟨by have:=h.2.2.2.2.2.1;omega,h.2.2.2.2.2.2⟩)
   have h8:(decide (0<=x.si)&&decide (x.si<p.wi))=false:=by
    rw[Bool.and_eq_false_iff];simp only[decide_eq_false_iff_not];omega
   have H6':Hid (¬x.si=-1):=h6;clear h6 h7;have hS1:(λw'=>Below W4.heap.size W4 w'/\w'.cell? ⟨w.heap.size,0,none⟩=some (.string x.nm)/\w'.cell? ⟨w.heap.size,1,none⟩=some (.slice (some ⟨b,o,none⟩) x.ps.length c)/\w'.cell? ⟨w.heap.size,2,none⟩=some (.slice (some ⟨g,q,none⟩) x.sl.length d)/\w'.cell? ⟨w.heap.size,3,none⟩=some (.string x.ad)/\w'.cell? ⟨w.heap.size,4,none⟩=some (.int .i64 x.si)/\w'.cell? ⟨w.heap.size,5,none⟩=some (.int .i64 x.st)/\w'.cell? ⟨w3.heap.size,5,none⟩=some (.int .i64 p.wi)) W4.drew:=AeE hS0;clear hS0;refine F6 99 (λw'=>Below W4.heap.size W4 w'/\w'.cell? ⟨w.heap.size,0,none⟩=some (.string x.nm)/\w'.cell? ⟨w.heap.size,1,none⟩=some (.slice (some ⟨b,o,none⟩) x.ps.length c)/\w'.cell? ⟨w.heap.size,2,none⟩=some (.slice (some ⟨g,q,none⟩) x.sl.length d)/\w'.cell? ⟨w.heap.size,3,none⟩=some (.string x.ad)/\w'.cell? ⟨w.heap.size,4,none⟩=some (.int .i64 x.si)/\w'.cell? ⟨w.heap.size,5,none⟩=some (.int .i64 x.st)/\w'.cell? ⟨w3.heap.size,5,none⟩=some (.int .i64 p.wi)) (by kernel_rfl) ?_;refine tkx 0 rfl hS1 ?_;refine tkx 1 rfl hS1 ?_;refine tkx 2 rfl hS1 ?_;refine tkx 4 rfl hS1 ?_;refine tkx 5 rfl hS1 ?_;refine D7 (i:=3) (by kernel_rfl) rfl (λK hK=>?_);go_simp
   go_wp2_with (go_at_call 147;refine (AdA _ _ _ _ _ _ _ _ _ _ _ H6'.out).mono ?_;rintro e w5 ⟨rfl,hb5⟩)
   have hS2:(λw'=>Below W4.heap.size W4 w'/\w'.cell? ⟨w.heap.size,0,none⟩=some (.string x.nm)/\w'.cell? ⟨w.heap.size,1,none⟩=some (.slice (some ⟨b,o,none⟩) x.ps.length c)/\w'.cell? ⟨w.heap.size,2,none⟩=some (.slice (some ⟨g,q,none⟩) x.sl.length d)/\w'.cell? ⟨w.heap.size,3,none⟩=some (.string x.ad)/\w'.cell? ⟨w.heap.size,4,none⟩=some (.int .i64 x.si)/\w'.cell? ⟨w.heap.size,5,none⟩=some (.int .i64 x.st)/\w'.cell? ⟨w3.heap.size,5,none⟩=some (.int .i64 p.wi)) w5:=AfA hq4 hr4 hS1 hb5;refine hK.out _ _ (λ_=>hS2) ?_;clear hK K;refine D7 (i:=6) (by kernel_rfl) rfl (λK hK=>?_);go_simp
   go_wp2_with (go_at_call 263;refine (Ag3 _ _ _).mono ?_;rw[h8];rintro e w6 ⟨rfl,hb6⟩)
   have hS3:(λw'=>Below W4.heap.size W4 w'/\w'.cell? ⟨w.heap.size,0,none⟩=some (.string x.nm)/\w'.cell? ⟨w.heap.size,1,none⟩=some (.slice (some ⟨b,o,none⟩) x.ps.length c)/\w'.cell? ⟨w.heap.size,2,none⟩=some (.slice (some ⟨g,q,none⟩) x.sl.length d)/\w'.cell? ⟨w.heap.size,3,none⟩=some (.string x.ad)/\w'.cell? ⟨w.heap.size,4,none⟩=some (.int .i64 x.si)/\w'.cell? ⟨w.heap.size,5,none⟩=some (.int .i64 x.st)/\w'.cell? ⟨w3.heap.size,5,none⟩=some (.int .i64 p.wi)) w6:=AfA hq4 hr4 hS2 hb6;refine hK.out _ _ (λ_=>hS3) ?_;clear hK K;refine tkx 7 rfl hS3 ?_;refine tkx 8 rfl hS3 ?_;refine skx 9 rfl hS3 ?_;refine skx 10 rfl hS3 ?_;refine skx 11 rfl hS3 ?_;refine skx 12 rfl hS3 ?_;refine skx 13 rfl hS3 ?_;refine tkx 14 rfl hS3 ?_;refine D7 (i:=15) (by kernel_rfl) rfl (λK hK=>?_);go_simp
   refine hK.out _ _ (λ_=>hS3) ?_;clear hK K;refine F0 (by kernel_rfl) ?_ _;have hB5:=D5 hB04 hS3.1;clear hS1 hS2 hS3 h8 h5;go_wp2_with fail
   go_ret
   exact⟨D6 HN.out.symm,hB5⟩
end Go.Proofs.YtgecdacgmehmbaaGreatDoor
