/- The walks over recipes: ok or not, by the specification. -/
import Derived.Test.YtaffjphkobhagaaGreatDoorJ6
import Derived.Test.YtaffjphkobhagaaGreatDoorJ10
import Derived.Test.YtaffjphkobhagaaGreatDoorJ14
namespace Go.Proofs.YtaffjphkobhagaaGreatDoor
open Proofs.Tryz
open Go.RowKit
variable{b o:Nat}{x0 x1 x2 x3 x4 x5 x6 x7:Value}{W w0:World}
set_option maxHeartbeats 4000000 in
theorem Fl(ps:List Ph)(b o c:Nat)(w:World)(hr:G4 w b o ps)(hb:b<w.heap.size)(hs:Dz ps)(hn:ps.length<=1048576):
  cU prog 70 #[Sx b o ps.length c] w (.bool (M3 ps)):=by
 by_cases hl:1<=ps.length/\ps.length<=12
 case neg =>
  have h2:U7 ps.length 1 12=false:=(Ey _ _ _).2 oM;delta cU;go_in;go_wp2_with (go_at_call 31;refine Swz (I5 _ _ _ _) ?_)
  go_ret;exact⟨D4 (LR ps hl).symm,A4 _ _⟩
 have h2:U7 ps.length 1 12=true:=(AX _ _ _).2 oM;have Hl:Hid (1<=ps.length/\ps.length<=12):=hl;clear hl;delta cU;go_in;go_wp2_with (go_at_call 31;refine Swz (I5 _ _ _ _) ?_)
 (try dsimp only[Iz,Sy,Sx,Nz,Vz,Tz,Ez,Pz]);go_loopw [3] (λi w'=>∃k:Nat,k<=ps.length/\i=.int .i64 k/\Ja ps k/\Up w w') (λi _=>ps.length-(intOf i).toNat)
 case atStart=>exact⟨0,oM,rfl,YJ ps,A4 _ _⟩
 case round =>
  obtain⟨k,hk,rfl,a4,hB⟩:=hrel;have Hal:Hid (Ja ps k):=a4;clear a4;by_cases hp:k<ps.length
  .obtain⟨c0,c1,c2,c3,c4,c5,c6,c7⟩:=hr.cells k hp;obtain⟨z0,z1,z2,z3,z4⟩:=hs ps[k] dC;obtain⟨hc,hf⟩:=E2 hB;have Hno:Hid (AQ ps k ps[k]=false->M3 ps=false):=Abf ps k hp;have Hyes:Hid (AQ ps k ps[k]=true->Ja ps (k+1)):=YH Hal.out hp;cases h1:O7 (ps[k]).nm (ps[k]).k (ps[k]).a (ps[k]).b (ps[k]).n (ps[k]).wi (ps[k]).t (ps[k]).e
   .go_wp2_with (first|(go_at_call 31;refine Swz (I5 _ _ _ _) ?_)|(go_at_call 123;refine (Q6 _ _ _ _ _ _ _ _ _ z0 z1 z2 z3 z4).mono ?_;rintro e w1 ⟨rfl,a0⟩;obtain⟨hB,hc,hf⟩:=gr a0)|(go_at_call 72;refine Swz (Y7 _ _ _ _ _ _ (hr.up hB hb) hn) ?_)|(go_at_call 124;refine Swz (S7 _ _) ?_))
    go_ret;exact⟨D4 (Hno.out (by simp[AQ,Ph.okB,h1])).symm,hB⟩
   have H1:Hid ((ps[k]).okB=true):=h1;cases h3:(M6 ps (ps[k]).nm != (k:Int))
   case true =>
    have H3:Hid ((M6 ps (ps[k]).nm==(k:Int))=false):=by show _=_;simpa [bne] using h3
    go_wp2_with (first|(go_at_call 31;refine Swz (I5 _ _ _ _) ?_)|(go_at_call 123;refine (Q6 _ _ _ _ _ _ _ _ _ z0 z1 z2 z3 z4).mono ?_;rintro e w1 ⟨rfl,a0⟩;obtain⟨hB,hc,hf⟩:=gr a0)|(go_at_call 72;refine Swz (Y7 _ _ _ _ _ _ (hr.up hB hb) hn) ?_)|(go_at_call 124;refine Swz (S7 _ _) ?_))
    go_ret;exact⟨D4 (Hno.out (by simp[AQ,H3.out])).symm,hB⟩
   have H3:Hid ((M6 ps (ps[k]).nm==(k:Int))=true):=by show _=_;simpa [bne] using h3
   by_cases h4:(K1 (ps[k]).t==0)=true/\M6 ps (ps[k]).t<=(k:Int)
   case pos =>
    have H4:Hid (AQ ps k ps[k]=false):=by show _=_;simp[AQ,h4]
    obtain⟨a1,a2⟩:=h4;go_wp2_with (first|(go_at_call 31;refine Swz (I5 _ _ _ _) ?_)|(go_at_call 123;refine (Q6 _ _ _ _ _ _ _ _ _ z0 z1 z2 z3 z4).mono ?_;rintro e w1 ⟨rfl,a0⟩;obtain⟨hB,hc,hf⟩:=gr a0)|(go_at_call 72;refine Swz (Y7 _ _ _ _ _ _ (hr.up hB hb) hn) ?_)|(go_at_call 124;refine Swz (S7 _ _) ?_))
    go_ret;exact⟨D4 (Hno.out H4.out).symm,hB⟩
   have H4:Hid ((!(K1 (ps[k]).t==0&&decide (M6 ps (ps[k]).t<=(k:Int))))=true):=UZ h4;by_cases h5:(K1 (ps[k]).e==0)=true/\M6 ps (ps[k]).e<=(k:Int)
   case pos =>
    have H5:Hid (AQ ps k ps[k]=false):=by show _=_;simp[AQ,h5]
    obtain⟨a3,a5⟩:=h5;cases a1:(K1 (ps[k]).t==0)
    .clear h4;go_wp2_with (first|(go_at_call 31;refine Swz (I5 _ _ _ _) ?_)|(go_at_call 123;refine (Q6 _ _ _ _ _ _ _ _ _ z0 z1 z2 z3 z4).mono ?_;rintro e w1 ⟨rfl,a0⟩;obtain⟨hB,hc,hf⟩:=gr a0)|(go_at_call 72;refine Swz (Y7 _ _ _ _ _ _ (hr.up hB hb) hn) ?_)|(go_at_call 124;refine Swz (S7 _ _) ?_))
     go_ret;exact⟨D4 (Hno.out H5.out).symm,hB⟩
    .have a2:(k:Int)<M6 ps (ps[k]).t:=by
      rw[a1] at h4;simpa using h4
     clear h4;go_wp2_with (first|(go_at_call 31;refine Swz (I5 _ _ _ _) ?_)|(go_at_call 123;refine (Q6 _ _ _ _ _ _ _ _ _ z0 z1 z2 z3 z4).mono ?_;rintro e w1 ⟨rfl,a0⟩;obtain⟨hB,hc,hf⟩:=gr a0)|(go_at_call 72;refine Swz (Y7 _ _ _ _ _ _ (hr.up hB hb) hn) ?_)|(go_at_call 124;refine Swz (S7 _ _) ?_))
     go_ret;exact⟨D4 (Hno.out H5.out).symm,hB⟩
   have H5:Hid (AQ ps k ps[k]=true):=by
    show _=_
    have e5:(!(K1 (ps[k]).e==0&&decide (M6 ps (ps[k]).e<=(k:Int))))=true:=UZ h5;simp only[AQ,H1.out,H3.out,H4.out,e5,Bool.and_self]
   cases a1:(K1 (ps[k]).t==0)<;>cases a3:(K1 (ps[k]).e==0)
   .clear h4 h5;go_wp2_with (first|(go_at_call 31;refine Swz (I5 _ _ _ _) ?_)|(go_at_call 123;refine (Q6 _ _ _ _ _ _ _ _ _ z0 z1 z2 z3 z4).mono ?_;rintro e w1 ⟨rfl,a0⟩;obtain⟨hB,hc,hf⟩:=gr a0)|(go_at_call 72;refine Swz (Y7 _ _ _ _ _ _ (hr.up hB hb) hn) ?_)|(go_at_call 124;refine Swz (S7 _ _) ?_))
    go_roundw
    case rel=>exact⟨k+1,oM,mO,Hyes.out H5.out,hB⟩
    case measure=>simp[intOf];omega
   .have a5:(k:Int)<M6 ps (ps[k]).e:=by
     rw[a3] at h5;simpa using h5
    clear h4 h5;go_wp2_with (first|(go_at_call 31;refine Swz (I5 _ _ _ _) ?_)|(go_at_call 123;refine (Q6 _ _ _ _ _ _ _ _ _ z0 z1 z2 z3 z4).mono ?_;rintro e w1 ⟨rfl,a0⟩;obtain⟨hB,hc,hf⟩:=gr a0)|(go_at_call 72;refine Swz (Y7 _ _ _ _ _ _ (hr.up hB hb) hn) ?_)|(go_at_call 124;refine Swz (S7 _ _) ?_))
    go_roundw
    case rel=>exact⟨k+1,oM,mO,Hyes.out H5.out,hB⟩
    case measure=>simp[intOf];omega
   .have a2:(k:Int)<M6 ps (ps[k]).t:=by
     rw[a1] at h4;simpa using h4
    clear h4 h5;go_wp2_with (first|(go_at_call 31;refine Swz (I5 _ _ _ _) ?_)|(go_at_call 123;refine (Q6 _ _ _ _ _ _ _ _ _ z0 z1 z2 z3 z4).mono ?_;rintro e w1 ⟨rfl,a0⟩;obtain⟨hB,hc,hf⟩:=gr a0)|(go_at_call 72;refine Swz (Y7 _ _ _ _ _ _ (hr.up hB hb) hn) ?_)|(go_at_call 124;refine Swz (S7 _ _) ?_))
    go_roundw
    case rel=>exact⟨k+1,oM,mO,Hyes.out H5.out,hB⟩
    case measure=>simp[intOf];omega
   .have a2:(k:Int)<M6 ps (ps[k]).t:=by
     rw[a1] at h4;simpa using h4
    have a5:(k:Int)<M6 ps (ps[k]).e:=by
     rw[a3] at h5;simpa using h5
    clear h4 h5;go_wp2_with (first|(go_at_call 31;refine Swz (I5 _ _ _ _) ?_)|(go_at_call 123;refine (Q6 _ _ _ _ _ _ _ _ _ z0 z1 z2 z3 z4).mono ?_;rintro e w1 ⟨rfl,a0⟩;obtain⟨hB,hc,hf⟩:=gr a0)|(go_at_call 72;refine Swz (Y7 _ _ _ _ _ _ (hr.up hB hb) hn) ?_)|(go_at_call 124;refine Swz (S7 _ _) ?_))
    go_roundw
    case rel=>exact⟨k+1,oM,mO,Hyes.out H5.out,hB⟩
    case measure=>simp[intOf];omega
  .go_wp2;go_ret;exact⟨D4 (YL ps k Hl.out hk hp Hal.out).symm,hB⟩
theorem Lg(w:World):R9 (w.alloc (Kz [] 9)) (Sy w.heap.size 0 0) [] :=
 ⟨w.heap.size,0,rfl,λi s hs=>by simp at hs,dC,dC,by unfold maxLen;omega⟩
theorem AdY(h:Up W w0/\AS w0 b o x0/\AS w0 b (o+1) x1/\AS w0 b (o+2) x2/\AS w0 b (o+3) x3/\AS w0 b (o+4) x4/\AS w0 b (o+5) x5/\AS w0 b (o+6) x6/\AS w0 b (o+7) x7):Up W w0.drew/\w0.drew.cell? ⟨b,o,none⟩=some x0/\w0.drew.cell? ⟨b,o+1,none⟩=some x1/\w0.drew.cell? ⟨b,o+2,none⟩=some x2/\w0.drew.cell? ⟨b,o+3,none⟩=some x3/\w0.drew.cell? ⟨b,o+4,none⟩=some x4/\w0.drew.cell? ⟨b,o+5,none⟩=some x5/\w0.drew.cell? ⟨b,o+6,none⟩=some x6/\w0.drew.cell? ⟨b,o+7,none⟩=some x7 :=
 ⟨h.1.drew,h.2⟩
theorem AgV{w1:World}(hb:b<W.heap.size)(h:Up W w0/\AS w0 b o x0/\AS w0 b (o+1) x1/\AS w0 b (o+2) x2/\AS w0 b (o+3) x3/\AS w0 b (o+4) x4/\AS w0 b (o+5) x5/\AS w0 b (o+6) x6/\AS w0 b (o+7) x7)(hB:Up w0 w1):Up W w1/\AS w1 b o x0/\AS w1 b (o+1) x1/\AS w1 b (o+2) x2/\AS w1 b (o+3) x3/\AS w1 b (o+4) x4/\AS w1 b (o+5) x5/\AS w1 b (o+6) x6/\AS w1 b (o+7) x7:=by
 obtain⟨h1,a0,a1,a2,a3,a4,a5,a6,a7⟩:=h;have hl:b<w0.heap.size:=A1 hb h1.size;exact⟨D3 h1 hB,(hB.cell (p:=⟨b,o,none⟩) hl).trans a0,(hB.cell (p:=⟨b,o+1,none⟩) hl).trans a1,(hB.cell (p:=⟨b,o+2,none⟩) hl).trans a2,(hB.cell (p:=⟨b,o+3,none⟩) hl).trans a3,(hB.cell (p:=⟨b,o+4,none⟩) hl).trans a4,(hB.cell (p:=⟨b,o+5,none⟩) hl).trans a5,(hB.cell (p:=⟨b,o+6,none⟩) hl).trans a6,(hB.cell (p:=⟨b,o+7,none⟩) hl).trans a7⟩
set_option maxHeartbeats 4000000 in
theorem LC(ps:List Ph)(b o c:Nat)(hok:M3 ps=true)(f:Nat):∀(nm:BA)(w:World),G4 w b o ps->b<w.heap.size->(M6 ps nm<0\/(ps.length:Int)<M6 ps nm+f)->
  Calls prog 125 #[Sx b o ps.length c,Tz nm] w λe w'=>(∃u,e=.returned u/\R9 w' u (Y3 ps nm))/\Up w w':=by
 have b8:ps.length<=12:=((J2 ps).1 hok).2.1;have hn:ps.length<=1048576:=oM
 have a0:∀nm,(Y3 ps nm).length<=24:=λnm=>by have:=Ip ps nm;omega
 have a1:∀nm w,M6 ps nm<0->G4 w b o ps->Calls prog 125 #[Sx b o ps.length c,Tz nm] w λe w'=>(∃u,e=.returned u/\R9 w' u (Y3 ps nm))/\Up w w':=by
  intro nm w h0 hr
  have hv:Y3 ps nm=[]:=by
   unfold Y3;rw[NU ps _ _ _ nm h0];split<;>rfl
  have HV:Hid (Y3 ps nm=[]):=hv;clear hv a0;go_in;go_wp2_with (go_at_call 72;refine Swz (Y7 _ _ _ _ _ _ hr hn) ?_)
  go_ret;exact⟨⟨_,rfl,by rw[HV.out];exact Lg w⟩,(A4 _ _).alloc (A3 _) _⟩
 induction f with
 | zero =>
  intro nm w hr hb hf;have a6:=MB ps nm;exact a1 nm w oM hr
 | succ f ih =>
  intro nm w hr hb hf;have a6:=MB ps nm;by_cases h0:M6 ps nm<0
  .exact a1 nm w h0 hr
  .obtain⟨k,a5⟩:∃k:Nat,M6 ps nm=(k:Int):=⟨(M6 ps nm).toNat,oM⟩;have hk:k<ps.length:=oM
   obtain⟨g1,g2⟩:=NT hok hk;have HV:Hid (Y3 ps nm=T1 (T1 (Dm ps[k]) (Y3 ps (ps[k]).t)) (Y3 ps (ps[k]).e)):=QU hok _ _ _ nm hk a5
   have I1:Hid (∀w,G4 w b o ps->b<w.heap.size->Calls prog 125 #[Sx b o ps.length c,Tz (ps[k]).t] w λe w'=>(∃u,e=.returned u/\R9 w' u (Y3 ps (ps[k]).t))/\Up w w'):=by
    show _;intro w hr hb;exact ih _ w hr hb (by have:=Gx hok hk _ g1;omega)
   have I2:Hid (∀w,G4 w b o ps->b<w.heap.size->Calls prog 125 #[Sx b o ps.length c,Tz (ps[k]).e] w λe w'=>(∃u,e=.returned u/\R9 w' u (Y3 ps (ps[k]).e))/\Up w w'):=by
    show _;intro w hr hb;exact ih _ w hr hb (by have:=Gx hok hk _ g2;omega)
   obtain⟨c0,c1,c2,c3,c4,c5,c6,c7⟩:=hr.cells k hk
   have HH5:Hid (∀w,G4 w b o ps->Calls prog 72 #[Sx b o ps.length c,Tz nm] w λe w'=>e=.returned (Iz (k:Int))/\w'=w):=by
    show _;intro w hr;rw[← a5];exact Y7 _ _ _ _ _ _ hr hn
   have b9:=a0 (ps[k]).t;have c8:=a0 (ps[k]).e
   have c9:(Dm ps[k]).length<=2:=by
    unfold Dm;split
    .have:=LN [(ps[k]).a] (ps[k]).b;simpa using this
    .simp
   clear a5 hf a6 ih h0 a1 a0 g1 g2;generalize ps[k]=p at *;go_in;go_wp2_with fail;refine Swz (HH5.out _ hr) ?_;go_wp2_with fail;have a7:Up w w/\AS w b (o+k*8) (Tz p.nm)/\AS w b (o+k*8+1) (Iz p.k)/\AS w b (o+k*8+2) (Tz p.a)/\AS w b (o+k*8+3) (Tz p.b)/\AS w b (o+k*8+4) (Iz p.n)/\AS w b (o+k*8+5) (Iz p.wi)/\AS w b (o+k*8+6) (Tz p.t)/\AS w b (o+k*8+7) (Tz p.e):=⟨A4 _ _,c0,c1,c2,c3,c4,c5,c6,c7⟩;clear c0 c1 c2 c3 c4 c5 c6 c7;have Hr:Hid (G4 w b o ps):=hr;clear hr
   go_region_held (λw'=>Up w w'/\AS w' b (o+k*8) (Tz p.nm)/\AS w' b (o+k*8+1) (Iz p.k)/\AS w' b (o+k*8+2) (Tz p.a)/\AS w' b (o+k*8+3) (Tz p.b)/\AS w' b (o+k*8+4) (Iz p.n)/\AS w' b (o+k*8+5) (Iz p.wi)/\AS w' b (o+k*8+6) (Tz p.t)/\AS w' b (o+k*8+7) (Tz p.e)) (first|exact AdY a7|exact AgV hb sO sO)
    (first
     | (go_at_call 128;refine (VE p _).mono ?_;rintro e w1 ⟨⟨u1,rfl,a8⟩,b4⟩)
     | (go_at_call_of 125 (Value.string p.t);refine (I1.out _ (Hr.out.up (And.left sO) hb) (A1 hb (Below.size (And.left sO)))).mono ?_;rintro e w2 ⟨⟨u2,rfl,a9⟩,b0⟩;have a2:=a8.up b0)
     | (go_at_call_of 125 (Value.string p.e);refine (I2.out _ (Hr.out.up (And.left sO) hb) (A1 hb (Below.size (And.left sO)))).mono ?_;rintro e w4 ⟨⟨u4,rfl,a4⟩,b1⟩;have a3:=b2.up b1)
     | (go_at_call 165;revert a4;intro a4;refine (So _ _ u3 u4 _ a3 a4 (by have:=Gv (Dm p) (Y3 ps p.t);omega)).mono ?_;rintro e w5 ⟨⟨u5,rfl,b5⟩,b6⟩)
     | (go_at_call 165;refine (So _ _ u1 u2 _ a2 a9 oM).mono ?_;rintro e w3 ⟨⟨u3,rfl,b2⟩,b7⟩))
   rename_i hHeld;have b3:=hHeld.1;clear hHeld b4 b0 b7 b1 b6 a8 a9 b2 a4 a2 a3 a7;go_wp2_with fail;go_ret;exact⟨⟨_,rfl,by rw[HV.out];exact b5⟩,b3⟩
end Go.Proofs.YtaffjphkobhagaaGreatDoor
