/- What the row's list gives: the errors package's handle of the type error and the table of the ends' names; a world for the witness. -/
import Derived.Test.YtgecdacgmehmbaaGreatDoorJ21
import Derived.Test.YtgecdacgmehmbaaGreatDoorJ22
import Derived.Test.YtgecdacgmehmbaaGreatDoorJ12
import Derived.Test.YtgecdacgmehmbaaGreatDoorJ2
import Derived.Test.YtgecdacgmehmbaaGreatDoorJ10
import Derived.Deep.RegionWith
import Derived.Deep.RegionHeld
set_option maxHeartbeats 4000000
namespace Go.Proofs.YtgecdacgmehmbaaGreatDoor
open Go.ChangeShapes Go.WideShapes Go.ChangeAt Go.RowKit
theorem Ag8 {W:World} (h:laidMetH Tryz.prog [("errors.errorType",Rows.laid_errors_errorType),("loop.example/maltrun/impl.recEndNames",Rows.laid_loop_example_maltrun_impl_recEndNames)] W):Ends W/\ErrT W:=by
 have h':laidMet Tryz.prog [("loop.example/maltrun/impl.recEndNames",Rows.laid_loop_example_maltrun_impl_recEndNames)] W/\handlesMet Tryz.prog [("errors.errorType",Rows.laid_errors_errorType)] W:=h;have h2:laidMet Tryz.prog [] W/\handlesMet Tryz.prog [("errors.errorType",Rows.laid_errors_errorType)] W:=⟨laidMet_nil _ _,h'.2⟩;exact⟨Ends.of_laid h'.1,ErrT.of_laid h2⟩
noncomputable def laidWorldB (os:Os):World :=
 {laidWorld os with heap:=(laidWorld os).heap.modify 0 fun
   | .cells _ t frozen=>.cells #[(Value.iface 187 (.agg #[(Value.pointer (some ⟨2,86,none⟩))]))] t frozen
   | o=>o}
theorem AkH (os:Os) (args:Array Value):laidMetH Tryz.prog [("errors.errorType",Rows.laid_errors_errorType),("loop.example/maltrun/impl.recEndNames",Rows.laid_loop_example_maltrun_impl_recEndNames)] ((laidWorldB os).forCall (λ_ _=>0) ⟨#[],args,[]⟩).memory :=
 laidMetH_of_parts (laidMet_of_run (ps:=[.cell 1 0,.cell 1 1,.cell 1 2]) 8 (by kernel_rfl) (by kernel_rfl) (by kernel_rfl)) (by kernel_rfl)
end Go.Proofs.YtgecdacgmehmbaaGreatDoor
namespace Go.Proofs.YtgecdacgmehmbaaGreatDoor
open Go.RowKit
theorem Ag9 (a b:List ByteArray) (va vb:Value) (w:World) (ha:Txt w va a) (hb:Txt w vb b) (hn:a.length+b.length<=900) :
  Calls Tryz.prog 103 #[va,vb] w λe w'=>(∃u,e=.returned u/\Txt w' u (bothL a b))/\Below w.heap.size w w':=by
 have hb':=hb;obtain⟨g,c,rfl,hS,hg,hc,hc9⟩:=hb;go_enter Tryz.func103,Tryz.ntmps103
 go_wp2_with fail
 go_loopw [0,5] (λu i w'=>∃k:Nat,k<=b.length/\i=.int .i64 k/\Txt w' u (bothL a (b.take k))/\Below w.heap.size w w') (λ_ i _=>b.length-(intOf i).toNat)
 case atStart=>exact⟨0,by omega,rfl,by simpa [bothL] using ha,A4 _ _⟩
 case round =>
  obtain⟨k,hk,rfl,hT,hB⟩:=hrel;by_cases hp:k<b.length
  ·have c0:=(hB.cell (p:=⟨g,0+k,none⟩) hg).trans (hS k b[k] (by simp[hp]))
   simp only[Nat.zero_add] at c0;have hl:=Abe a (b.take k);rw[B6] at hl;go_wp2_with fail
   refine (Acc (bothL a (b.take k)) _ b[k] _ hT (by omega)).mono ?_;rintro e w1 ⟨⟨u,rfl,hT1⟩,hB1⟩;have hB2:=D5 hB hB1;rw[← Ai7 a b k hp] at hT1;clear hB hB1 hT c0;go_wp2_with fail
   go_roundw
   case rel=>exact⟨k+1,by omega,by go_num,hT1,hB2⟩
   case measure=>simp[intOf];omega
  ·go_wp2_with fail
   go_ret
   exact⟨⟨_,rfl,by rw[D2 (by omega)] at hT;exact hT⟩,hB⟩
theorem AmZ (w:World) (s:ByteArray):Txt (w.alloc (.cells #[.string s] 9)) (.slice (some ⟨w.heap.size,0,none⟩) 1 1) [s] :=
 ⟨w.heap.size,1,rfl,Ac8 w [s] 9,by simp,by simp,by unfold maxLen;omega⟩
theorem Ais (p:Ph) (w:World) :
  Calls Tryz.prog 104 #[.agg #[.string p.nm,.int .i64 p.k,.string p.a,.string p.b,.int .i64 p.n,.int .i64 p.wi,.string p.t,.string p.e]] w λe w'=>(∃u,e=.returned u/\Txt w' u (ofL p))/\Below w.heap.size w w':=by
 obtain⟨pn,pk,pa,pb,pm,pw,pt,pe⟩:=p;simp only;have hB0:Below w.heap.size w (w.alloc (.cells #[.string pn,.int .i64 pk,.string pa,.string pb,.int .i64 pm,.int .i64 pw,.string pt,.string pe] 73)):=(A4 _ _).alloc (A3 _) _;have hT0:=AmZ (w.alloc (.cells #[.string pn,.int .i64 pk,.string pa,.string pb,.int .i64 pm,.int .i64 pw,.string pt,.string pe] 73)) pa;have hB1:=D5 hB0 ((A4 _ _).alloc (A3 _) (.cells #[.string pa] 9));rw[show (w.alloc (.cells #[.string pn,.int .i64 pk,.string pa,.string pb,.int .i64 pm,.int .i64 pw,.string pt,.string pe] 73)).heap.size=w.heap.size+1 by simp] at hT0;by_cases hk:pk=2
 ·subst hk
  go_enter Tryz.func104,Tryz.ntmps104
  go_wp2_with fail
  refine (Acc [pa] _ pb _ hT0 (by simp)).mono ?_;rintro e w1 ⟨⟨u,rfl,hT1⟩,hb1⟩;have hB2:=D5 hB1 hb1;clear hB0 hB1 hb1 hT0;go_wp2_with fail
  go_ret
  exact⟨⟨_,rfl,hT1⟩,hB2⟩
 ·have hk2:(pk==2)=false:=by simpa using hk
  have Ho:Hid (ofL ⟨pn,pk,pa,pb,pm,pw,pt,pe⟩=[pa]):=by show _=_;rw[ofL,if_neg hk]
  go_enter Tryz.func104,Tryz.ntmps104
  go_wp2_with fail
  go_ret
  exact⟨⟨_,rfl,by rw[Ho.out];exact hT0⟩,hB1⟩
theorem AcY (w:World):Txt (w.alloc (.cells #[] 9)) (.slice (some ⟨w.heap.size,0,none⟩) 0 0) [] :=
 ⟨w.heap.size,0,rfl,λi s hs=>by simp at hs,by simp,by simp,by unfold maxLen;omega⟩
theorem Ana {W w0:World} {b o:Nat} {x0 x1 x2 x3 x4 x5 x6 x7:Value} (h:Below W.heap.size W w0/\w0.cell? ⟨b,o,none⟩=some x0/\w0.cell? ⟨b,o+1,none⟩=some x1/\w0.cell? ⟨b,o+2,none⟩=some x2/\w0.cell? ⟨b,o+3,none⟩=some x3/\w0.cell? ⟨b,o+4,none⟩=some x4/\w0.cell? ⟨b,o+5,none⟩=some x5/\w0.cell? ⟨b,o+6,none⟩=some x6/\w0.cell? ⟨b,o+7,none⟩=some x7):Below W.heap.size W w0.drew/\w0.drew.cell? ⟨b,o,none⟩=some x0/\w0.drew.cell? ⟨b,o+1,none⟩=some x1/\w0.drew.cell? ⟨b,o+2,none⟩=some x2/\w0.drew.cell? ⟨b,o+3,none⟩=some x3/\w0.drew.cell? ⟨b,o+4,none⟩=some x4/\w0.drew.cell? ⟨b,o+5,none⟩=some x5/\w0.drew.cell? ⟨b,o+6,none⟩=some x6/\w0.drew.cell? ⟨b,o+7,none⟩=some x7 :=
 ⟨h.1.drew,h.2⟩
theorem hp_up {W w0 w1:World} {b o:Nat} {x0 x1 x2 x3 x4 x5 x6 x7:Value} (hb:b<W.heap.size) (h:Below W.heap.size W w0/\w0.cell? ⟨b,o,none⟩=some x0/\w0.cell? ⟨b,o+1,none⟩=some x1/\w0.cell? ⟨b,o+2,none⟩=some x2/\w0.cell? ⟨b,o+3,none⟩=some x3/\w0.cell? ⟨b,o+4,none⟩=some x4/\w0.cell? ⟨b,o+5,none⟩=some x5/\w0.cell? ⟨b,o+6,none⟩=some x6/\w0.cell? ⟨b,o+7,none⟩=some x7) (hB:Below w0.heap.size w0 w1):Below W.heap.size W w1/\w1.cell? ⟨b,o,none⟩=some x0/\w1.cell? ⟨b,o+1,none⟩=some x1/\w1.cell? ⟨b,o+2,none⟩=some x2/\w1.cell? ⟨b,o+3,none⟩=some x3/\w1.cell? ⟨b,o+4,none⟩=some x4/\w1.cell? ⟨b,o+5,none⟩=some x5/\w1.cell? ⟨b,o+6,none⟩=some x6/\w1.cell? ⟨b,o+7,none⟩=some x7:=by
 obtain⟨h1,a0,a1,a2,a3,a4,a5,a6,a7⟩:=h;have hl:b<w0.heap.size:=A1 hb h1.size;exact⟨D5 h1 hB,(hB.cell (p:=⟨b,o,none⟩) hl).trans a0,(hB.cell (p:=⟨b,o+1,none⟩) hl).trans a1,(hB.cell (p:=⟨b,o+2,none⟩) hl).trans a2,(hB.cell (p:=⟨b,o+3,none⟩) hl).trans a3,(hB.cell (p:=⟨b,o+4,none⟩) hl).trans a4,(hB.cell (p:=⟨b,o+5,none⟩) hl).trans a5,(hB.cell (p:=⟨b,o+6,none⟩) hl).trans a6,(hB.cell (p:=⟨b,o+7,none⟩) hl).trans a7⟩
theorem Adk (ps:List Ph) (b o c:Nat) (hok:recB ps=true) (f:Nat):∀(nm:ByteArray) (w:World),RecAt w b o ps->b<w.heap.size->(atI ps nm<0∨(ps.length:Int)<atI ps nm+f)->
  Calls Tryz.prog 67 #[.slice (some ⟨b,o,none⟩) ps.length c,.string nm] w λe w'=>(∃u,e=.returned u/\Txt w' u (slE ps nm))/\Below w.heap.size w w':=by
 have h12:ps.length<=12:=((I4 ps).1 hok).2.1;have hn:ps.length<=1048576:=by omega
 have hlen:∀nm,(slE ps nm).length<=24:=λnm=>by have:=Aap ps nm;omega
 have hout:∀nm w,atI ps nm<0->RecAt w b o ps->Calls Tryz.prog 67 #[.slice (some ⟨b,o,none⟩) ps.length c,.string nm] w λe w'=>(∃u,e=.returned u/\Txt w' u (slE ps nm))/\Below w.heap.size w w':=by
  intro nm w h0 hr
  have hv:slE ps nm=[]:=by
   unfold slE;rw[AmE ps _ _ _ nm h0];split<;>rfl
  have HV:Hid (slE ps nm=[]):=hv;clear hv hlen;go_enter Tryz.func67,Tryz.ntmps67
  go_wp2_with (go_at_call 65;refine (O8 _ _ _ _ _ _ hr hn).mono ?_;rintro e w' ⟨rfl,hw⟩;obtain rfl:=hw.symm;clear hw)
  go_ret
  exact⟨⟨_,rfl,by rw[HV.out];exact AcY w⟩,(A4 _ _).alloc (A3 _) _⟩
 induction f with
 | zero =>
  intro nm w hr hb hf;have hlt:=Ako ps nm;exact hout nm w (by omega) hr
 | succ f ih =>
  intro nm w hr hb hf;have hlt:=Ako ps nm;by_cases h0:atI ps nm<0
  ·exact hout nm w h0 hr
  ·obtain⟨k,hka⟩:∃k:Nat,atI ps nm=(k:Int):=⟨(atI ps nm).toNat,by omega⟩
   have hk:k<ps.length:=by omega
   obtain⟨g1,g2⟩:=Aib hok hk;have HV:Hid (slE ps nm=bothL (bothL (ofL ps[k]) (slE ps (ps[k]).t)) (slE ps (ps[k]).e)):=AfZ hok _ _ _ nm hk hka
   have I1:Hid (∀w,RecAt w b o ps->b<w.heap.size->Calls Tryz.prog 67 #[.slice (some ⟨b,o,none⟩) ps.length c,.string (ps[k]).t] w λe w'=>(∃u,e=.returned u/\Txt w' u (slE ps (ps[k]).t))/\Below w.heap.size w w'):=by
    show _;intro w hr hb;exact ih _ w hr hb (by have:=AeS hok hk _ g1;omega)
   have I2:Hid (∀w,RecAt w b o ps->b<w.heap.size->Calls Tryz.prog 67 #[.slice (some ⟨b,o,none⟩) ps.length c,.string (ps[k]).e] w λe w'=>(∃u,e=.returned u/\Txt w' u (slE ps (ps[k]).e))/\Below w.heap.size w w'):=by
    show _;intro w hr hb;exact ih _ w hr hb (by have:=AeS hok hk _ g2;omega)
   obtain⟨c0,c1,c2,c3,c4,c5,c6,c7⟩:=hr.cells k hk
   have HH5:Hid (∀w,RecAt w b o ps->Calls Tryz.prog 65 #[.slice (some ⟨b,o,none⟩) ps.length c,.string nm] w λe w'=>e=.returned (.int .i64 (k:Int))/\w'=w):=by
    show _;intro w hr;rw[← hka];exact O8 _ _ _ _ _ _ hr hn
   have hl1:=hlen (ps[k]).t;have hl2:=hlen (ps[k]).e
   have hl0:(ofL ps[k]).length<=2:=by
    unfold ofL;split
    ·have:=AbH [(ps[k]).a] (ps[k]).b;simpa using this
    ·simp
   clear hka hf hlt ih h0 hout hlen g1 g2;generalize ps[k]=p at *;go_enter Tryz.func67,Tryz.ntmps67
   go_wp2_with fail
   refine (HH5.out _ hr).mono ?_;rintro e w' ⟨rfl,hw⟩;obtain rfl:=hw.symm;clear hw;go_wp2_with fail
   have hS0:Below w.heap.size w w/\w.cell? ⟨b,o+k*8,none⟩=some (.string p.nm)/\w.cell? ⟨b,o+k*8+1,none⟩=some (.int .i64 p.k)/\w.cell? ⟨b,o+k*8+2,none⟩=some (.string p.a)/\w.cell? ⟨b,o+k*8+3,none⟩=some (.string p.b)/\w.cell? ⟨b,o+k*8+4,none⟩=some (.int .i64 p.n)/\w.cell? ⟨b,o+k*8+5,none⟩=some (.int .i64 p.wi)/\w.cell? ⟨b,o+k*8+6,none⟩=some (.string p.t)/\w.cell? ⟨b,o+k*8+7,none⟩=some (.string p.e):=⟨A4 _ _,c0,c1,c2,c3,c4,c5,c6,c7⟩;clear c0 c1 c2 c3 c4 c5 c6 c7;have Hr:Hid (RecAt w b o ps):=hr;clear hr
   go_region_held (λw'=>Below w.heap.size w w'/\w'.cell? ⟨b,o+k*8,none⟩=some (.string p.nm)/\w'.cell? ⟨b,o+k*8+1,none⟩=some (.int .i64 p.k)/\w'.cell? ⟨b,o+k*8+2,none⟩=some (.string p.a)/\w'.cell? ⟨b,o+k*8+3,none⟩=some (.string p.b)/\w'.cell? ⟨b,o+k*8+4,none⟩=some (.int .i64 p.n)/\w'.cell? ⟨b,o+k*8+5,none⟩=some (.int .i64 p.wi)/\w'.cell? ⟨b,o+k*8+6,none⟩=some (.string p.t)/\w'.cell? ⟨b,o+k*8+7,none⟩=some (.string p.e)) (first|exact Ana hS0|exact hp_up hb (by assumption) (by assumption))
    (first
     | (go_at_call 104;refine (Ais p _).mono ?_;rintro e w1 ⟨⟨u1,rfl,hT1⟩,hb1⟩)
     | (go_at_call_of 67 (Value.string p.t);refine (I1.out _ (Hr.out.up (And.left (by assumption)) hb) (A1 hb (Below.size (And.left (by assumption))))).mono ?_;rintro e w2 ⟨⟨u2,rfl,hT2⟩,hb2⟩;have hT1':=hT1.up hb2)
     | (go_at_call_of 67 (Value.string p.e);refine (I2.out _ (Hr.out.up (And.left (by assumption)) hb) (A1 hb (Below.size (And.left (by assumption))))).mono ?_;rintro e w4 ⟨⟨u4,rfl,hT4⟩,hb4⟩;have hT3':=hT3.up hb4)
     | (go_at_call 103;revert hT4;intro hT4;refine (Ag9 _ _ u3 u4 _ hT3' hT4 (by have:=Abe (ofL p) (slE ps p.t);omega)).mono ?_;rintro e w5 ⟨⟨u5,rfl,hT5⟩,hb5⟩)
     | (go_at_call 103;refine (Ag9 _ _ u1 u2 _ hT1' hT2 (by omega)).mono ?_;rintro e w3 ⟨⟨u3,rfl,hT3⟩,hb3⟩))
   rename_i hHeld;have hB5:=hHeld.1;clear hHeld hb1 hb2 hb3 hb4 hb5 hT1 hT2 hT3 hT4 hT1' hT3' hS0;go_wp2_with fail
   go_ret
   exact⟨⟨_,rfl,by rw[HV.out];exact hT5⟩,hB5⟩
end Go.Proofs.YtgecdacgmehmbaaGreatDoor
