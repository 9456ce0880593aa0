/- The walks over recipes: looking for a name. -/
import Derived.Test.YtebfdccbmmpceaaGreatDoorJ0
import Derived.Test.YtebfdccbmmpceaaGreatDoorJ9
import Derived.Test.YtebfdccbmmpceaaGreatDoorJ15
import Derived.Deep.Cut
import Derived.Test.YtebfdccbmmpceaaGreatDoorJ16
import Derived.Test.YtebfdccbmmpceaaGreatDoorJ10
import Derived.Test.YtebfdccbmmpceaaGreatDoorJ12
import Derived.Deep.RegionWith
import Derived.Test.YtebfdccbmmpceaaGreatDoorJ2
import Derived.Test.YtebfdccbmmpceaaGreatDoorJ1
import Derived.Deep.RegionHeld
import Derived.Test.YtebfdccbmmpceaaGreatDoorXr
set_option maxRecDepth 20000
set_option maxHeartbeats 4000000
namespace Go.Proofs.YtebfdccbmmpceaaGreatDoor
open Go.RowKit
theorem O1 (ps:List Ph) (b o c:Nat) (nm:ByteArray) (w:World) (hr:RecAt w b o ps) (hn:ps.length<=1048576) :
  Calls Tryz.prog 46 #[.slice (some ⟨b,o,none⟩) ps.length c,.string nm] w λe w'=>e=.returned (.int .i64 (atI ps nm))/\w'=w:=by
 go_enter Tryz.func46,Tryz.ntmps46
 go_wp2
 go_loop [5] (λi=>∃k:Nat,k<=ps.length/\i=.int .i64 k/\hasB (ps.take k) nm=false) (λi=>ps.length-(intOf i).toNat)
 case atStart=>exact⟨0,by omega,rfl,rfl⟩
 case round =>
  obtain⟨k,hk,rfl,hal⟩:=hrel;have Hal:Hid (hasB (ps.take k) nm=false):=hal;clear hal;by_cases hp:k<ps.length
  ·obtain⟨c0,-⟩:=hr.cells k hp
   cases hq:((ps[k]).nm.toList==nm.toList)
   ·have Hq:Hid (((ps[k]).nm.toList==nm.toList)=false):=hq
    go_wp2
    go_round
    case rel=>exact⟨k+1,by omega,by go_num,by rw[Afm ps nm k hp,Hal.out,Hq.out];rfl⟩
    case measure=>simp[intOf];omega
   ·have Hq:Hid (((ps[k]).nm.toList==nm.toList)=true):=hq
    go_wp2
    go_ret
    exact⟨O3 (Afn ps nm k hp Hal.out Hq.out).symm,rfl⟩
  ·go_wp2
   go_ret
   exact⟨O3 (AdS ps nm (AdR ps nm k hp Hal.out)).symm,rfl⟩
def Ph.none:Ph:=⟨⟨#[]⟩,0,⟨#[]⟩,⟨#[]⟩,0,0,⟨#[]⟩,⟨#[]⟩⟩
theorem AbH (ps:List Ph) (b o c:Nat) (nm:ByteArray) (w:World) (hr:RecAt w b o ps) (hb:b<w.heap.size) (hn:ps.length<=1048576) :
  Calls Tryz.prog 106 #[.slice (some ⟨b,o,none⟩) ps.length c,.string nm] w λe w' =>
   (∃p:Ph,e=.returned (.tuple #[.agg #[.string (p).nm,.int .i64 (p).k,.string (p).a,.string (p).b,.int .i64 (p).n,.int .i64 (p).wi,.string (p).t,.string (p).e],.bool (hasB ps nm)])/\∀(k:Nat) (hk:k<ps.length),atI ps nm=(k:Int)->p=ps[k])/\Below w.heap.size w w':=by
 go_enter Tryz.func106,Tryz.ntmps106
 go_wp2
 go_loopw [10] (λi w'=>∃k:Nat,k<=ps.length/\i=.int .i64 k/\hasB (ps.take k) nm=false/\Below w.heap.size w w'/\CB w' w.heap.size Ph.none.cells) (λi _=>ps.length-(intOf i).toNat)
 case atStart=>exact⟨0,by omega,rfl,rfl,(A4 _ _).alloc (A3 _) _,E7 w Ph.none.cells 84⟩
 case round =>
  obtain⟨k,hk,rfl,hal,hB,hC⟩:=hrel;have Hal:Hid (hasB (ps.take k) nm=false):=hal;clear hal;by_cases hp:k<ps.length
  ·obtain⟨c0,c1,c2,c3,c4,c5,c6,c7⟩:=(hr.up hB hb).cells k hp
   have hlt:=hC.2.2;have hne:¬w.heap.size=wr.heap.size:=by omega
   have hen:¬wr.heap.size=w.heap.size:=by omega
   cases hq:((ps[k]).nm.toList==nm.toList)
   ·have Hq:Hid (((ps[k]).nm.toList==nm.toList)=false):=hq
    go_wp2
    go_roundw
    case rel=>exact⟨k+1,by omega,by go_num,by rw[Afm ps nm k hp,Hal.out,Hq.out];rfl,hB.alloc hB.size _,hC.up ((A4 wr.heap.size _).alloc (A3 _) _) hlt⟩
    case measure=>simp[intOf];omega
   ·have Hq:Hid (((ps[k]).nm.toList==nm.toList)=true):=hq
    go_upto_region 5 with fail
    have hC2:CB (wr.alloc (.cells #[.string (ps[k]).nm,.int .i64 (ps[k]).k,.string (ps[k]).a,.string (ps[k]).b,.int .i64 (ps[k]).n,.int .i64 (ps[k]).wi,.string (ps[k]).t,.string (ps[k]).e] 84)) w.heap.size Ph.none.cells:=hC.up ((A4 wr.heap.size _).alloc (A3 _) _) hlt;have hP2:CB (wr.alloc (.cells #[.string (ps[k]).nm,.int .i64 (ps[k]).k,.string (ps[k]).a,.string (ps[k]).b,.int .i64 (ps[k]).n,.int .i64 (ps[k]).wi,.string (ps[k]).t,.string (ps[k]).e] 84)) wr.heap.size (ps[k]).cells:=E7 wr (ps[k]).cells _;have hB2:=hB.alloc hB.size (.cells #[.string (ps[k]).nm,.int .i64 (ps[k]).k,.string (ps[k]).a,.string (ps[k]).b,.int .i64 (ps[k]).n,.int .i64 (ps[k]).wi,.string (ps[k]).t,.string (ps[k]).e] 84);clear c0 c1 c2 c3 c4 c5 c6 c7;generalize wr.alloc (.cells #[.string (ps[k]).nm,.int .i64 (ps[k]).k,.string (ps[k]).a,.string (ps[k]).b,.int .i64 (ps[k]).n,.int .i64 (ps[k]).wi,.string (ps[k]).t,.string (ps[k]).e] 84)=W2 at *;obtain⟨⟨c0,c1,c2,c3,c4,c5,c6,c7⟩,-⟩:=hP2.c8;obtain⟨⟨d0,d1,d2,d3,d4,d5,d6,d7⟩,f0,f1,f2,f3,f4,f5,f6,f7⟩:=hC2.c8;go_wp2_with fail
    refine bodyPost_ret (Ads (v:=.bool true) (rk:=w.heap.size) (cs:=(ps[k]).cells) Tryz.results106 Tryz.underlying84 rfl sizeP ?ht ?hv ?hZ) rfl ?_
    case ht=>rfl
    case hv=>rfl
    case hZ=>exact hC2.copy8 _ _ _ _ _ _ _ _
    refine⟨⟨ps[k],?_,?_⟩,AaH hB2 (A3 _) _ _ _ _ _ _ _ _⟩
    ·rw[Amr ps nm k hp Hq.out];rfl
    ·intro j hj ha
     have:=Afn ps nm k hp Hal.out Hq.out;obtain rfl:j=k:=by omega
     rfl
  ·obtain⟨⟨d0,d1,d2,d3,d4,d5,d6,d7⟩,f0,f1,f2,f3,f4,f5,f6,f7⟩:=hC.c8
   go_wp2_with fail
   refine bodyPost_ret (Ads (v:=.bool false) (rk:=w.heap.size) (cs:=Ph.none.cells) Tryz.results106 Tryz.underlying84 rfl sizeP ?ht ?hv ?hZ) rfl ?_
   case ht=>rfl
   case hv=>rfl
   case hZ=>exact hC.copy8 _ _ _ _ _ _ _ _
   refine⟨⟨Ph.none,?_,?_⟩,AaH hB (A3 _) _ _ _ _ _ _ _ _⟩
   ·rw[AdR ps nm k hp Hal.out];rfl
   ·intro j hj ha
    have:=AdS ps nm (AdR ps nm k hp Hal.out);omega
theorem AeY (ps:List Ph) (b o c:Nat) (nm:ByteArray) (w:World) (hr:RecAt w b o ps) (hb:b<w.heap.size) (hn:ps.length<=1048576) :
  Calls Tryz.prog 186 #[.slice (some ⟨b,o,none⟩) ps.length c,.string nm] w λe w'=>e=.returned (.bool (hasB ps nm))/\Below w.heap.size w w':=by
 go_enter Tryz.func186,Tryz.ntmps186
 go_wp2_with fail
 refine (AbH ps b o c nm _ hr hb hn).mono ?_;rintro e w1 ⟨⟨p,rfl,-⟩,hB1⟩;go_wp2_with fail
 go_ret
 exact⟨rfl,hB1.alloc hB1.size _⟩
theorem Am7 (ps:List Ph) (b o c:Nat) (nm:ByteArray) (w:World) (hE:Ends w) (hr:RecAt w b o ps) (hb:b<w.heap.size) (hn:ps.length<=1048576) :
  Calls Tryz.prog 187 #[.slice (some ⟨b,o,none⟩) ps.length c,.string nm] w λe w'=>e=.returned (.bool (goesB ps nm))/\Below w.heap.size w w':=by
 have HE:Hid (Ends w):=hE;clear hE;cases h:(endN nm != 0)
 ·go_enter Tryz.func187,Tryz.ntmps187
  go_wp2_with (first|(go_at_call 107;refine (L9 _ _ HE.out).mono ?_;rintro e w' ⟨rfl,hw⟩;obtain rfl:=hw.symm;clear hw)|(go_at_call 186;refine (AeY _ _ _ _ _ _ hr hb hn).mono ?_;rintro e w1 ⟨rfl,hb1⟩;(first|(have hB':=D6 hB hb1;clear hB;have hB:=hB';clear hB')|(have hB:=hb1));clear hb1;(try clear hc hf);obtain⟨hc,hf⟩:=E6 hB))
  go_ret
  exact⟨D7 (by simp[goesB,h]),hB⟩
 ·go_enter Tryz.func187,Tryz.ntmps187
  go_wp2_with (first|(go_at_call 107;refine (L9 _ _ HE.out).mono ?_;rintro e w' ⟨rfl,hw⟩;obtain rfl:=hw.symm;clear hw)|(go_at_call 186;refine (AeY _ _ _ _ _ _ hr hb hn).mono ?_;rintro e w1 ⟨rfl,hb1⟩;(first|(have hB':=D6 hB hb1;clear hB;have hB:=hB';clear hB')|(have hB:=hb1));clear hb1;(try clear hc hf);obtain⟨hc,hf⟩:=E6 hB))
  go_ret
  exact⟨D7 (by simp[goesB,h]),A4 _ _⟩
theorem Y5 (ps:List Ph) (n b o c:Nat) (nm:ByteArray) (w:World) (hl:ps.length=n) (hr:RecAt w b o ps) (hb:b<w.heap.size) (hn:ps.length<=1048576) :
  Calls Tryz.prog 186 #[.slice (some ⟨b,o,none⟩) n c,.string nm] w λe w'=>e=.returned (.bool (hasB ps nm))/\Below w.heap.size w w':=by
 subst hl;exact AeY ps b o c nm w hr hb hn
theorem S4 (ps:List Ph) (n b o c:Nat) (nm:ByteArray) (w:World) (hl:ps.length=n) (hE:Ends w) (hr:RecAt w b o ps) (hb:b<w.heap.size) (hn:ps.length<=1048576) :
  Calls Tryz.prog 187 #[.slice (some ⟨b,o,none⟩) n c,.string nm] w λe w'=>e=.returned (.bool (goesB ps nm))/\Below w.heap.size w w':=by
 subst hl;exact Am7 ps b o c nm w hE hr hb hn
theorem Ab5 (ps:List Ph) (b o c:Nat) (w:World) (hE:Ends w) (hr:RecAt w b o ps) (hb:b<w.heap.size) (hs:Sized ps) (hcap:ps.length<=c) (hc9:c<=9223372036854775807) :
  Calls Tryz.prog 167 #[.slice (some ⟨b,o,none⟩) ps.length c] w λe w'=>e=.returned (.bool (recB ps))/\Below w.heap.size w w':=by
 by_cases hl:1<=ps.length
 case neg =>
  go_enter Tryz.func167,Tryz.ntmps167
  go_wp2
  go_ret
  exact⟨D7 (AdT ps (by omega)).symm,A4 _ _⟩
 by_cases hl2:ps.length<=12
 case neg =>
  go_enter Tryz.func167,Tryz.ntmps167
  go_wp2
  go_ret
  exact⟨D7 (AdT ps (by omega)).symm,A4 _ _⟩
 have HE:Hid (Ends w):=hE;clear hE;go_enter Tryz.func167,Tryz.ntmps167
 go_wp2_with fail
 go_loopw [16] (λi w'=>∃k:Nat,k<=ps.length/\i=.int .i64 k/\allI ps k/\Below w.heap.size w w') (λi _=>ps.length-(intOf i).toNat)
 case atStart=>exact⟨0,by omega,rfl,AkP ps,A4 _ _⟩
 case round =>
  obtain⟨k,hk,rfl,hal,hB⟩:=hrel;have Hal:Hid (allI ps k):=hal;clear hal;by_cases hp:k<ps.length
  ·obtain⟨c0,c1,c2,c3,c4,c5,c6,c7⟩:=hr.cells k hp
   obtain⟨z0,z1,z2,z3,z4⟩:=hs ps[k] (by simp);obtain⟨hc,hf⟩:=E6 hB;have Hno:Hid (stepI ps k ps[k]=false->recB ps=false):=Amt ps k hp;have Hyes:Hid (stepI ps k ps[k]=true->allI ps (k+1)):=AkN Hal.out hp;have hB0:=hB;clear hB;by_cases hck:c=k+1
   ·have hr':RecAt w b o (ps.drop (k+1)):=by
     rw[List.drop_of_length_le (by omega)];intro i p hp;simp at hp
    clear hr hs;subst hck;cases h1:phaseB (ps[k]).nm (ps[k]).k (ps[k]).a (ps[k]).b (ps[k]).n (ps[k]).wi (ps[k]).t (ps[k]).e
    ·go_wp2_with (first|(go_at_call 185;refine (L5 _ _ _ _ _ _ _ _ _ (HE.out.up (hB0.alloc hB0.size _)) z0 z1 z2 z3 z4).mono ?_;rintro e w1 ⟨rfl,hb1⟩;(first|(have hB':=D6 hB hb1;clear hB;have hB:=hB';clear hB')|(have hB:=hb1));clear hb1;(try clear hc hf);obtain⟨hc,hf⟩:=E6 hB)|(go_at_call 186;refine (Y5 (ps.drop (k+1)) _ _ _ _ _ _ (by rw[A8]<;>omega) (hr'.up (D6 (hB0.alloc hB0.size _) hB) hb) (A1 hb (D6 (hB0.alloc hB0.size _) hB).size) (by rw[A8];omega)).mono ?_;rintro e w1 ⟨rfl,hb1⟩;(first|(have hB':=D6 hB hb1;clear hB;have hB:=hB';clear hB')|(have hB:=hb1));clear hb1;(try clear hc hf);obtain⟨hc,hf⟩:=E6 hB)|(go_at_call 187;refine (S4 (ps.drop (k+1)) _ _ _ _ _ _ (by rw[A8]<;>omega) (HE.out.up (D6 (hB0.alloc hB0.size _) hB)) (hr'.up (D6 (hB0.alloc hB0.size _) hB) hb) (A1 hb (D6 (hB0.alloc hB0.size _) hB).size) (by rw[A8];omega)).mono ?_;rintro e w1 ⟨rfl,hb1⟩;(first|(have hB':=D6 hB hb1;clear hB;have hB:=hB';clear hB')|(have hB:=hb1));clear hb1;(try clear hc hf);obtain⟨hc,hf⟩:=E6 hB))
     go_ret
     exact⟨D7 (Hno.out (by simp[stepI,Ph.okB,h1])).symm,D6 (hB0.alloc hB0.size _) hB⟩
    cases h2:hasB (ps.drop (k+1)) (ps[k]).nm
    case true =>
     go_wp2_with (first|(go_at_call 185;refine (L5 _ _ _ _ _ _ _ _ _ (HE.out.up (hB0.alloc hB0.size _)) z0 z1 z2 z3 z4).mono ?_;rintro e w1 ⟨rfl,hb1⟩;(first|(have hB':=D6 hB hb1;clear hB;have hB:=hB';clear hB')|(have hB:=hb1));clear hb1;(try clear hc hf);obtain⟨hc,hf⟩:=E6 hB)|(go_at_call 186;refine (Y5 (ps.drop (k+1)) _ _ _ _ _ _ (by rw[A8]<;>omega) (hr'.up (D6 (hB0.alloc hB0.size _) hB) hb) (A1 hb (D6 (hB0.alloc hB0.size _) hB).size) (by rw[A8];omega)).mono ?_;rintro e w1 ⟨rfl,hb1⟩;(first|(have hB':=D6 hB hb1;clear hB;have hB:=hB';clear hB')|(have hB:=hb1));clear hb1;(try clear hc hf);obtain⟨hc,hf⟩:=E6 hB)|(go_at_call 187;refine (S4 (ps.drop (k+1)) _ _ _ _ _ _ (by rw[A8]<;>omega) (HE.out.up (D6 (hB0.alloc hB0.size _) hB)) (hr'.up (D6 (hB0.alloc hB0.size _) hB) hb) (A1 hb (D6 (hB0.alloc hB0.size _) hB).size) (by rw[A8];omega)).mono ?_;rintro e w1 ⟨rfl,hb1⟩;(first|(have hB':=D6 hB hb1;clear hB;have hB:=hB';clear hB')|(have hB:=hb1));clear hb1;(try clear hc hf);obtain⟨hc,hf⟩:=E6 hB))
     go_ret
     exact⟨D7 (Hno.out (by simp[stepI,h2])).symm,D6 (hB0.alloc hB0.size _) hB⟩
    cases h3:goesB (ps.drop (k+1)) (ps[k]).t
    ·go_wp2_with (first|(go_at_call 185;refine (L5 _ _ _ _ _ _ _ _ _ (HE.out.up (hB0.alloc hB0.size _)) z0 z1 z2 z3 z4).mono ?_;rintro e w1 ⟨rfl,hb1⟩;(first|(have hB':=D6 hB hb1;clear hB;have hB:=hB';clear hB')|(have hB:=hb1));clear hb1;(try clear hc hf);obtain⟨hc,hf⟩:=E6 hB)|(go_at_call 186;refine (Y5 (ps.drop (k+1)) _ _ _ _ _ _ (by rw[A8]<;>omega) (hr'.up (D6 (hB0.alloc hB0.size _) hB) hb) (A1 hb (D6 (hB0.alloc hB0.size _) hB).size) (by rw[A8];omega)).mono ?_;rintro e w1 ⟨rfl,hb1⟩;(first|(have hB':=D6 hB hb1;clear hB;have hB:=hB';clear hB')|(have hB:=hb1));clear hb1;(try clear hc hf);obtain⟨hc,hf⟩:=E6 hB)|(go_at_call 187;refine (S4 (ps.drop (k+1)) _ _ _ _ _ _ (by rw[A8]<;>omega) (HE.out.up (D6 (hB0.alloc hB0.size _) hB)) (hr'.up (D6 (hB0.alloc hB0.size _) hB) hb) (A1 hb (D6 (hB0.alloc hB0.size _) hB).size) (by rw[A8];omega)).mono ?_;rintro e w1 ⟨rfl,hb1⟩;(first|(have hB':=D6 hB hb1;clear hB;have hB:=hB';clear hB')|(have hB:=hb1));clear hb1;(try clear hc hf);obtain⟨hc,hf⟩:=E6 hB))
     go_ret
     exact⟨D7 (Hno.out (by simp[stepI,h3])).symm,D6 (hB0.alloc hB0.size _) hB⟩
    cases h4:goesB (ps.drop (k+1)) (ps[k]).e
    ·go_wp2_with (first|(go_at_call 185;refine (L5 _ _ _ _ _ _ _ _ _ (HE.out.up (hB0.alloc hB0.size _)) z0 z1 z2 z3 z4).mono ?_;rintro e w1 ⟨rfl,hb1⟩;(first|(have hB':=D6 hB hb1;clear hB;have hB:=hB';clear hB')|(have hB:=hb1));clear hb1;(try clear hc hf);obtain⟨hc,hf⟩:=E6 hB)|(go_at_call 186;refine (Y5 (ps.drop (k+1)) _ _ _ _ _ _ (by rw[A8]<;>omega) (hr'.up (D6 (hB0.alloc hB0.size _) hB) hb) (A1 hb (D6 (hB0.alloc hB0.size _) hB).size) (by rw[A8];omega)).mono ?_;rintro e w1 ⟨rfl,hb1⟩;(first|(have hB':=D6 hB hb1;clear hB;have hB:=hB';clear hB')|(have hB:=hb1));clear hb1;(try clear hc hf);obtain⟨hc,hf⟩:=E6 hB)|(go_at_call 187;refine (S4 (ps.drop (k+1)) _ _ _ _ _ _ (by rw[A8]<;>omega) (HE.out.up (D6 (hB0.alloc hB0.size _) hB)) (hr'.up (D6 (hB0.alloc hB0.size _) hB) hb) (A1 hb (D6 (hB0.alloc hB0.size _) hB).size) (by rw[A8];omega)).mono ?_;rintro e w1 ⟨rfl,hb1⟩;(first|(have hB':=D6 hB hb1;clear hB;have hB:=hB';clear hB')|(have hB:=hb1));clear hb1;(try clear hc hf);obtain⟨hc,hf⟩:=E6 hB))
     go_ret
     exact⟨D7 (Hno.out (by simp[stepI,h4])).symm,D6 (hB0.alloc hB0.size _) hB⟩
    have H5:Hid (stepI ps k ps[k]=true):=by show _=_;simp[stepI,Ph.okB,h1,h2,h3,h4]
    go_wp2_with (first|(go_at_call 185;refine (L5 _ _ _ _ _ _ _ _ _ (HE.out.up (hB0.alloc hB0.size _)) z0 z1 z2 z3 z4).mono ?_;rintro e w1 ⟨rfl,hb1⟩;(first|(have hB':=D6 hB hb1;clear hB;have hB:=hB';clear hB')|(have hB:=hb1));clear hb1;(try clear hc hf);obtain⟨hc,hf⟩:=E6 hB)|(go_at_call 186;refine (Y5 (ps.drop (k+1)) _ _ _ _ _ _ (by rw[A8]<;>omega) (hr'.up (D6 (hB0.alloc hB0.size _) hB) hb) (A1 hb (D6 (hB0.alloc hB0.size _) hB).size) (by rw[A8];omega)).mono ?_;rintro e w1 ⟨rfl,hb1⟩;(first|(have hB':=D6 hB hb1;clear hB;have hB:=hB';clear hB')|(have hB:=hb1));clear hb1;(try clear hc hf);obtain⟨hc,hf⟩:=E6 hB)|(go_at_call 187;refine (S4 (ps.drop (k+1)) _ _ _ _ _ _ (by rw[A8]<;>omega) (HE.out.up (D6 (hB0.alloc hB0.size _) hB)) (hr'.up (D6 (hB0.alloc hB0.size _) hB) hb) (A1 hb (D6 (hB0.alloc hB0.size _) hB).size) (by rw[A8];omega)).mono ?_;rintro e w1 ⟨rfl,hb1⟩;(first|(have hB':=D6 hB hb1;clear hB;have hB:=hB';clear hB')|(have hB:=hb1));clear hb1;(try clear hc hf);obtain⟨hc,hf⟩:=E6 hB))
    go_roundw
    case rel=>exact⟨k+1,by omega,by go_num,Hyes.out H5.out,D6 (hB0.alloc hB0.size _) hB⟩
    case measure=>simp[intOf];omega
   ·have hr':RecAt w b (o+(k+1)*8) (ps.drop (k+1)):=hr.drop (k+1)
    clear hr hs;cases h1:phaseB (ps[k]).nm (ps[k]).k (ps[k]).a (ps[k]).b (ps[k]).n (ps[k]).wi (ps[k]).t (ps[k]).e
    ·go_wp2_with (first|(go_at_call 185;refine (L5 _ _ _ _ _ _ _ _ _ (HE.out.up (hB0.alloc hB0.size _)) z0 z1 z2 z3 z4).mono ?_;rintro e w1 ⟨rfl,hb1⟩;(first|(have hB':=D6 hB hb1;clear hB;have hB:=hB';clear hB')|(have hB:=hb1));clear hb1;(try clear hc hf);obtain⟨hc,hf⟩:=E6 hB)|(go_at_call 186;refine (Y5 (ps.drop (k+1)) _ _ _ _ _ _ (by rw[A8]<;>omega) (hr'.up (D6 (hB0.alloc hB0.size _) hB) hb) (A1 hb (D6 (hB0.alloc hB0.size _) hB).size) (by rw[A8];omega)).mono ?_;rintro e w1 ⟨rfl,hb1⟩;(first|(have hB':=D6 hB hb1;clear hB;have hB:=hB';clear hB')|(have hB:=hb1));clear hb1;(try clear hc hf);obtain⟨hc,hf⟩:=E6 hB)|(go_at_call 187;refine (S4 (ps.drop (k+1)) _ _ _ _ _ _ (by rw[A8]<;>omega) (HE.out.up (D6 (hB0.alloc hB0.size _) hB)) (hr'.up (D6 (hB0.alloc hB0.size _) hB) hb) (A1 hb (D6 (hB0.alloc hB0.size _) hB).size) (by rw[A8];omega)).mono ?_;rintro e w1 ⟨rfl,hb1⟩;(first|(have hB':=D6 hB hb1;clear hB;have hB:=hB';clear hB')|(have hB:=hb1));clear hb1;(try clear hc hf);obtain⟨hc,hf⟩:=E6 hB))
     go_ret
     exact⟨D7 (Hno.out (by simp[stepI,Ph.okB,h1])).symm,D6 (hB0.alloc hB0.size _) hB⟩
    cases h2:hasB (ps.drop (k+1)) (ps[k]).nm
    case true =>
     go_wp2_with (first|(go_at_call 185;refine (L5 _ _ _ _ _ _ _ _ _ (HE.out.up (hB0.alloc hB0.size _)) z0 z1 z2 z3 z4).mono ?_;rintro e w1 ⟨rfl,hb1⟩;(first|(have hB':=D6 hB hb1;clear hB;have hB:=hB';clear hB')|(have hB:=hb1));clear hb1;(try clear hc hf);obtain⟨hc,hf⟩:=E6 hB)|(go_at_call 186;refine (Y5 (ps.drop (k+1)) _ _ _ _ _ _ (by rw[A8]<;>omega) (hr'.up (D6 (hB0.alloc hB0.size _) hB) hb) (A1 hb (D6 (hB0.alloc hB0.size _) hB).size) (by rw[A8];omega)).mono ?_;rintro e w1 ⟨rfl,hb1⟩;(first|(have hB':=D6 hB hb1;clear hB;have hB:=hB';clear hB')|(have hB:=hb1));clear hb1;(try clear hc hf);obtain⟨hc,hf⟩:=E6 hB)|(go_at_call 187;refine (S4 (ps.drop (k+1)) _ _ _ _ _ _ (by rw[A8]<;>omega) (HE.out.up (D6 (hB0.alloc hB0.size _) hB)) (hr'.up (D6 (hB0.alloc hB0.size _) hB) hb) (A1 hb (D6 (hB0.alloc hB0.size _) hB).size) (by rw[A8];omega)).mono ?_;rintro e w1 ⟨rfl,hb1⟩;(first|(have hB':=D6 hB hb1;clear hB;have hB:=hB';clear hB')|(have hB:=hb1));clear hb1;(try clear hc hf);obtain⟨hc,hf⟩:=E6 hB))
     go_ret
     exact⟨D7 (Hno.out (by simp[stepI,h2])).symm,D6 (hB0.alloc hB0.size _) hB⟩
    cases h3:goesB (ps.drop (k+1)) (ps[k]).t
    ·go_wp2_with (first|(go_at_call 185;refine (L5 _ _ _ _ _ _ _ _ _ (HE.out.up (hB0.alloc hB0.size _)) z0 z1 z2 z3 z4).mono ?_;rintro e w1 ⟨rfl,hb1⟩;(first|(have hB':=D6 hB hb1;clear hB;have hB:=hB';clear hB')|(have hB:=hb1));clear hb1;(try clear hc hf);obtain⟨hc,hf⟩:=E6 hB)|(go_at_call 186;refine (Y5 (ps.drop (k+1)) _ _ _ _ _ _ (by rw[A8]<;>omega) (hr'.up (D6 (hB0.alloc hB0.size _) hB) hb) (A1 hb (D6 (hB0.alloc hB0.size _) hB).size) (by rw[A8];omega)).mono ?_;rintro e w1 ⟨rfl,hb1⟩;(first|(have hB':=D6 hB hb1;clear hB;have hB:=hB';clear hB')|(have hB:=hb1));clear hb1;(try clear hc hf);obtain⟨hc,hf⟩:=E6 hB)|(go_at_call 187;refine (S4 (ps.drop (k+1)) _ _ _ _ _ _ (by rw[A8]<;>omega) (HE.out.up (D6 (hB0.alloc hB0.size _) hB)) (hr'.up (D6 (hB0.alloc hB0.size _) hB) hb) (A1 hb (D6 (hB0.alloc hB0.size _) hB).size) (by rw[A8];omega)).mono ?_;rintro e w1 ⟨rfl,hb1⟩;(first|(have hB':=D6 hB hb1;clear hB;have hB:=hB';clear hB')|(have hB:=hb1));clear hb1;(try clear hc hf);obtain⟨hc,hf⟩:=E6 hB))
     go_ret
     exact⟨D7 (Hno.out (by simp[stepI,h3])).symm,D6 (hB0.alloc hB0.size _) hB⟩
    cases h4:goesB (ps.drop (k+1)) (ps[k]).e
    ·go_wp2_with (first|(go_at_call 185;refine (L5 _ _ _ _ _ _ _ _ _ (HE.out.up (hB0.alloc hB0.size _)) z0 z1 z2 z3 z4).mono ?_;rintro e w1 ⟨rfl,hb1⟩;(first|(have hB':=D6 hB hb1;clear hB;have hB:=hB';clear hB')|(have hB:=hb1));clear hb1;(try clear hc hf);obtain⟨hc,hf⟩:=E6 hB)|(go_at_call 186;refine (Y5 (ps.drop (k+1)) _ _ _ _ _ _ (by rw[A8]<;>omega) (hr'.up (D6 (hB0.alloc hB0.size _) hB) hb) (A1 hb (D6 (hB0.alloc hB0.size _) hB).size) (by rw[A8];omega)).mono ?_;rintro e w1 ⟨rfl,hb1⟩;(first|(have hB':=D6 hB hb1;clear hB;have hB:=hB';clear hB')|(have hB:=hb1));clear hb1;(try clear hc hf);obtain⟨hc,hf⟩:=E6 hB)|(go_at_call 187;refine (S4 (ps.drop (k+1)) _ _ _ _ _ _ (by rw[A8]<;>omega) (HE.out.up (D6 (hB0.alloc hB0.size _) hB)) (hr'.up (D6 (hB0.alloc hB0.size _) hB) hb) (A1 hb (D6 (hB0.alloc hB0.size _) hB).size) (by rw[A8];omega)).mono ?_;rintro e w1 ⟨rfl,hb1⟩;(first|(have hB':=D6 hB hb1;clear hB;have hB:=hB';clear hB')|(have hB:=hb1));clear hb1;(try clear hc hf);obtain⟨hc,hf⟩:=E6 hB))
     go_ret
     exact⟨D7 (Hno.out (by simp[stepI,h4])).symm,D6 (hB0.alloc hB0.size _) hB⟩
    have H5:Hid (stepI ps k ps[k]=true):=by show _=_;simp[stepI,Ph.okB,h1,h2,h3,h4]
    go_wp2_with (first|(go_at_call 185;refine (L5 _ _ _ _ _ _ _ _ _ (HE.out.up (hB0.alloc hB0.size _)) z0 z1 z2 z3 z4).mono ?_;rintro e w1 ⟨rfl,hb1⟩;(first|(have hB':=D6 hB hb1;clear hB;have hB:=hB';clear hB')|(have hB:=hb1));clear hb1;(try clear hc hf);obtain⟨hc,hf⟩:=E6 hB)|(go_at_call 186;refine (Y5 (ps.drop (k+1)) _ _ _ _ _ _ (by rw[A8]<;>omega) (hr'.up (D6 (hB0.alloc hB0.size _) hB) hb) (A1 hb (D6 (hB0.alloc hB0.size _) hB).size) (by rw[A8];omega)).mono ?_;rintro e w1 ⟨rfl,hb1⟩;(first|(have hB':=D6 hB hb1;clear hB;have hB:=hB';clear hB')|(have hB:=hb1));clear hb1;(try clear hc hf);obtain⟨hc,hf⟩:=E6 hB)|(go_at_call 187;refine (S4 (ps.drop (k+1)) _ _ _ _ _ _ (by rw[A8]<;>omega) (HE.out.up (D6 (hB0.alloc hB0.size _) hB)) (hr'.up (D6 (hB0.alloc hB0.size _) hB) hb) (A1 hb (D6 (hB0.alloc hB0.size _) hB).size) (by rw[A8];omega)).mono ?_;rintro e w1 ⟨rfl,hb1⟩;(first|(have hB':=D6 hB hb1;clear hB;have hB:=hB';clear hB')|(have hB:=hb1));clear hb1;(try clear hc hf);obtain⟨hc,hf⟩:=E6 hB))
    go_roundw
    case rel=>exact⟨k+1,by omega,by go_num,Hyes.out H5.out,D6 (hB0.alloc hB0.size _) hB⟩
    case measure=>simp[intOf];omega
  ·go_wp2
   go_ret
   exact⟨D7 (AkR ps k ⟨hl,hl2⟩ hk hp Hal.out).symm,hB⟩
theorem Acz (ss:List ByteArray):namesOf (keys ss)=ss:=by
 rw[namesOf,keys,List.map_map]
 have:((λl:Key=>(⟨l.toArray⟩:ByteArray)) ∘ λs:ByteArray=>s.toList)=id:=by
  funext s
  show (⟨s.toList.toArray⟩:ByteArray)=s
  rw[Go.ByteArray.toList_eq]
 rw[this,List.map_id]
def slK (ps:List Ph) (nm:ByteArray):List Key:=if recB ps=true then slI ps nm else []
theorem Ajy (ps:List Ph) (nm:ByteArray):namesOf (slK ps nm)=slotsV ps nm:=by
 unfold slK slotsV;split
 ·rw[← Aah,Acz]
 ·rfl
theorem AnQ {w:World} {base:Nat} {u:Value} {ks:List Key} (h:OwnV w base (u,ks)):OwnT w base u (namesOf ks):=by
 have:(namesOf ks).length=ks.length:=by simp[namesOf]
 unfold OwnT;rw[this];exact h
theorem Adf (ps:List Ph) (b o c:Nat) (nm:ByteArray) (w:World) (hE:Ends w) (hr:RecAt w b o ps) (hb:b<w.heap.size) (hs:Sized ps) (hcap:ps.length<=c) (hc9:c<=9223372036854775807) :
  Calls Tryz.prog 148 #[.slice (some ⟨b,o,none⟩) ps.length c,.string nm] w λe w'=>(∃u,e=.returned u/\OwnT w' w.heap.size u (slotsV ps nm))/\Below w.heap.size w w':=by
 cases hok:recB ps
 ·have HV:Hid (slotsV ps nm=[]):=by show _=_;simp[slotsV,hok]
  go_enter Tryz.func148,Tryz.ntmps148
  go_wp2_with fail
  refine (Ab5 ps b o c _ hE hr hb hs hcap hc9).mono ?_;rintro e w1 ⟨he,hB1⟩;rw[hok] at he;subst he;go_wp2_with fail
  go_ret
  exact⟨⟨_,rfl,by rw[HV.out];exact B8 _ _ _ _⟩,hB1⟩
 ·have hd:=Afo hok 0
  rw[List.drop_zero] at hd;have h12:ps.length<=12:=((J8 ps).1 hok).2.1
  have HV:Hid (∀rs:List (ByteArray×VK),plainR rs=fill feK fpK [] ps->namesOf (look rs nm nilR).2=slotsV ps nm):=by
   show _;intro rs hpl
   rw[← AaP,hpl,AcX _ _ _ _ hd,← Ajy];unfold slK;rw[if_pos hok];rfl
  clear hd;go_enter Tryz.func148,Tryz.ntmps148
  go_wp2_with fail
  refine (Ab5 ps b o c _ hE hr hb hs hcap hc9).mono ?_;rintro e w1 ⟨he,hB1⟩;rw[hok] at he;subst he;go_wp2_with fail
  refine (Ale ps b o c _ (hE.up hB1) (hr.up hB1 hb) (A1 hb hB1.size) hok).mono ?_;rintro e w2 ⟨⟨g,cap,rs,rfl,hpl,hT⟩,hB2⟩
  have hlen:rs.length<=1048576:=by
   have:=congrArg List.length hpl;rw[AdW] at this;simp only[plainR,B4] at this;omega
  have hB12:=D6 hB1 hB2;have hnn:=HV.out rs hpl;have Hnn:Hid (namesOf (look rs nm nilR).2=slotsV ps nm):=hnn;clear hnn hpl hB2;go_wp2_with fail
  refine (AiK rs w1.heap.size g cap nm _ hT hlen).mono ?_;rintro e w3 ⟨rfl,hB3⟩;have hO:OwnT w3 w1.heap.size (look rs nm nilR).1 (namesOf (look rs nm nilR).2):=AnQ (u:=(look rs nm nilR).1) (ks:=(look rs nm nilR).2) ((hT.up hB3).look nm);have hB13:=D6 hB12 hB3;rw[Hnn.out] at hO;clear hT hB12 hB3;go_wp2_with fail
  go_ret
  exact⟨⟨_,rfl,G4 hO hB1.size⟩,hB13⟩
theorem CB.c6 {w:World} {b:Nat} {x0 x1 x2 x3 x4 x5:Value} (h:CB w b [x0,x1,x2,x3,x4,x5]) :
  w.cell? ⟨b,0,none⟩=some x0/\w.cell? ⟨b,1,none⟩=some x1/\w.cell? ⟨b,2,none⟩=some x2/\w.cell? ⟨b,3,none⟩=some x3/\w.cell? ⟨b,4,none⟩=some x4/\w.cell? ⟨b,5,none⟩=some x5 :=
 ⟨h.1 0 _ rfl,h.1 1 _ rfl,h.1 2 _ rfl,h.1 3 _ rfl,h.1 4 _ rfl,h.1 5 _ rfl⟩
theorem CB.copy6 {w:World} {b:Nat} {y0 y1 y2 y3 y4 y5:Value} (h:CB w b [y0,y1,y2,y3,y4,y5]) (x0 x1 x2 x3 x4 x5:Value) :
  CB ((((((w.setCell ⟨b,0,none⟩ x0).setCell ⟨b,1,none⟩ x1).setCell ⟨b,2,none⟩ x2).setCell ⟨b,3,none⟩ x3).setCell ⟨b,4,none⟩ x4).setCell ⟨b,5,none⟩ x5) b [x0,x1,x2,x3,x4,x5]:=h.copy [x0,x1,x2,x3,x4,x5] rfl
theorem CB.f6 {w:World} {b:Nat} {x0 x1 x2 x3 x4 x5:Value} (h:CB w b [x0,x1,x2,x3,x4,x5]) :
  w.frozen? ⟨b,0,none⟩=false/\w.frozen? ⟨b,1,none⟩=false/\w.frozen? ⟨b,2,none⟩=false/\w.frozen? ⟨b,3,none⟩=false/\w.frozen? ⟨b,4,none⟩=false/\w.frozen? ⟨b,5,none⟩=false :=
 ⟨(h.2.1 0 (by simp)).2,(h.2.1 1 (by simp)).2,(h.2.1 2 (by simp)).2,(h.2.1 3 (by simp)).2,(h.2.1 4 (by simp)).2,(h.2.1 5 (by simp)).2⟩
theorem R4 {P:Program} {fn:Func} {q:Tmp} {T:TypeId} (h:fn.results=#[.cell q T]) {d:TypeDesc} (hu:P.underlying T=some d) (hd:d.isRow=true) (hi:(P.info? T).map (·.size)=some 6) {R:Ending->World->Prop} {tmps:Array Value} {w:World} {rk:Nat} {y0 y1 y2 y3 y4 y5 x0 x1 x2 x3 x4 x5:Value}
  (k:CB w rk [y0,y1,y2,y3,y4,y5]) (ht:tmps.getD q undef=.pointer (some ⟨rk,0,none⟩)) (hR:R (.returned (.agg #[x0,x1,x2,x3,x4,x5])) ((((((w.setCell ⟨rk,0,none⟩ x0).setCell ⟨rk,1,none⟩ x1).setCell ⟨rk,2,none⟩ x2).setCell ⟨rk,3,none⟩ x3).setCell ⟨rk,4,none⟩ x4).setCell ⟨rk,5,none⟩ x5)) :
  bodyPost P fn R .ret {tmps:=tmps,defers:=[]} ((((((w.setCell ⟨rk,0,none⟩ x0).setCell ⟨rk,1,none⟩ x1).setCell ⟨rk,2,none⟩ x2).setCell ⟨rk,3,none⟩ x3).setCell ⟨rk,4,none⟩ x4).setCell ⟨rk,5,none⟩ x5) :=
 bodyPost_ret (Aer (cs:=[x0,x1,x2,x3,x4,x5]) h hu hd hi ht (k.copy6 x0 x1 x2 x3 x4 x5)) rfl hR
theorem R8 {P:Program} {fn:Func} {q q2:Tmp} {T:TypeId} (h:fn.results=#[.cell q T,.tmp q2]) {d:TypeDesc} (hu:P.underlying T=some d) (hd:d.isRow=true) (hi:(P.info? T).map (·.size)=some 6) {R:Ending->World->Prop} {tmps:Array Value} {w:World} {rk:Nat} {y0 y1 y2 y3 y4 y5 x0 x1 x2 x3 x4 x5 v:Value}
  (k:CB w rk [y0,y1,y2,y3,y4,y5]) (ht:tmps.getD q undef=.pointer (some ⟨rk,0,none⟩)) (hv:tmps.getD q2 undef=v) (hR:R (.returned (.tuple #[.agg #[x0,x1,x2,x3,x4,x5],v])) ((((((w.setCell ⟨rk,0,none⟩ x0).setCell ⟨rk,1,none⟩ x1).setCell ⟨rk,2,none⟩ x2).setCell ⟨rk,3,none⟩ x3).setCell ⟨rk,4,none⟩ x4).setCell ⟨rk,5,none⟩ x5)) :
  bodyPost P fn R .ret {tmps:=tmps,defers:=[]} ((((((w.setCell ⟨rk,0,none⟩ x0).setCell ⟨rk,1,none⟩ x1).setCell ⟨rk,2,none⟩ x2).setCell ⟨rk,3,none⟩ x3).setCell ⟨rk,4,none⟩ x4).setCell ⟨rk,5,none⟩ x5) :=
 bodyPost_ret (Ads (cs:=[x0,x1,x2,x3,x4,x5]) h hu hd hi ht hv (k.copy6 x0 x1 x2 x3 x4 x5)) rfl hR
theorem L0 {B:Nat} {a w:World} {b:Nat} (h:Below B a w) (hb:B<=b) (x0 x1 x2 x3 x4 x5:Value):Below B a ((((((w.setCell ⟨b,0,none⟩ x0).setCell ⟨b,1,none⟩ x1).setCell ⟨b,2,none⟩ x2).setCell ⟨b,3,none⟩ x3).setCell ⟨b,4,none⟩ x4).setCell ⟨b,5,none⟩ x5) :=
 (((((h.setCell (p:=⟨b,0,none⟩) hb x0).setCell (p:=⟨b,1,none⟩) hb x1).setCell (p:=⟨b,2,none⟩) hb x2).setCell (p:=⟨b,3,none⟩) hb x3).setCell (p:=⟨b,4,none⟩) hb x4).setCell (p:=⟨b,5,none⟩) hb x5
theorem Ae7 (nm ad:ByteArray) (a1 a2:Option Addr) (n1 n2 c1 c2:Nat) (st:Int) (w:World) :
  Calls Tryz.prog 105 #[.agg #[.string nm,.slice a1 n1 c1,.slice a2 n2 c2,.string ad,.int .i64 (-1),.int .i64 st]] w λe w'=>e=.returned (.iface 208 (.agg #[]))/\Below w.heap.size w w':=by
 go_enter Tryz.func105,Tryz.ntmps105
 go_wp2
 go_ret
 exact⟨rfl,by go_grown⟩
theorem AdY (nm ad:ByteArray) (a1 a2:Option Addr) (n1 n2 c1 c2:Nat) (si st:Int) (w:World) (h:¬si=-1) :
  Calls Tryz.prog 105 #[.agg #[.string nm,.slice a1 n1 c1,.slice a2 n2 c2,.string ad,.int .i64 si,.int .i64 st]] w λe w'=>e=.returned (.iface 156 (.agg #[.int .i64 si]))/\Below w.heap.size w w':=by
 go_enter Tryz.func105,Tryz.ntmps105
 go_wp2
 go_ret
 exact⟨rfl,by go_grown⟩
theorem Ajz (n:Int) (w:World):Calls Tryz.prog 273 #[.agg #[],.int .i64 n] w λe w'=>e=.returned (.bool true)/\Below w.heap.size w w':=by
 go_enter Tryz.func273,Tryz.ntmps273
 go_wp2
 go_ret
 exact⟨rfl,by go_grown⟩
theorem AgH (si n:Int) (w:World):Calls Tryz.prog 257 #[.agg #[.int .i64 si],.int .i64 n] w λe w'=>e=.returned (.bool (decide (0<=si)&&decide (si<n)))/\Below w.heap.size w w':=by
 by_cases h:0<=si
 ·go_enter Tryz.func257,Tryz.ntmps257
  go_wp2
  go_ret
  exact⟨D7 (by simp[h]),by go_grown⟩
 ·go_enter Tryz.func257,Tryz.ntmps257
  go_wp2
  go_ret
  exact⟨D7 (by simp;omega),by go_grown⟩
theorem Am8 {w:World} {v:Value} {ss:List ByteArray} (h:Lst w v ss) {k:Nat} (hk:k<ss.length):∃g c,v=.slice (some ⟨g,0,none⟩) ss.length c/\w.cell? ⟨g,k,none⟩=some (.string ss[k])/\g<w.heap.size:=by
 rcases h with⟨_,h2⟩|⟨g,c,h1,hS,hg,-⟩
 ·subst h2;simp at hk
 ·exact⟨g,c,h1,by have:=hS k ss[k] (by simp);simpa using this,hg⟩
theorem Afw {ps:List Ph} (hs:Sized ps) (nm:ByteArray):∀s∈slE ps nm,s.size<=maxLen:=λs hs'=>by
 have h1:s.toList∈keys (slE ps nm):=List.mem_map.2 ⟨s,hs',rfl⟩;rw[Aah] at h1;have h2:=AcZ ps nm _ h1;obtain⟨p,hp,h3⟩:=List.mem_flatMap.1 h2;obtain⟨_,z1,z2,_,_⟩:=hs p hp;unfold ownK at h3;split at h3
 ·simp only[List.mem_cons,List.not_mem_nil,or_false] at h3
  rcases h3 with h3|h3
  ·rw[M6 h3];exact z1
  ·rw[M6 h3];exact z2
 ·simp only[List.mem_cons,List.not_mem_nil,or_false] at h3
  rw[M6 h3];exact z1
theorem AgI (ps:List Ph) (l:List Sl) (b o c g q cc:Nat) (w:World) (hE:Ends w) (hr:RecAt w b o ps) (hb:b<w.heap.size) (hs:Sized ps) (hcap:ps.length<=c) (hc9:c<=9223372036854775807) (hok:recB ps=true)
  (hl:SlAt w g q l) (hg:g<w.heap.size) (hn:l.length<=1048576) (hz:∀y∈l,y.s.size<=maxLen/\y.t.size<=maxLen) :
  Calls Tryz.prog 168 #[.slice (some ⟨g,q,none⟩) l.length cc,.slice (some ⟨b,o,none⟩) ps.length c] w λe w'=>e=.returned (.bool (pB (SlotsOk ps l)))/\Below w.heap.size w w':=by
 obtain⟨hp1,hp12,-⟩:=(J8 ps).1 hok;obtain⟨c0,-⟩:=hr.cells 0 (by omega);rw[show o+0*8=o by omega] at c0;have hsl:=Aay ps (fstN ps);have hcall:=λW (hB:Below w.heap.size w W)=>Adf ps b o c (fstN ps) W (hE.up hB) (hr.up hB hb) (A1 hb hB.size) hs hcap hc9;have hV:slotsV ps (fstN ps)=slE ps (fstN ps):=by simp[slotsV,hok]
 rw[hV] at hcall;rw[← Adb (by omega)] at c0;have hnd:=Afs ps (fstN ps);have hsz:=Afw hs (fstN ps);have HP:Hid (SlotsOk ps l=SlOk l (slE ps (fstN ps))):=rfl;have hlen24:(slE ps (fstN ps)).length<=24:=by omega
 clear hV hsl;generalize slE ps (fstN ps)=ns at *;generalize fstN ps=f0 at *;go_enter Tryz.func168,Tryz.ntmps168
 go_wp2_with fail
 refine (hcall _ (A4 _ _)).mono ?_;rintro e w1 ⟨⟨u,rfl,hO⟩,hB1⟩;have hL:=hO.lst;obtain⟨ua,uc,rfl⟩:=hL.shape;have Hnd:Hid (keys ns).Nodup:=hnd;have Hcall:Hid True:=trivial;clear hcall c0 hnd;by_cases hll:l.length=ns.length
 case neg =>
  have HN:Hid (pB (SlotsOk ps l)=false):=F3 (by rw[HP.out];exact λh=>hll h.1);go_wp2_with fail
  go_ret
  exact⟨D7 HN.out.symm,hB1⟩
 have Hll:Hid (l.length=ns.length):=hll;go_upto_region 4 with fail
 clear hll;have hn:ns.length<=1048576:=by omega
 go_wp2_with fail
 go_loopw [6,7,21] (λ_ _ i w'=>∃k:Nat,k<=ns.length/\i=.int .i64 k/\SlP l ns k/\Below w1.heap.size w1 w') (λ_ _ i _=>ns.length-(intOf i).toNat)
 case atStart=>exact⟨0,by omega,rfl,λj x hj _=>by omega,A4 _ _⟩
 case round =>
  obtain⟨k,hk,rfl,hP,hB⟩:=hrel;have HPk:Hid (SlP l ns k):=hP;clear hP;by_cases hkn:k<ns.length
  ·have hp:k<l.length:=by have:=Hll.out;omega
   obtain⟨d0,d1⟩:=(hl.up (D6 hB1 hB) hg).cells k hp;obtain⟨gu,cu,hu,e0,hgu⟩:=Am8 (hL.up hB) hkn;simp only[Value.slice.injEq] at hu;obtain⟨rfl,-,rfl⟩:=hu;obtain⟨zs,zt⟩:=hz l[k] (by simp);have N1:Hid (((l[k]).s.toList==(ns[k]).toList)=false->¬SlOk l ns):=SlP.no1 hp hkn;have N2:Hid (nameB (l[k]).t=false->¬SlOk l ns):=SlP.no2 hp;have N3:Hid (((l[k]).s.toList==(ns[k]).toList)=true->nameB (l[k]).t=true->SlP l ns (k+1)):=HPk.out.step hp hkn;generalize l[k]=y at *;generalize ns[k]=s0 at *;have hB2:=hB.alloc hB.size (.cells #[.string (y).s,.string (y).t] 169);have hC:CB (wr.alloc (.cells #[.string (y).s,.string (y).t] 169)) wr.heap.size [.string y.s,.string y.t]:=E7 wr _ _;have e1:=((A4 wr.heap.size wr).alloc (A3 _) (.cells #[.string (y).s,.string (y).t] 169)).cell (p:=⟨gu,k,none⟩) hgu |>.trans e0
   go_upto_region 7 with fail
   generalize wr.alloc (.cells #[.string (y).s,.string (y).t] 169)=W1 at *;obtain⟨⟨f0',f1⟩,-⟩:=hC.c2;clear d0 d1 e0 hB;cases h1:(y.s.toList==s0.toList)
   ·have Hno:Hid (pB (SlotsOk ps l)=false):=F3 (by rw[HP.out];exact N1.out h1)
    go_wp2_with fail
    go_quiet (fail)
    go_wp2
    go_ret
    exact⟨D7 Hno.out.symm,E8 (D6 hB1 hB2) _⟩
   ·cases h2:nameB y.t
    ·have Hno:Hid (pB (SlotsOk ps l)=false):=F3 (by rw[HP.out];exact N2.out h2)
     go_wp2_with fail
     go_region_with (go_at_call 155;refine (N7 _ _ zt).mono ?_;rintro e w3 ⟨rfl,hb3⟩)
     all_goals
      have hB3:=D6 (D6 hB1 hB2).drew hb3;go_wp2_with fail
      go_ret
      exact⟨D7 Hno.out.symm,hB3⟩
    ·have Hyes:Hid (SlP l ns (k+1)):=N3.out h1 h2
     go_wp2_with fail
     go_region_with (go_at_call 155;refine (N7 _ _ zt).mono ?_;rintro e w3 ⟨rfl,hb3⟩)
     all_goals
      have hB3:=D6 hB2.drew hb3;go_wp2_with fail
      go_roundw
      case rel=>exact⟨k+1,by omega,by go_num,Hyes.out,hB3⟩
      case measure=>simp[intOf];omega
  ·have HPl:Hid (SlP l ns l.length):=by
    have:=HPk.out;rwa [show k=l.length by have:=Hll.out;omega] at this
   have hB13:=D6 hB1 hB;go_wp2_with fail
   refine (Ajr l _ g q cc _ Hll.out (hl.up hB13 hg) (A1 hg hB13.size) hn (λy hy=>(hz y hy).1)).mono ?_;rintro e w4 ⟨⟨M,D,rfl,hM,hD,-⟩,hB4⟩;go_wp2_with fail
   refine (AbG l ns M _ D _ _ hM hD ((hL.up hB).up hB4) hsz (by omega)).mono ?_;rintro e w5 ⟨⟨u5,rfl,hO5⟩,hB5⟩;obtain⟨a5,c5,rfl⟩:=hO5.lst.shape;have hlen:(namesOf (thI l ns)).length=(thI l ns).length:=by simp[namesOf]
   have Hc:Hid ((thI l ns).length=l.length↔SlOk l ns):=SlP.count Hll.out HPl.out Hnd.out;have hB15:=D6 (D6 hB13 hB4) hB5;have hth:=AiG l ns;rw[hlen];clear hO5 hM hD hB4 hB5 hlen;rw[Hll.out] at Hc;by_cases hq:(thI l ns).length=ns.length
   ·have Hq:Hid (pB (SlotsOk ps l)=true):=I7 (by rw[HP.out];exact Hc.out.1 hq)
    go_wp2_with fail
    go_ret
    exact⟨D7 (by rw[Hq.out]),hB15⟩
   ·have Hq:Hid (pB (SlotsOk ps l)=false):=F3 (by rw[HP.out];exact λh=>hq (Hc.out.2 h))
    go_wp2_with fail
    go_ret
    exact⟨D7 (by rw[Hq.out];simp;omega),hB15⟩
structure RbV (w:World) (x:Rb) (rv sv:Value):Prop where
 r:∃b o c,rv=.slice (some ⟨b,o,none⟩) x.ps.length c/\RecAt w b o x.ps/\b<w.heap.size/\x.ps.length<=c/\c<=9223372036854775807
 s:∃b o c,sv=.slice (some ⟨b,o,none⟩) x.sl.length c/\SlAt w b o x.sl/\b<w.heap.size
 zp:Sized x.ps
 zs:∀y∈x.sl,y.s.size<=maxLen/\y.t.size<=maxLen
 zn:x.nm.size<=maxLen
 np:x.ps.length<=1048576
 ns:x.sl.length<=1048576
theorem RbV.up {w w':World} {x:Rb} {rv sv:Value} (h:RbV w x rv sv) (hb:Below w.heap.size w w'):RbV w' x rv sv:=by
 obtain⟨b,o,c,h1,h2,h3,h4⟩:=h.r;obtain⟨g,q,d,k1,k2,k3⟩:=h.s;exact⟨⟨b,o,c,h1,h2.up hb h3,A1 h3 hb.size,h4⟩,⟨g,q,d,k1,k2.up hb k3,A1 k3 hb.size⟩,h.zp,h.zs,h.zn,h.np,h.ns⟩
theorem Z8 {ps:List Ph} {nm:ByteArray} (h:hasB ps nm=true):∃k,k<ps.length/\atI ps nm=(k:Int):=by
 cases hf:ps.findIdx? λp=>p.nm.toList==nm.toList with
 | none =>
  rw[List.findIdx?_eq_none_iff] at hf;unfold hasB at h;rw[List.any_eq_true] at h;obtain⟨p,hp,e⟩:=h;rw[hf p hp] at e;cases e
 | some i =>
  obtain⟨h1,-⟩:=List.findIdx?_eq_some_iff_getElem.1 hf;exact⟨i,h1,by unfold atI;rw[hf]⟩
theorem Abh {ps:List Ph} {nm:ByteArray} (h:hasB ps nm=true):phOf ps nm∈ps:=by
 obtain⟨k,hk,ha⟩:=Z8 h;rw[Z6 hk ha];simp
theorem Ady {ps:List Ph} (h:recB ps=true) {p:Ph} (hp:p∈ps):p.okB=true:=by
 obtain⟨i,hi,rfl⟩:=B6 hp;have:=((J8 ps).1 h).2.2 i ps[i] hi (by simp);unfold stepI at this;simp only[Bool.and_eq_true] at this;exact this.1.1.1
theorem AgJ {p:Ph} (h:p.okB=true):1<=p.wi/\p.wi<=1000:=by
 unfold Ph.okB phaseB at h;simp only[Bool.and_eq_true] at h;exact (P9 _ _ _).1 h.1.1.1.2
theorem AeZ {W w0:World} {q r:Nat} {x0 x1 x2 x3 x4 x5 y:Value} (h:Below W.heap.size W w0/\w0.cell? ⟨q,0,none⟩=some x0/\w0.cell? ⟨q,1,none⟩=some x1/\w0.cell? ⟨q,2,none⟩=some x2/\w0.cell? ⟨q,3,none⟩=some x3/\w0.cell? ⟨q,4,none⟩=some x4/\w0.cell? ⟨q,5,none⟩=some x5/\w0.cell? ⟨r,5,none⟩=some y):Below W.heap.size W w0.drew/\w0.drew.cell? ⟨q,0,none⟩=some x0/\w0.drew.cell? ⟨q,1,none⟩=some x1/\w0.drew.cell? ⟨q,2,none⟩=some x2/\w0.drew.cell? ⟨q,3,none⟩=some x3/\w0.drew.cell? ⟨q,4,none⟩=some x4/\w0.drew.cell? ⟨q,5,none⟩=some x5/\w0.drew.cell? ⟨r,5,none⟩=some y :=
 ⟨h.1.drew,h.2⟩
theorem AfY {W w0 w1:World} {q r:Nat} {x0 x1 x2 x3 x4 x5 y:Value} (hq:q<W.heap.size) (hr:r<W.heap.size) (h:Below W.heap.size W w0/\w0.cell? ⟨q,0,none⟩=some x0/\w0.cell? ⟨q,1,none⟩=some x1/\w0.cell? ⟨q,2,none⟩=some x2/\w0.cell? ⟨q,3,none⟩=some x3/\w0.cell? ⟨q,4,none⟩=some x4/\w0.cell? ⟨q,5,none⟩=some x5/\w0.cell? ⟨r,5,none⟩=some y) (hB:Below w0.heap.size w0 w1):Below W.heap.size W w1/\w1.cell? ⟨q,0,none⟩=some x0/\w1.cell? ⟨q,1,none⟩=some x1/\w1.cell? ⟨q,2,none⟩=some x2/\w1.cell? ⟨q,3,none⟩=some x3/\w1.cell? ⟨q,4,none⟩=some x4/\w1.cell? ⟨q,5,none⟩=some x5/\w1.cell? ⟨r,5,none⟩=some y:=by
 obtain⟨h1,a0,a1,a2,a3,a4,a5,a6⟩:=h;have hl:q<w0.heap.size:=A1 hq h1.size;have hm:r<w0.heap.size:=A1 hr h1.size;exact⟨D6 h1 hB,(hB.cell (p:=⟨q,0,none⟩) hl).trans a0,(hB.cell (p:=⟨q,1,none⟩) hl).trans a1,(hB.cell (p:=⟨q,2,none⟩) hl).trans a2,(hB.cell (p:=⟨q,3,none⟩) hl).trans a3,(hB.cell (p:=⟨q,4,none⟩) hl).trans a4,(hB.cell (p:=⟨q,5,none⟩) hl).trans a5,(hB.cell (p:=⟨r,5,none⟩) hm).trans a6⟩
theorem Abi (x:Rb) (rv sv:Value) (w:World) (hE:Ends w) (h:RbV w x rv sv) :
  Calls Tryz.prog 141 #[.agg #[.string x.nm,rv,sv,.string x.ad,.int .i64 x.si,.int .i64 x.st]] w λe w'=>e=.returned (.bool (pB (RbOk x)))/\Below w.heap.size w w':=by
 obtain⟨b,o,c,rfl,hr,hb,hcap,hc9⟩:=h.r;obtain⟨g,q,d,rfl,hl,hg⟩:=h.s;have zp:=h.zp;have zs:=h.zs;have zn:=h.zn;have np:=h.np;have ns:=h.ns;clear h;have hC:CB (w.alloc (.cells #[.string x.nm,.slice (some ⟨b,o,none⟩) x.ps.length c,.slice (some ⟨g,q,none⟩) x.sl.length d,.string x.ad,.int .i64 x.si,.int .i64 x.st] 52)) w.heap.size [.string x.nm,.slice (some ⟨b,o,none⟩) x.ps.length c,.slice (some ⟨g,q,none⟩) x.sl.length d,.string x.ad,.int .i64 x.si,.int .i64 x.st]:=E7 w _ _;have hB0:=(A4 w.heap.size w).alloc (A3 _) (.cells #[.string x.nm,.slice (some ⟨b,o,none⟩) x.ps.length c,.slice (some ⟨g,q,none⟩) x.sl.length d,.string x.ad,.int .i64 x.si,.int .i64 x.st] 52);have HE:Hid (Ends w):=hE;clear hE;go_enter Tryz.func141,Tryz.ntmps141
 go_upto_region 1 with fail
 generalize w.alloc (.cells #[.string x.nm,.slice (some ⟨b,o,none⟩) x.ps.length c,.slice (some ⟨g,q,none⟩) x.sl.length d,.string x.ad,.int .i64 x.si,.int .i64 x.st] 52)=W1 at *;obtain⟨d0,d1,d2,d3,d4,d5⟩:=hC.c6;have hlt:=hC.2.2;have hB:Below W1.heap.size W1 W1:=A4 _ _;obtain⟨hc,hf⟩:=E6 hB;cases h1:nameB x.nm
 ·have HN:Hid (pB (RbOk x)=false):=F3 λh=>by rw[h.1] at h1;cases h1
  go_wp2_with (first|(go_at_call 155;refine (N7 _ _ zn).mono ?_;rintro e w1 ⟨rfl,hb1⟩;(first|(have hB':=D6 hB hb1;clear hB;have hB:=hB';clear hB')|(have hB:=hb1));clear hb1;(try clear hc hf);obtain⟨hc,hf⟩:=E6 hB))
  go_ret
  exact⟨D7 HN.out.symm,D6 hB0 hB⟩
 by_cases h2:1<=x.st
 case neg =>
  have HN:Hid (pB (RbOk x)=false):=F3 λh=>h2 h.2.2.2.1;go_wp2_with (first|(go_at_call 155;refine (N7 _ _ zn).mono ?_;rintro e w1 ⟨rfl,hb1⟩;(first|(have hB':=D6 hB hb1;clear hB;have hB:=hB';clear hB')|(have hB:=hb1));clear hb1;(try clear hc hf);obtain⟨hc,hf⟩:=E6 hB))
  go_ret
  exact⟨D7 HN.out.symm,D6 hB0 hB⟩
 cases h3:recB x.ps
 ·have HN:Hid (pB (RbOk x)=false):=F3 λh=>by rw[h.2.1] at h3;cases h3
  go_wp2_with (first|(go_at_call 155;refine (N7 _ _ zn).mono ?_;rintro e w1 ⟨rfl,hb1⟩;(first|(have hB':=D6 hB hb1;clear hB;have hB:=hB';clear hB')|(have hB:=hb1));clear hb1;(try clear hc hf);obtain⟨hc,hf⟩:=E6 hB)|(go_at_call 167;refine (Ab5 x.ps b o c _ (HE.out.up (D6 hB0 hB)) (hr.up (D6 hB0 hB) hb) (A1 hb (D6 hB0 hB).size) zp hcap hc9).mono ?_;rintro e w1 ⟨rfl,hb1⟩;(first|(have hB':=D6 hB hb1;clear hB;have hB:=hB';clear hB')|(have hB:=hb1));clear hb1;(try clear hc hf);obtain⟨hc,hf⟩:=E6 hB))
  go_ret
  exact⟨D7 HN.out.symm,D6 hB0 hB⟩
 have H123:Hid (nameB x.nm=true/\recB x.ps=true/\1<=x.st):=⟨h1,h3,h2⟩;go_upto_region 3 with (first|(go_at_call 155;refine (N7 _ _ zn).mono ?_;rintro e w1 ⟨rfl,hb1⟩;(first|(have hB':=D6 hB hb1;clear hB;have hB:=hB';clear hB')|(have hB:=hb1));clear hb1;(try clear hc hf);obtain⟨hc,hf⟩:=E6 hB)|(go_at_call 167;refine (Ab5 x.ps b o c _ (HE.out.up (D6 hB0 hB)) (hr.up (D6 hB0 hB) hb) (A1 hb (D6 hB0 hB).size) zp hcap hc9).mono ?_;rintro e w1 ⟨rfl,hb1⟩;(first|(have hB':=D6 hB hb1;clear hB;have hB:=hB';clear hB')|(have hB:=hb1));clear hb1;(try clear hc hf);obtain⟨hc,hf⟩:=E6 hB))
 clear h1 h2;go_wp2_with fail
 refine (AbH x.ps b o c x.ad _ (hr.up (D6 hB0 hB) hb) (A1 hb (D6 hB0 hB).size) np).mono ?_;rintro e w3 ⟨⟨p,rfl,hpk⟩,hb3⟩
 have Hpk:Hid (hasB x.ps x.ad=true->p=phOf x.ps x.ad):=λhh=>by
  obtain⟨k,hk,ha⟩:=Z8 hh;rw[hpk k hk ha,Z6 hk ha]
 have hB13:=D6 hB hb3;clear hpk hb3 hB hc hf;have hB14:=hB13.alloc hB13.size (.cells #[.string (p).nm,.int .i64 (p).k,.string (p).a,.string (p).b,.int .i64 (p).n,.int .i64 (p).wi,.string (p).t,.string (p).e] 84);have hCp:CB (w3.alloc (.cells #[.string (p).nm,.int .i64 (p).k,.string (p).a,.string (p).b,.int .i64 (p).n,.int .i64 (p).wi,.string (p).t,.string (p).e] 84)) w3.heap.size [.string p.nm,.int .i64 p.k,.string p.a,.string p.b,.int .i64 p.n,.int .i64 p.wi,.string p.t,.string p.e]:=E7 w3 _ _;go_upto_region 4 with fail
 generalize w3.alloc (.cells #[.string (p).nm,.int .i64 (p).k,.string (p).a,.string (p).b,.int .i64 (p).n,.int .i64 (p).wi,.string (p).t,.string (p).e] 84)=W4 at *;obtain⟨hc,hf⟩:=E6 hB14;have e0:=(hc w.heap.size 0 hlt).trans d0;have e1:=(hc w.heap.size 1 hlt).trans d1;have e2:=(hc w.heap.size 2 hlt).trans d2;have e3:=(hc w.heap.size 3 hlt).trans d3;have e4:=(hc w.heap.size 4 hlt).trans d4;have e5:=(hc w.heap.size 5 hlt).trans d5;have e6:W4.cell? ⟨w3.heap.size,5,none⟩=some (.int .i64 p.wi):=hCp.1 5 _ rfl;have hB04:=D6 hB0 hB14;have hq4:w.heap.size<W4.heap.size:=A1 hlt hB14.size;have hr4:w3.heap.size<W4.heap.size:=hCp.2.2;clear d0 d1 d2 d3 d4 d5 hC hCp hB0 hB13 hB14 hc hf hlt;cases h5:hasB x.ps x.ad
 ·have HN:Hid (pB (RbOk x)=false):=F3 λh=>by rw[h.2.2.2.2.1] at h5;cases h5
  go_wp2_with fail
  go_quiet (fail)
  go_wp2
  go_ret
  exact⟨D7 HN.out.symm,E8 hB04 _⟩
 have Hw:Hid (1<=p.wi/\p=phOf x.ps x.ad):=by
  have e:=Hpk.out h5;exact⟨by rw[e];exact (AgJ (Ady h3 (Abh h5))).1,e⟩
 have HR:Hid (∀(W:World),Below W4.heap.size W4 W->Calls Tryz.prog 168 #[.slice (some ⟨g,q,none⟩) x.sl.length d,.slice (some ⟨b,o,none⟩) x.ps.length c] W λe w'=>e=.returned (.bool (pB (SlotsOk x.ps x.sl)))/\Below W.heap.size W w'):=λW hW =>
  AgI x.ps x.sl b o c g q d W (HE.out.up (D6 hB04 hW)) (hr.up (D6 hB04 hW) hb) (A1 hb (D6 hB04 hW).size) zp hcap hc9 h3 (hl.up (D6 hB04 hW) hg) (A1 hg (D6 hB04 hW).size) ns zs
 have hS0:(λw'=>Below W4.heap.size W4 w'/\w'.cell? ⟨w.heap.size,0,none⟩=some (.string x.nm)/\w'.cell? ⟨w.heap.size,1,none⟩=some (.slice (some ⟨b,o,none⟩) x.ps.length c)/\w'.cell? ⟨w.heap.size,2,none⟩=some (.slice (some ⟨g,q,none⟩) x.sl.length d)/\w'.cell? ⟨w.heap.size,3,none⟩=some (.string x.ad)/\w'.cell? ⟨w.heap.size,4,none⟩=some (.int .i64 x.si)/\w'.cell? ⟨w.heap.size,5,none⟩=some (.int .i64 x.st)/\w'.cell? ⟨w3.heap.size,5,none⟩=some (.int .i64 p.wi)) W4:=⟨A4 _ _,e0,e1,e2,e3,e4,e5,e6⟩;clear e0 e1 e2 e3 e4 e5 e6 h3;by_cases h6:x.si=-1
 ·have H6:Hid (pB (RbOk x)=pB (SlotsOk x.ps x.sl)):=by
   show _=_
   obtain⟨k1,k2,k3⟩:=H123.out;obtain⟨k4,k5⟩:=Hw.out;have:RbOk x↔SlotsOk x.ps x.sl:=⟨λh=>h.2.2.1,λh=>⟨k1,k2,h,k3,h5,by omega,by rw[← k5];omega⟩⟩;unfold pB;simp[this]
  have hS1:(λw'=>Below W4.heap.size W4 w'/\w'.cell? ⟨w.heap.size,0,none⟩=some (.string x.nm)/\w'.cell? ⟨w.heap.size,1,none⟩=some (.slice (some ⟨b,o,none⟩) x.ps.length c)/\w'.cell? ⟨w.heap.size,2,none⟩=some (.slice (some ⟨g,q,none⟩) x.sl.length d)/\w'.cell? ⟨w.heap.size,3,none⟩=some (.string x.ad)/\w'.cell? ⟨w.heap.size,4,none⟩=some (.int .i64 (-1))/\w'.cell? ⟨w.heap.size,5,none⟩=some (.int .i64 x.st)/\w'.cell? ⟨w3.heap.size,5,none⟩=some (.int .i64 p.wi)) W4:=by rw[← h6];exact hS0
  clear h6 hS0;go_wp2_with fail
  go_region_held (λw'=>Below W4.heap.size W4 w'/\w'.cell? ⟨w.heap.size,0,none⟩=some (.string x.nm)/\w'.cell? ⟨w.heap.size,1,none⟩=some (.slice (some ⟨b,o,none⟩) x.ps.length c)/\w'.cell? ⟨w.heap.size,2,none⟩=some (.slice (some ⟨g,q,none⟩) x.sl.length d)/\w'.cell? ⟨w.heap.size,3,none⟩=some (.string x.ad)/\w'.cell? ⟨w.heap.size,4,none⟩=some (.int .i64 (-1))/\w'.cell? ⟨w.heap.size,5,none⟩=some (.int .i64 x.st)/\w'.cell? ⟨w3.heap.size,5,none⟩=some (.int .i64 p.wi)) (first|exact AeZ hS1|exact AfY hq4 hr4 (by assumption) (by assumption))
   (first
    | (go_at_call 105;refine (Ae7 _ _ _ _ _ _ _ _ _ _).mono ?_;rintro e w5 ⟨rfl,hb5⟩)
    | (go_at_call 273;refine (Ajz _ _).mono ?_;rintro e w6 ⟨rfl,hb6⟩)
    | (go_at_call 168;refine (HR.out _ (And.left (by assumption))).mono ?_;rintro e w7 ⟨rfl,hb7⟩))
  rename_i hHeld;have hB5:=D6 hB04 hHeld.1;go_wp2_with fail
  go_ret
  exact⟨D7 H6.out.symm,hB5⟩
 ·by_cases h7:0<=x.si/\x.si<p.wi
  ·have H6:Hid (pB (RbOk x)=pB (SlotsOk x.ps x.sl)):=by
    show _=_
    obtain⟨k1,k2,k3⟩:=H123.out;obtain⟨k4,k5⟩:=Hw.out;have:RbOk x↔SlotsOk x.ps x.sl:=⟨λh=>h.2.2.1,λh=>⟨k1,k2,h,k3,h5,by omega,by rw[← k5];omega⟩⟩;unfold pB;simp[this]
   have h8:(decide (0<=x.si)&&decide (x.si<p.wi))=true:=by simp[h7]
   have H6':Hid (¬x.si=-1):=h6;clear h6 h7;go_wp2_with fail
   go_region_held (λw'=>Below W4.heap.size W4 w'/\w'.cell? ⟨w.heap.size,0,none⟩=some (.string x.nm)/\w'.cell? ⟨w.heap.size,1,none⟩=some (.slice (some ⟨b,o,none⟩) x.ps.length c)/\w'.cell? ⟨w.heap.size,2,none⟩=some (.slice (some ⟨g,q,none⟩) x.sl.length d)/\w'.cell? ⟨w.heap.size,3,none⟩=some (.string x.ad)/\w'.cell? ⟨w.heap.size,4,none⟩=some (.int .i64 x.si)/\w'.cell? ⟨w.heap.size,5,none⟩=some (.int .i64 x.st)/\w'.cell? ⟨w3.heap.size,5,none⟩=some (.int .i64 p.wi)) (first|exact AeZ hS0|exact AfY hq4 hr4 (by assumption) (by assumption))
    (first
     | (go_at_call 105;refine (AdY _ _ _ _ _ _ _ _ _ _ _ H6'.out).mono ?_;rintro e w5 ⟨rfl,hb5⟩)
     | (go_at_call 257;refine (AgH _ _ _).mono ?_;rw[h8];rintro e w6 ⟨rfl,hb6⟩)
     | (go_at_call 168;refine (HR.out _ (And.left (by assumption))).mono ?_;rintro e w7 ⟨rfl,hb7⟩))
   rename_i hHeld;have hB5:=D6 hB04 hHeld.1;go_wp2_with fail
   go_ret
   exact⟨D7 H6.out.symm,hB5⟩
  ·have HN:Hid (pB (RbOk x)=false):=F3 λh=>h7 (by
    obtain⟨-,k5⟩:=Hw.out;rw[k5];exact⟨by have:=h.2.2.2.2.2.1;omega,h.2.2.2.2.2.2⟩)
   have h8:(decide (0<=x.si)&&decide (x.si<p.wi))=false:=by
    rw[Bool.and_eq_false_iff];simp only[decide_eq_false_iff_not];omega
   have H6':Hid (¬x.si=-1):=h6;clear h6 h7;have hS1:(λw'=>Below W4.heap.size W4 w'/\w'.cell? ⟨w.heap.size,0,none⟩=some (.string x.nm)/\w'.cell? ⟨w.heap.size,1,none⟩=some (.slice (some ⟨b,o,none⟩) x.ps.length c)/\w'.cell? ⟨w.heap.size,2,none⟩=some (.slice (some ⟨g,q,none⟩) x.sl.length d)/\w'.cell? ⟨w.heap.size,3,none⟩=some (.string x.ad)/\w'.cell? ⟨w.heap.size,4,none⟩=some (.int .i64 x.si)/\w'.cell? ⟨w.heap.size,5,none⟩=some (.int .i64 x.st)/\w'.cell? ⟨w3.heap.size,5,none⟩=some (.int .i64 p.wi)) W4.drew:=AeZ hS0;clear hS0;refine F5 99 (λw'=>Below W4.heap.size W4 w'/\w'.cell? ⟨w.heap.size,0,none⟩=some (.string x.nm)/\w'.cell? ⟨w.heap.size,1,none⟩=some (.slice (some ⟨b,o,none⟩) x.ps.length c)/\w'.cell? ⟨w.heap.size,2,none⟩=some (.slice (some ⟨g,q,none⟩) x.sl.length d)/\w'.cell? ⟨w.heap.size,3,none⟩=some (.string x.ad)/\w'.cell? ⟨w.heap.size,4,none⟩=some (.int .i64 x.si)/\w'.cell? ⟨w.heap.size,5,none⟩=some (.int .i64 x.st)/\w'.cell? ⟨w3.heap.size,5,none⟩=some (.int .i64 p.wi)) (by kernel_rfl) ?_;refine tkx 0 rfl hS1 ?_;refine tkx 1 rfl hS1 ?_;refine tkx 2 rfl hS1 ?_;refine tkx 4 rfl hS1 ?_;refine tkx 5 rfl hS1 ?_;refine D8 (i:=3) (by kernel_rfl) rfl (λK hK=>?_);go_simp
   go_wp2_with (go_at_call 105;refine (AdY _ _ _ _ _ _ _ _ _ _ _ H6'.out).mono ?_;rintro e w5 ⟨rfl,hb5⟩)
   have hS2:(λw'=>Below W4.heap.size W4 w'/\w'.cell? ⟨w.heap.size,0,none⟩=some (.string x.nm)/\w'.cell? ⟨w.heap.size,1,none⟩=some (.slice (some ⟨b,o,none⟩) x.ps.length c)/\w'.cell? ⟨w.heap.size,2,none⟩=some (.slice (some ⟨g,q,none⟩) x.sl.length d)/\w'.cell? ⟨w.heap.size,3,none⟩=some (.string x.ad)/\w'.cell? ⟨w.heap.size,4,none⟩=some (.int .i64 x.si)/\w'.cell? ⟨w.heap.size,5,none⟩=some (.int .i64 x.st)/\w'.cell? ⟨w3.heap.size,5,none⟩=some (.int .i64 p.wi)) w5:=AfY hq4 hr4 hS1 hb5;refine hK.out _ _ (λ_=>hS2) ?_;clear hK K;refine D8 (i:=6) (by kernel_rfl) rfl (λK hK=>?_);go_simp
   go_wp2_with (go_at_call 257;refine (AgH _ _ _).mono ?_;rw[h8];rintro e w6 ⟨rfl,hb6⟩)
   have hS3:(λw'=>Below W4.heap.size W4 w'/\w'.cell? ⟨w.heap.size,0,none⟩=some (.string x.nm)/\w'.cell? ⟨w.heap.size,1,none⟩=some (.slice (some ⟨b,o,none⟩) x.ps.length c)/\w'.cell? ⟨w.heap.size,2,none⟩=some (.slice (some ⟨g,q,none⟩) x.sl.length d)/\w'.cell? ⟨w.heap.size,3,none⟩=some (.string x.ad)/\w'.cell? ⟨w.heap.size,4,none⟩=some (.int .i64 x.si)/\w'.cell? ⟨w.heap.size,5,none⟩=some (.int .i64 x.st)/\w'.cell? ⟨w3.heap.size,5,none⟩=some (.int .i64 p.wi)) w6:=AfY hq4 hr4 hS2 hb6;refine hK.out _ _ (λ_=>hS3) ?_;clear hK K;refine tkx 7 rfl hS3 ?_;refine tkx 8 rfl hS3 ?_;refine skx 9 rfl hS3 ?_;refine skx 10 rfl hS3 ?_;refine skx 11 rfl hS3 ?_;refine skx 12 rfl hS3 ?_;refine skx 13 rfl hS3 ?_;refine tkx 14 rfl hS3 ?_;refine D8 (i:=15) (by kernel_rfl) rfl (λK hK=>?_);go_simp
   refine hK.out _ _ (λ_=>hS3) ?_;clear hK K;refine F0 (by kernel_rfl) ?_ _;have hB5:=D6 hB04 hS3.1;clear hS1 hS2 hS3 h8 h5;go_wp2_with fail
   go_ret
   exact⟨D7 HN.out.symm,hB5⟩
end Go.Proofs.YtebfdccbmmpceaaGreatDoor
