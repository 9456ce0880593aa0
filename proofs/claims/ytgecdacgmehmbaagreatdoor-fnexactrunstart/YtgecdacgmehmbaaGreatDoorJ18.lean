/- The walks of a phase, the program's side: the whole. -/
import Derived.Test.YtgecdacgmehmbaaGreatDoorJ8
import Derived.Test.YtgecdacgmehmbaaGreatDoorJ12
import Derived.Test.YtgecdacgmehmbaaGreatDoorJ2
set_option maxHeartbeats 4000000
namespace Go.Proofs.YtgecdacgmehmbaaGreatDoor
open Go.RowKit
theorem Ahv (nm a b:ByteArray) (n wi:Int) (t e:ByteArray) (w:World) (ha:a.size<=maxLen) (hb:b.size<=maxLen) :
  Calls Tryz.prog 183 #[.agg #[.string nm,.int .i64 1,.string a,.string b,.int .i64 n,.int .i64 wi,.string t,.string e]] w λe w'=>e=.returned (.bool (argsB 1 a b n wi))/\Below w.heap.size w w':=by
 have hr:Hid (argsB 1 a b n wi=(nameB a&&(nameB b)&&inB n 1 1000)):=by show _=_;simp[argsB,Bool.and_assoc]
 cases hA:nameB a<;>cases hP:(nameB b)
 all_goals
  go_enter Tryz.func183,Tryz.ntmps183
  go_wp2_with (first|(go_at_call 177;refine (Agd _ _ _ _ _ _ _ _).mono ?_;rintro e w1 ⟨rfl,hb1⟩;(first|(have hB':=D5 hB hb1;clear hB;have hB:=hB';clear hB')|(have hB:=hb1));clear hb1;(try clear hc hf);obtain⟨hc,hf⟩:=E2 hB)|(go_at_call 182;refine (K5 _ _ (by assumption)).mono ?_;rintro e w1 ⟨rfl,hb1⟩;(first|(have hB':=D5 hB hb1;clear hB;have hB:=hB';clear hB')|(have hB:=hb1));clear hb1;(try clear hc hf);obtain⟨hc,hf⟩:=E2 hB)|(go_at_call 205;refine (Ahi _ _ _ _ (by assumption)).mono ?_;rintro e w1 ⟨rfl,hb1⟩;(first|(have hB':=D5 hB hb1;clear hB;have hB:=hB';clear hB')|(have hB:=hb1));clear hb1;(try clear hc hf);obtain⟨hc,hf⟩:=E2 hB)|(go_at_call 206;refine (Aft _ _ _ _).mono ?_;rintro e w1 ⟨rfl,hb1⟩;(first|(have hB':=D5 hB hb1;clear hB;have hB:=hB';clear hB')|(have hB:=hb1));clear hb1;(try clear hc hf);obtain⟨hc,hf⟩:=E2 hB))
  go_ret
  exact⟨D6 (by rw[hr.out];simp[hA,hP]),D5 ((A4 _ _).alloc (A3 _) _) hB⟩
theorem Ahw (nm a b:ByteArray) (n wi:Int) (t e:ByteArray) (w:World) (ha:a.size<=maxLen) (hb:b.size<=maxLen) :
  Calls Tryz.prog 183 #[.agg #[.string nm,.int .i64 2,.string a,.string b,.int .i64 n,.int .i64 wi,.string t,.string e]] w λe w'=>e=.returned (.bool (argsB 2 a b n wi))/\Below w.heap.size w w':=by
 have hr:Hid (argsB 2 a b n wi=(nameB a&&(nameB b && !(a.toList==b.toList))&&inB n 1 1000)):=by show _=_;simp[argsB,Bool.and_assoc]
 cases hA:nameB a<;>cases hP:(nameB b && !(a.toList==b.toList))
 all_goals
  go_enter Tryz.func183,Tryz.ntmps183
  go_wp2_with (first|(go_at_call 177;refine (Age _ _ _ _ _ _ _ _).mono ?_;rintro e w1 ⟨rfl,hb1⟩;(first|(have hB':=D5 hB hb1;clear hB;have hB:=hB';clear hB')|(have hB:=hb1));clear hb1;(try clear hc hf);obtain⟨hc,hf⟩:=E2 hB)|(go_at_call 182;refine (K5 _ _ (by assumption)).mono ?_;rintro e w1 ⟨rfl,hb1⟩;(first|(have hB':=D5 hB hb1;clear hB;have hB:=hB';clear hB')|(have hB:=hb1));clear hb1;(try clear hc hf);obtain⟨hc,hf⟩:=E2 hB)|(go_at_call 205;refine (Ahj _ _ _ _ (by assumption)).mono ?_;rintro e w1 ⟨rfl,hb1⟩;(first|(have hB':=D5 hB hb1;clear hB;have hB:=hB';clear hB')|(have hB:=hb1));clear hb1;(try clear hc hf);obtain⟨hc,hf⟩:=E2 hB)|(go_at_call 206;refine (Afu _ _ _ _).mono ?_;rintro e w1 ⟨rfl,hb1⟩;(first|(have hB':=D5 hB hb1;clear hB;have hB:=hB';clear hB')|(have hB:=hb1));clear hb1;(try clear hc hf);obtain⟨hc,hf⟩:=E2 hB))
  go_ret
  exact⟨D6 (by rw[hr.out];simp[hA,hP]),D5 ((A4 _ _).alloc (A3 _) _) hB⟩
theorem Ahx (nm a b:ByteArray) (n wi:Int) (t e:ByteArray) (w:World) (ha:a.size<=maxLen) (_hb:b.size<=maxLen) :
  Calls Tryz.prog 183 #[.agg #[.string nm,.int .i64 3,.string a,.string b,.int .i64 n,.int .i64 wi,.string t,.string e]] w λe w'=>e=.returned (.bool (argsB 3 a b n wi))/\Below w.heap.size w w':=by
 have hr:Hid (argsB 3 a b n wi=(nameB a&&(b.toList.isEmpty)&&inB n 1 wi)):=by show _=_;simp[argsB,Bool.and_assoc]
 cases hA:nameB a<;>cases hP:(b.toList.isEmpty)
 all_goals
  go_enter Tryz.func183,Tryz.ntmps183
  go_wp2_with (first|(go_at_call 177;refine (Agf _ _ _ _ _ _ _ _).mono ?_;rintro e w1 ⟨rfl,hb1⟩;(first|(have hB':=D5 hB hb1;clear hB;have hB:=hB';clear hB')|(have hB:=hb1));clear hb1;(try clear hc hf);obtain⟨hc,hf⟩:=E2 hB)|(go_at_call 182;refine (K5 _ _ (by assumption)).mono ?_;rintro e w1 ⟨rfl,hb1⟩;(first|(have hB':=D5 hB hb1;clear hB;have hB:=hB';clear hB')|(have hB:=hb1));clear hb1;(try clear hc hf);obtain⟨hc,hf⟩:=E2 hB)|(go_at_call 205;refine (Ahk _ _ _ _).mono ?_;rintro e w1 ⟨rfl,hb1⟩;(first|(have hB':=D5 hB hb1;clear hB;have hB:=hB';clear hB')|(have hB:=hb1));clear hb1;(try clear hc hf);obtain⟨hc,hf⟩:=E2 hB)|(go_at_call 206;refine (Afv _ _ _ _).mono ?_;rintro e w1 ⟨rfl,hb1⟩;(first|(have hB':=D5 hB hb1;clear hB;have hB:=hB';clear hB')|(have hB:=hb1));clear hb1;(try clear hc hf);obtain⟨hc,hf⟩:=E2 hB))
  go_ret
  exact⟨D6 (by rw[hr.out];simp[hA,hP]),D5 ((A4 _ _).alloc (A3 _) _) hB⟩
theorem Agx (nm a b:ByteArray) (n wi:Int) (t e:ByteArray) (w:World) (ha:a.size<=maxLen) (_hb:b.size<=maxLen) :
  Calls Tryz.prog 183 #[.agg #[.string nm,.int .i64 4,.string a,.string b,.int .i64 n,.int .i64 wi,.string t,.string e]] w λe w'=>e=.returned (.bool (argsB 4 a b n wi))/\Below w.heap.size w w':=by
 have hr:Hid (argsB 4 a b n wi=(nameB a&&(b.toList.isEmpty)&&n==0)):=by show _=_;simp[argsB,Bool.and_assoc]
 cases hA:nameB a<;>cases hP:(b.toList.isEmpty)
 all_goals
  go_enter Tryz.func183,Tryz.ntmps183
  go_wp2_with (first|(go_at_call 177;refine (AeT _ _ _ _ _ _ _ _).mono ?_;rintro e w1 ⟨rfl,hb1⟩;(first|(have hB':=D5 hB hb1;clear hB;have hB:=hB';clear hB')|(have hB:=hb1));clear hb1;(try clear hc hf);obtain⟨hc,hf⟩:=E2 hB)|(go_at_call 182;refine (K5 _ _ (by assumption)).mono ?_;rintro e w1 ⟨rfl,hb1⟩;(first|(have hB':=D5 hB hb1;clear hB;have hB:=hB';clear hB')|(have hB:=hb1));clear hb1;(try clear hc hf);obtain⟨hc,hf⟩:=E2 hB)|(go_at_call 205;refine (Agh _ _ _).mono ?_;rintro e w1 ⟨rfl,hb1⟩;(first|(have hB':=D5 hB hb1;clear hB;have hB:=hB';clear hB')|(have hB:=hb1));clear hb1;(try clear hc hf);obtain⟨hc,hf⟩:=E2 hB)|(go_at_call 206;refine (Ae6 _ _ _).mono ?_;rintro e w1 ⟨rfl,hb1⟩;(first|(have hB':=D5 hB hb1;clear hB;have hB:=hB';clear hB')|(have hB:=hb1));clear hb1;(try clear hc hf);obtain⟨hc,hf⟩:=E2 hB))
  go_ret
  exact⟨D6 (by rw[hr.out];simp[hA,hP]),D5 ((A4 _ _).alloc (A3 _) _) hB⟩
theorem Ahy (nm a b:ByteArray) (n wi:Int) (t e:ByteArray) (w:World) (ha:a.size<=maxLen) (_hb:b.size<=maxLen) :
  Calls Tryz.prog 183 #[.agg #[.string nm,.int .i64 5,.string a,.string b,.int .i64 n,.int .i64 wi,.string t,.string e]] w λe w'=>e=.returned (.bool (argsB 5 a b n wi))/\Below w.heap.size w w':=by
 have hr:Hid (argsB 5 a b n wi=(nameB a&&(b.toList.isEmpty)&&n==0)):=by show _=_;simp[argsB,Bool.and_assoc]
 cases hA:nameB a<;>cases hP:(b.toList.isEmpty)
 all_goals
  go_enter Tryz.func183,Tryz.ntmps183
  go_wp2_with (first|(go_at_call 177;refine (Agg _ _ _ _ _ _ _ _).mono ?_;rintro e w1 ⟨rfl,hb1⟩;(first|(have hB':=D5 hB hb1;clear hB;have hB:=hB';clear hB')|(have hB:=hb1));clear hb1;(try clear hc hf);obtain⟨hc,hf⟩:=E2 hB)|(go_at_call 182;refine (K5 _ _ (by assumption)).mono ?_;rintro e w1 ⟨rfl,hb1⟩;(first|(have hB':=D5 hB hb1;clear hB;have hB:=hB';clear hB')|(have hB:=hb1));clear hb1;(try clear hc hf);obtain⟨hc,hf⟩:=E2 hB)|(go_at_call 205;refine (Ahl _ _ _).mono ?_;rintro e w1 ⟨rfl,hb1⟩;(first|(have hB':=D5 hB hb1;clear hB;have hB:=hB';clear hB')|(have hB:=hb1));clear hb1;(try clear hc hf);obtain⟨hc,hf⟩:=E2 hB)|(go_at_call 206;refine (Afw _ _ _).mono ?_;rintro e w1 ⟨rfl,hb1⟩;(first|(have hB':=D5 hB hb1;clear hB;have hB:=hB';clear hB')|(have hB:=hb1));clear hb1;(try clear hc hf);obtain⟨hc,hf⟩:=E2 hB))
  go_ret
  exact⟨D6 (by rw[hr.out];simp[hA,hP]),D5 ((A4 _ _).alloc (A3 _) _) hB⟩
theorem Ahz (nm:ByteArray) (k:Int) (a b:ByteArray) (n wi:Int) (t e:ByteArray) (w:World) (h1:(k==1)=false) (h2:(k==2)=false) (h3:(k==3)=false) (h4:(k==4)=false) (h5:(k==5)=false) :
  Calls Tryz.prog 183 #[.agg #[.string nm,.int .i64 k,.string a,.string b,.int .i64 n,.int .i64 wi,.string t,.string e]] w λe w'=>e=.returned (.bool (argsB k a b n wi))/\Below w.heap.size w w':=by
 have hr:Hid (argsB k a b n wi=false):=by show _=_;simp at h1 h2 h3 h4 h5;simp[argsB,h1,h2,h3,h4,h5]
 go_enter Tryz.func183,Tryz.ntmps183
 go_wp2_with (go_at_call 177;refine (AlA _ _ _ _ _ _ _ _ _ (by assumption) (by assumption) (by assumption) (by assumption) (by assumption)).mono ?_;rintro e w1 ⟨rfl,hb1⟩;(first|(have hB':=D5 hB hb1;clear hB;have hB:=hB';clear hB')|(have hB:=hb1));clear hb1;(try clear hc hf);obtain⟨hc,hf⟩:=E2 hB)
 go_ret
 exact⟨D6 (by rw[hr.out]),D5 ((A4 _ _).alloc (A3 _) _) hB⟩
theorem AiS (nm:ByteArray) (k:Int) (a b:ByteArray) (n wi:Int) (t e:ByteArray) (w:World) (ha:a.size<=maxLen) (hb:b.size<=maxLen) :
  Calls Tryz.prog 183 #[.agg #[.string nm,.int .i64 k,.string a,.string b,.int .i64 n,.int .i64 wi,.string t,.string e]] w λe w'=>e=.returned (.bool (argsB k a b n wi))/\Below w.heap.size w w':=by
 by_cases h1:k=1
 ·subst h1;exact Ahv nm a b n wi t e w ha hb
 by_cases h2:k=2
 ·subst h2;exact Ahw nm a b n wi t e w ha hb
 by_cases h3:k=3
 ·subst h3;exact Ahx nm a b n wi t e w ha hb
 by_cases h4:k=4
 ·subst h4;exact Agx nm a b n wi t e w ha hb
 by_cases h5:k=5
 ·subst h5;exact Ahy nm a b n wi t e w ha hb
 exact Ahz nm k a b n wi t e w (by simpa using h1) (by simpa using h2) (by simpa using h3) (by simpa using h4) (by simpa using h5)
theorem K8 (nm:ByteArray) (k:Int) (a b:ByteArray) (n wi:Int) (t e:ByteArray) (w:World) (hE:Ends w) (hnm:nm.size<=maxLen) (ha:a.size<=maxLen) (hb:b.size<=maxLen) (ht:t.size<=maxLen) (he:e.size<=maxLen) :
  Calls Tryz.prog 168 #[.agg #[.string nm,.int .i64 k,.string a,.string b,.int .i64 n,.int .i64 wi,.string t,.string e]] w λe' w'=>e'=.returned (.bool (phaseB nm k a b n wi t e))/\Below w.heap.size w w':=by
 cases h1:nameB nm
 ·go_enter Tryz.func168,Tryz.ntmps168
  go_wp2_with (go_at_call 182;refine (K5 _ _ (by assumption)).mono ?_;rintro e w1 ⟨rfl,hb1⟩;(first|(have hB':=D5 hB hb1;clear hB;have hB:=hB';clear hB')|(have hB:=hb1));clear hb1;(try clear hc hf);obtain⟨hc,hf⟩:=E2 hB)
  go_ret
  exact⟨D6 (by simp[phaseB,h1]),D5 ((A4 _ _).alloc (A3 _) _) hB⟩
 have HE:Hid (Ends w):=hE;clear hE;cases h2:(endN nm==0)
 ·have h2':(endN nm != 0)=true:=by simp[bne,h2]
  go_enter Tryz.func168,Tryz.ntmps168
  go_wp2_with (first|(go_at_call 182;refine (K5 _ _ (by assumption)).mono ?_;rintro e w1 ⟨rfl,hb1⟩;(first|(have hB':=D5 hB hb1;clear hB;have hB:=hB';clear hB')|(have hB:=hb1));clear hb1;(try clear hc hf);obtain⟨hc,hf⟩:=E2 hB)|(go_at_call 175;refine (N7 _ _ (HE.out.up (D5 ((A4 _ _).alloc (A3 _) _) hB))).mono ?_;rintro e w' ⟨rfl,hw⟩;obtain rfl:=hw.symm;clear hw))
  go_ret
  exact⟨D6 (by simp[phaseB,h2]),D5 ((A4 _ _).alloc (A3 _) _) hB⟩
 have h2':(endN nm != 0)=false:=by simp[bne,h2]
 have H2:Hid ((endN nm==0)=true):=h2;clear h2;by_cases h3:1<=wi/\wi<=1000
 case neg =>
  have h3':Hid (inB wi 1 1000=false):=(Aax _ _ _).2 h3;by_cases h4:1<=wi
  ·have h5:1000<wi:=by omega
   clear h3;go_enter Tryz.func168,Tryz.ntmps168
   go_wp2_with (first|(go_at_call 182;refine (K5 _ _ (by assumption)).mono ?_;rintro e w1 ⟨rfl,hb1⟩;(first|(have hB':=D5 hB hb1;clear hB;have hB:=hB';clear hB')|(have hB:=hb1));clear hb1;(try clear hc hf);obtain⟨hc,hf⟩:=E2 hB)|(go_at_call 175;refine (N7 _ _ (HE.out.up (D5 ((A4 _ _).alloc (A3 _) _) hB))).mono ?_;rintro e w' ⟨rfl,hw⟩;obtain rfl:=hw.symm;clear hw))
   go_ret
   exact⟨D6 (by simp[phaseB,h3'.out]),D5 ((A4 _ _).alloc (A3 _) _) hB⟩
  ·clear h3
   go_enter Tryz.func168,Tryz.ntmps168
   go_wp2_with (first|(go_at_call 182;refine (K5 _ _ (by assumption)).mono ?_;rintro e w1 ⟨rfl,hb1⟩;(first|(have hB':=D5 hB hb1;clear hB;have hB:=hB';clear hB')|(have hB:=hb1));clear hb1;(try clear hc hf);obtain⟨hc,hf⟩:=E2 hB)|(go_at_call 175;refine (N7 _ _ (HE.out.up (D5 ((A4 _ _).alloc (A3 _) _) hB))).mono ?_;rintro e w' ⟨rfl,hw⟩;obtain rfl:=hw.symm;clear hw))
   go_ret
   exact⟨D6 (by simp[phaseB,h3'.out]),D5 ((A4 _ _).alloc (A3 _) _) hB⟩
 have H3:Hid (inB wi 1 1000=true):=(P9 _ _ _).2 h3;obtain⟨h3a,h3b⟩:=h3;cases h4:argsB k a b n wi<;>cases h5:nameB t
 all_goals
  go_enter Tryz.func168,Tryz.ntmps168
  go_wp2_with (first|(go_at_call 182;refine (K5 _ _ (by assumption)).mono ?_;rintro e w1 ⟨rfl,hb1⟩;(first|(have hB':=D5 hB hb1;clear hB;have hB:=hB';clear hB')|(have hB:=hb1));clear hb1;(try clear hc hf);obtain⟨hc,hf⟩:=E2 hB)|(go_at_call 175;refine (N7 _ _ (HE.out.up (D5 ((A4 _ _).alloc (A3 _) _) hB))).mono ?_;rintro e w' ⟨rfl,hw⟩;obtain rfl:=hw.symm;clear hw)|(go_at_call 183;refine (AiS _ _ _ _ _ _ _ _ _ (by assumption) (by assumption)).mono ?_;rintro e w1 ⟨rfl,hb1⟩;(first|(have hB':=D5 hB hb1;clear hB;have hB:=hB';clear hB')|(have hB:=hb1));clear hb1;(try clear hc hf);obtain⟨hc,hf⟩:=E2 hB))
  go_ret
  exact⟨D6 (by simp[phaseB,h1,H2.out,H3.out,h4,h5]),D5 ((A4 _ _).alloc (A3 _) _) hB⟩
theorem Abk (ps:List Ph) (b o c:Nat) (w:World) (hE:Ends w) (hr:RecAt w b o ps) (hb:b<w.heap.size) (hs:Sized ps) (hcap:ps.length<=c) (hc9:c<=9223372036854775807) :
  Calls Tryz.prog 145 #[.slice (some ⟨b,o,none⟩) ps.length c] w λe w'=>e=.returned (.bool (recB ps))/\Below w.heap.size w w':=by
 by_cases hl:1<=ps.length
 case neg =>
  go_enter Tryz.func145,Tryz.ntmps145
  go_wp2
  go_ret
  exact⟨D6 (Ad1 ps (by omega)).symm,A4 _ _⟩
 by_cases hl2:ps.length<=12
 case neg =>
  go_enter Tryz.func145,Tryz.ntmps145
  go_wp2
  go_ret
  exact⟨D6 (Ad1 ps (by omega)).symm,A4 _ _⟩
 have HE:Hid (Ends w):=hE;clear hE;go_enter Tryz.func145,Tryz.ntmps145
 go_wp2_with fail
 go_loopw [16] (λi w'=>∃k:Nat,k<=ps.length/\i=.int .i64 k/\allI ps k/\Below w.heap.size w w') (λi _=>ps.length-(intOf i).toNat)
 case atStart=>exact⟨0,by omega,rfl,Akg ps,A4 _ _⟩
 case round =>
  obtain⟨k,hk,rfl,hal,hB⟩:=hrel;have Hal:Hid (allI ps k):=hal;clear hal;by_cases hp:k<ps.length
  ·obtain⟨c0,c1,c2,c3,c4,c5,c6,c7⟩:=hr.cells k hp
   obtain⟨z0,z1,z2,z3,z4⟩:=hs ps[k] (by simp);obtain⟨hc,hf⟩:=E2 hB;have Hno:Hid (stepI ps k ps[k]=false->recB ps=false):=Al5 ps k hp;have Hyes:Hid (stepI ps k ps[k]=true->allI ps (k+1)):=Ake Hal.out hp;have hB0:=hB;clear hB;by_cases hck:c=k+1
   ·have hr':RecAt w b o (ps.drop (k+1)):=by
     rw[List.drop_of_length_le (by omega)];intro i p hp;simp at hp
    clear hr hs;subst hck;cases h1:phaseB (ps[k]).nm (ps[k]).k (ps[k]).a (ps[k]).b (ps[k]).n (ps[k]).wi (ps[k]).t (ps[k]).e
    ·go_wp2_with (first|(go_at_call 168;refine (K8 _ _ _ _ _ _ _ _ _ (HE.out.up (hB0.alloc hB0.size _)) z0 z1 z2 z3 z4).mono ?_;rintro e w1 ⟨rfl,hb1⟩;(first|(have hB':=D5 hB hb1;clear hB;have hB:=hB';clear hB')|(have hB:=hb1));clear hb1;(try clear hc hf);obtain⟨hc,hf⟩:=E2 hB)|(go_at_call 169;refine (X0 (ps.drop (k+1)) _ _ _ _ _ _ (by rw[A8]<;>omega) (hr'.up (D5 (hB0.alloc hB0.size _) hB) hb) (A1 hb (D5 (hB0.alloc hB0.size _) hB).size) (by rw[A8];omega)).mono ?_;rintro e w1 ⟨rfl,hb1⟩;(first|(have hB':=D5 hB hb1;clear hB;have hB:=hB';clear hB')|(have hB:=hb1));clear hb1;(try clear hc hf);obtain⟨hc,hf⟩:=E2 hB)|(go_at_call 170;refine (S4 (ps.drop (k+1)) _ _ _ _ _ _ (by rw[A8]<;>omega) (HE.out.up (D5 (hB0.alloc hB0.size _) hB)) (hr'.up (D5 (hB0.alloc hB0.size _) hB) hb) (A1 hb (D5 (hB0.alloc hB0.size _) hB).size) (by rw[A8];omega)).mono ?_;rintro e w1 ⟨rfl,hb1⟩;(first|(have hB':=D5 hB hb1;clear hB;have hB:=hB';clear hB')|(have hB:=hb1));clear hb1;(try clear hc hf);obtain⟨hc,hf⟩:=E2 hB))
     go_ret
     exact⟨D6 (Hno.out (by simp[stepI,Ph.okB,h1])).symm,D5 (hB0.alloc hB0.size _) hB⟩
    cases h2:hasB (ps.drop (k+1)) (ps[k]).nm
    case true =>
     go_wp2_with (first|(go_at_call 168;refine (K8 _ _ _ _ _ _ _ _ _ (HE.out.up (hB0.alloc hB0.size _)) z0 z1 z2 z3 z4).mono ?_;rintro e w1 ⟨rfl,hb1⟩;(first|(have hB':=D5 hB hb1;clear hB;have hB:=hB';clear hB')|(have hB:=hb1));clear hb1;(try clear hc hf);obtain⟨hc,hf⟩:=E2 hB)|(go_at_call 169;refine (X0 (ps.drop (k+1)) _ _ _ _ _ _ (by rw[A8]<;>omega) (hr'.up (D5 (hB0.alloc hB0.size _) hB) hb) (A1 hb (D5 (hB0.alloc hB0.size _) hB).size) (by rw[A8];omega)).mono ?_;rintro e w1 ⟨rfl,hb1⟩;(first|(have hB':=D5 hB hb1;clear hB;have hB:=hB';clear hB')|(have hB:=hb1));clear hb1;(try clear hc hf);obtain⟨hc,hf⟩:=E2 hB)|(go_at_call 170;refine (S4 (ps.drop (k+1)) _ _ _ _ _ _ (by rw[A8]<;>omega) (HE.out.up (D5 (hB0.alloc hB0.size _) hB)) (hr'.up (D5 (hB0.alloc hB0.size _) hB) hb) (A1 hb (D5 (hB0.alloc hB0.size _) hB).size) (by rw[A8];omega)).mono ?_;rintro e w1 ⟨rfl,hb1⟩;(first|(have hB':=D5 hB hb1;clear hB;have hB:=hB';clear hB')|(have hB:=hb1));clear hb1;(try clear hc hf);obtain⟨hc,hf⟩:=E2 hB))
     go_ret
     exact⟨D6 (Hno.out (by simp[stepI,h2])).symm,D5 (hB0.alloc hB0.size _) hB⟩
    cases h3:goesB (ps.drop (k+1)) (ps[k]).t
    ·go_wp2_with (first|(go_at_call 168;refine (K8 _ _ _ _ _ _ _ _ _ (HE.out.up (hB0.alloc hB0.size _)) z0 z1 z2 z3 z4).mono ?_;rintro e w1 ⟨rfl,hb1⟩;(first|(have hB':=D5 hB hb1;clear hB;have hB:=hB';clear hB')|(have hB:=hb1));clear hb1;(try clear hc hf);obtain⟨hc,hf⟩:=E2 hB)|(go_at_call 169;refine (X0 (ps.drop (k+1)) _ _ _ _ _ _ (by rw[A8]<;>omega) (hr'.up (D5 (hB0.alloc hB0.size _) hB) hb) (A1 hb (D5 (hB0.alloc hB0.size _) hB).size) (by rw[A8];omega)).mono ?_;rintro e w1 ⟨rfl,hb1⟩;(first|(have hB':=D5 hB hb1;clear hB;have hB:=hB';clear hB')|(have hB:=hb1));clear hb1;(try clear hc hf);obtain⟨hc,hf⟩:=E2 hB)|(go_at_call 170;refine (S4 (ps.drop (k+1)) _ _ _ _ _ _ (by rw[A8]<;>omega) (HE.out.up (D5 (hB0.alloc hB0.size _) hB)) (hr'.up (D5 (hB0.alloc hB0.size _) hB) hb) (A1 hb (D5 (hB0.alloc hB0.size _) hB).size) (by rw[A8];omega)).mono ?_;rintro e w1 ⟨rfl,hb1⟩;(first|(have hB':=D5 hB hb1;clear hB;have hB:=hB';clear hB')|(have hB:=hb1));clear hb1;(try clear hc hf);obtain⟨hc,hf⟩:=E2 hB))
     go_ret
     exact⟨D6 (Hno.out (by simp[stepI,h3])).symm,D5 (hB0.alloc hB0.size _) hB⟩
    cases h4:goesB (ps.drop (k+1)) (ps[k]).e
    ·go_wp2_with (first|(go_at_call 168;refine (K8 _ _ _ _ _ _ _ _ _ (HE.out.up (hB0.alloc hB0.size _)) z0 z1 z2 z3 z4).mono ?_;rintro e w1 ⟨rfl,hb1⟩;(first|(have hB':=D5 hB hb1;clear hB;have hB:=hB';clear hB')|(have hB:=hb1));clear hb1;(try clear hc hf);obtain⟨hc,hf⟩:=E2 hB)|(go_at_call 169;refine (X0 (ps.drop (k+1)) _ _ _ _ _ _ (by rw[A8]<;>omega) (hr'.up (D5 (hB0.alloc hB0.size _) hB) hb) (A1 hb (D5 (hB0.alloc hB0.size _) hB).size) (by rw[A8];omega)).mono ?_;rintro e w1 ⟨rfl,hb1⟩;(first|(have hB':=D5 hB hb1;clear hB;have hB:=hB';clear hB')|(have hB:=hb1));clear hb1;(try clear hc hf);obtain⟨hc,hf⟩:=E2 hB)|(go_at_call 170;refine (S4 (ps.drop (k+1)) _ _ _ _ _ _ (by rw[A8]<;>omega) (HE.out.up (D5 (hB0.alloc hB0.size _) hB)) (hr'.up (D5 (hB0.alloc hB0.size _) hB) hb) (A1 hb (D5 (hB0.alloc hB0.size _) hB).size) (by rw[A8];omega)).mono ?_;rintro e w1 ⟨rfl,hb1⟩;(first|(have hB':=D5 hB hb1;clear hB;have hB:=hB';clear hB')|(have hB:=hb1));clear hb1;(try clear hc hf);obtain⟨hc,hf⟩:=E2 hB))
     go_ret
     exact⟨D6 (Hno.out (by simp[stepI,h4])).symm,D5 (hB0.alloc hB0.size _) hB⟩
    have H5:Hid (stepI ps k ps[k]=true):=by show _=_;simp[stepI,Ph.okB,h1,h2,h3,h4]
    go_wp2_with (first|(go_at_call 168;refine (K8 _ _ _ _ _ _ _ _ _ (HE.out.up (hB0.alloc hB0.size _)) z0 z1 z2 z3 z4).mono ?_;rintro e w1 ⟨rfl,hb1⟩;(first|(have hB':=D5 hB hb1;clear hB;have hB:=hB';clear hB')|(have hB:=hb1));clear hb1;(try clear hc hf);obtain⟨hc,hf⟩:=E2 hB)|(go_at_call 169;refine (X0 (ps.drop (k+1)) _ _ _ _ _ _ (by rw[A8]<;>omega) (hr'.up (D5 (hB0.alloc hB0.size _) hB) hb) (A1 hb (D5 (hB0.alloc hB0.size _) hB).size) (by rw[A8];omega)).mono ?_;rintro e w1 ⟨rfl,hb1⟩;(first|(have hB':=D5 hB hb1;clear hB;have hB:=hB';clear hB')|(have hB:=hb1));clear hb1;(try clear hc hf);obtain⟨hc,hf⟩:=E2 hB)|(go_at_call 170;refine (S4 (ps.drop (k+1)) _ _ _ _ _ _ (by rw[A8]<;>omega) (HE.out.up (D5 (hB0.alloc hB0.size _) hB)) (hr'.up (D5 (hB0.alloc hB0.size _) hB) hb) (A1 hb (D5 (hB0.alloc hB0.size _) hB).size) (by rw[A8];omega)).mono ?_;rintro e w1 ⟨rfl,hb1⟩;(first|(have hB':=D5 hB hb1;clear hB;have hB:=hB';clear hB')|(have hB:=hb1));clear hb1;(try clear hc hf);obtain⟨hc,hf⟩:=E2 hB))
    go_roundw
    case rel=>exact⟨k+1,by omega,by go_num,Hyes.out H5.out,D5 (hB0.alloc hB0.size _) hB⟩
    case measure=>simp[intOf];omega
   ·have hr':RecAt w b (o+(k+1)*8) (ps.drop (k+1)):=hr.drop (k+1)
    clear hr hs;cases h1:phaseB (ps[k]).nm (ps[k]).k (ps[k]).a (ps[k]).b (ps[k]).n (ps[k]).wi (ps[k]).t (ps[k]).e
    ·go_wp2_with (first|(go_at_call 168;refine (K8 _ _ _ _ _ _ _ _ _ (HE.out.up (hB0.alloc hB0.size _)) z0 z1 z2 z3 z4).mono ?_;rintro e w1 ⟨rfl,hb1⟩;(first|(have hB':=D5 hB hb1;clear hB;have hB:=hB';clear hB')|(have hB:=hb1));clear hb1;(try clear hc hf);obtain⟨hc,hf⟩:=E2 hB)|(go_at_call 169;refine (X0 (ps.drop (k+1)) _ _ _ _ _ _ (by rw[A8]<;>omega) (hr'.up (D5 (hB0.alloc hB0.size _) hB) hb) (A1 hb (D5 (hB0.alloc hB0.size _) hB).size) (by rw[A8];omega)).mono ?_;rintro e w1 ⟨rfl,hb1⟩;(first|(have hB':=D5 hB hb1;clear hB;have hB:=hB';clear hB')|(have hB:=hb1));clear hb1;(try clear hc hf);obtain⟨hc,hf⟩:=E2 hB)|(go_at_call 170;refine (S4 (ps.drop (k+1)) _ _ _ _ _ _ (by rw[A8]<;>omega) (HE.out.up (D5 (hB0.alloc hB0.size _) hB)) (hr'.up (D5 (hB0.alloc hB0.size _) hB) hb) (A1 hb (D5 (hB0.alloc hB0.size _) hB).size) (by rw[A8];omega)).mono ?_;rintro e w1 ⟨rfl,hb1⟩;(first|(have hB':=D5 hB hb1;clear hB;have hB:=hB';clear hB')|(have hB:=hb1));clear hb1;(try clear hc hf);obtain⟨hc,hf⟩:=E2 hB))
     go_ret
     exact⟨D6 (Hno.out (by simp[stepI,Ph.okB,h1])).symm,D5 (hB0.alloc hB0.size _) hB⟩
    cases h2:hasB (ps.drop (k+1)) (ps[k]).nm
    case true =>
     go_wp2_with (first|(go_at_call 168;refine (K8 _ _ _ _ _ _ _ _ _ (HE.out.up (hB0.alloc hB0.size _)) z0 z1 z2 z3 z4).mono ?_;rintro e w1 ⟨rfl,hb1⟩;(first|(have hB':=D5 hB hb1;clear hB;have hB:=hB';clear hB')|(have hB:=hb1));clear hb1;(try clear hc hf);obtain⟨hc,hf⟩:=E2 hB)|(go_at_call 169;refine (X0 (ps.drop (k+1)) _ _ _ _ _ _ (by rw[A8]<;>omega) (hr'.up (D5 (hB0.alloc hB0.size _) hB) hb) (A1 hb (D5 (hB0.alloc hB0.size _) hB).size) (by rw[A8];omega)).mono ?_;rintro e w1 ⟨rfl,hb1⟩;(first|(have hB':=D5 hB hb1;clear hB;have hB:=hB';clear hB')|(have hB:=hb1));clear hb1;(try clear hc hf);obtain⟨hc,hf⟩:=E2 hB)|(go_at_call 170;refine (S4 (ps.drop (k+1)) _ _ _ _ _ _ (by rw[A8]<;>omega) (HE.out.up (D5 (hB0.alloc hB0.size _) hB)) (hr'.up (D5 (hB0.alloc hB0.size _) hB) hb) (A1 hb (D5 (hB0.alloc hB0.size _) hB).size) (by rw[A8];omega)).mono ?_;rintro e w1 ⟨rfl,hb1⟩;(first|(have hB':=D5 hB hb1;clear hB;have hB:=hB';clear hB')|(have hB:=hb1));clear hb1;(try clear hc hf);obtain⟨hc,hf⟩:=E2 hB))
     go_ret
     exact⟨D6 (Hno.out (by simp[stepI,h2])).symm,D5 (hB0.alloc hB0.size _) hB⟩
    cases h3:goesB (ps.drop (k+1)) (ps[k]).t
    ·go_wp2_with (first|(go_at_call 168;refine (K8 _ _ _ _ _ _ _ _ _ (HE.out.up (hB0.alloc hB0.size _)) z0 z1 z2 z3 z4).mono ?_;rintro e w1 ⟨rfl,hb1⟩;(first|(have hB':=D5 hB hb1;clear hB;have hB:=hB';clear hB')|(have hB:=hb1));clear hb1;(try clear hc hf);obtain⟨hc,hf⟩:=E2 hB)|(go_at_call 169;refine (X0 (ps.drop (k+1)) _ _ _ _ _ _ (by rw[A8]<;>omega) (hr'.up (D5 (hB0.alloc hB0.size _) hB) hb) (A1 hb (D5 (hB0.alloc hB0.size _) hB).size) (by rw[A8];omega)).mono ?_;rintro e w1 ⟨rfl,hb1⟩;(first|(have hB':=D5 hB hb1;clear hB;have hB:=hB';clear hB')|(have hB:=hb1));clear hb1;(try clear hc hf);obtain⟨hc,hf⟩:=E2 hB)|(go_at_call 170;refine (S4 (ps.drop (k+1)) _ _ _ _ _ _ (by rw[A8]<;>omega) (HE.out.up (D5 (hB0.alloc hB0.size _) hB)) (hr'.up (D5 (hB0.alloc hB0.size _) hB) hb) (A1 hb (D5 (hB0.alloc hB0.size _) hB).size) (by rw[A8];omega)).mono ?_;rintro e w1 ⟨rfl,hb1⟩;(first|(have hB':=D5 hB hb1;clear hB;have hB:=hB';clear hB')|(have hB:=hb1));clear hb1;(try clear hc hf);obtain⟨hc,hf⟩:=E2 hB))
     go_ret
     exact⟨D6 (Hno.out (by simp[stepI,h3])).symm,D5 (hB0.alloc hB0.size _) hB⟩
    cases h4:goesB (ps.drop (k+1)) (ps[k]).e
    ·go_wp2_with (first|(go_at_call 168;refine (K8 _ _ _ _ _ _ _ _ _ (HE.out.up (hB0.alloc hB0.size _)) z0 z1 z2 z3 z4).mono ?_;rintro e w1 ⟨rfl,hb1⟩;(first|(have hB':=D5 hB hb1;clear hB;have hB:=hB';clear hB')|(have hB:=hb1));clear hb1;(try clear hc hf);obtain⟨hc,hf⟩:=E2 hB)|(go_at_call 169;refine (X0 (ps.drop (k+1)) _ _ _ _ _ _ (by rw[A8]<;>omega) (hr'.up (D5 (hB0.alloc hB0.size _) hB) hb) (A1 hb (D5 (hB0.alloc hB0.size _) hB).size) (by rw[A8];omega)).mono ?_;rintro e w1 ⟨rfl,hb1⟩;(first|(have hB':=D5 hB hb1;clear hB;have hB:=hB';clear hB')|(have hB:=hb1));clear hb1;(try clear hc hf);obtain⟨hc,hf⟩:=E2 hB)|(go_at_call 170;refine (S4 (ps.drop (k+1)) _ _ _ _ _ _ (by rw[A8]<;>omega) (HE.out.up (D5 (hB0.alloc hB0.size _) hB)) (hr'.up (D5 (hB0.alloc hB0.size _) hB) hb) (A1 hb (D5 (hB0.alloc hB0.size _) hB).size) (by rw[A8];omega)).mono ?_;rintro e w1 ⟨rfl,hb1⟩;(first|(have hB':=D5 hB hb1;clear hB;have hB:=hB';clear hB')|(have hB:=hb1));clear hb1;(try clear hc hf);obtain⟨hc,hf⟩:=E2 hB))
     go_ret
     exact⟨D6 (Hno.out (by simp[stepI,h4])).symm,D5 (hB0.alloc hB0.size _) hB⟩
    have H5:Hid (stepI ps k ps[k]=true):=by show _=_;simp[stepI,Ph.okB,h1,h2,h3,h4]
    go_wp2_with (first|(go_at_call 168;refine (K8 _ _ _ _ _ _ _ _ _ (HE.out.up (hB0.alloc hB0.size _)) z0 z1 z2 z3 z4).mono ?_;rintro e w1 ⟨rfl,hb1⟩;(first|(have hB':=D5 hB hb1;clear hB;have hB:=hB';clear hB')|(have hB:=hb1));clear hb1;(try clear hc hf);obtain⟨hc,hf⟩:=E2 hB)|(go_at_call 169;refine (X0 (ps.drop (k+1)) _ _ _ _ _ _ (by rw[A8]<;>omega) (hr'.up (D5 (hB0.alloc hB0.size _) hB) hb) (A1 hb (D5 (hB0.alloc hB0.size _) hB).size) (by rw[A8];omega)).mono ?_;rintro e w1 ⟨rfl,hb1⟩;(first|(have hB':=D5 hB hb1;clear hB;have hB:=hB';clear hB')|(have hB:=hb1));clear hb1;(try clear hc hf);obtain⟨hc,hf⟩:=E2 hB)|(go_at_call 170;refine (S4 (ps.drop (k+1)) _ _ _ _ _ _ (by rw[A8]<;>omega) (HE.out.up (D5 (hB0.alloc hB0.size _) hB)) (hr'.up (D5 (hB0.alloc hB0.size _) hB) hb) (A1 hb (D5 (hB0.alloc hB0.size _) hB).size) (by rw[A8];omega)).mono ?_;rintro e w1 ⟨rfl,hb1⟩;(first|(have hB':=D5 hB hb1;clear hB;have hB:=hB';clear hB')|(have hB:=hb1));clear hb1;(try clear hc hf);obtain⟨hc,hf⟩:=E2 hB))
    go_roundw
    case rel=>exact⟨k+1,by omega,by go_num,Hyes.out H5.out,D5 (hB0.alloc hB0.size _) hB⟩
    case measure=>simp[intOf];omega
  ·go_wp2
   go_ret
   exact⟨D6 (Aki ps k ⟨hl,hl2⟩ hk hp Hal.out).symm,hB⟩
end Go.Proofs.YtgecdacgmehmbaaGreatDoor
