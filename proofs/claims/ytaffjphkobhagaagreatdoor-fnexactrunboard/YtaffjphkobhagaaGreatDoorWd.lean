/- The walks of a phase, the program's side: the whole. -/
import Derived.Test.YtaffjphkobhagaaGreatDoorWc
set_option maxHeartbeats 1000000
namespace Go.Proofs.YtaffjphkobhagaaGreatDoor
open Proofs.Tryz
open Go.RowKit
theorem Ue(nm a b:BA)(n wi:Int)(t e:BA)(w:World)(ha:a.size<=maxLen)(hb:b.size<=maxLen):
  cU prog 217 #[.agg #[Tz nm,Iz 1,Tz a,Tz b,Iz n,Iz wi,Tz t,Tz e]] w (.bool (L4 1 a b n wi)):=by
 have hr:Hid (L4 1 a b n wi=(E4 a&&(E4 b)&&U7 n 1 1000)):=by show _=_;simp[L4,Bool.and_assoc]
 cases hA:E4 a<;>cases hP:(E4 b)
 all_goals
  delta cU;go_in;go_wp2_with (first|(go_at_call 190;refine (RC _ _ _ _ _ _ _ _).mono ?_;rintro e w1 ⟨rfl,a0⟩;obtain⟨hB,hc,hf⟩:=gr a0)|(go_at_call 215;refine (O3 _ _ sO).mono ?_;rintro e w1 ⟨rfl,a0⟩;obtain⟨hB,hc,hf⟩:=gr a0)|(go_at_call 226;refine (Ua _ _ _ _ sO).mono ?_;rintro e w1 ⟨rfl,a0⟩;obtain⟨hB,hc,hf⟩:=gr a0)|(go_at_call 227;refine (PT _ _ _ _).mono ?_;rintro e w1 ⟨rfl,a0⟩;obtain⟨hB,hc,hf⟩:=gr a0))
  go_ret;exact⟨D4 (by rw[hr.out];simp[hA,hP]),D3 ((A4 _ _).alloc (A3 _) _) hB⟩
theorem Uf(nm a b:BA)(n wi:Int)(t e:BA)(w:World)(ha:a.size<=maxLen)(hb:b.size<=maxLen):
  cU prog 217 #[.agg #[Tz nm,Iz 2,Tz a,Tz b,Iz n,Iz wi,Tz t,Tz e]] w (.bool (L4 2 a b n wi)):=by
 have hr:Hid (L4 2 a b n wi=(E4 a&&(E4 b && !(a.toList==b.toList))&&U7 n 1 1000)):=by show _=_;simp[L4,Bool.and_assoc]
 cases hA:E4 a<;>cases hP:(E4 b && !(a.toList==b.toList))
 all_goals
  delta cU;go_in;go_wp2_with (first|(go_at_call 190;refine (RD _ _ _ _ _ _ _ _).mono ?_;rintro e w1 ⟨rfl,a0⟩;obtain⟨hB,hc,hf⟩:=gr a0)|(go_at_call 215;refine (O3 _ _ sO).mono ?_;rintro e w1 ⟨rfl,a0⟩;obtain⟨hB,hc,hf⟩:=gr a0)|(go_at_call 226;refine (Ub _ _ _ _ sO).mono ?_;rintro e w1 ⟨rfl,a0⟩;obtain⟨hB,hc,hf⟩:=gr a0)|(go_at_call 227;refine (PU _ _ _ _).mono ?_;rintro e w1 ⟨rfl,a0⟩;obtain⟨hB,hc,hf⟩:=gr a0))
  go_ret;exact⟨D4 (by rw[hr.out];simp[hA,hP]),D3 ((A4 _ _).alloc (A3 _) _) hB⟩
theorem Ug(nm a b:BA)(n wi:Int)(t e:BA)(w:World)(ha:a.size<=maxLen)(_hb:b.size<=maxLen):
  cU prog 217 #[.agg #[Tz nm,Iz 3,Tz a,Tz b,Iz n,Iz wi,Tz t,Tz e]] w (.bool (L4 3 a b n wi)):=by
 have hr:Hid (L4 3 a b n wi=(E4 a&&(b.toList.isEmpty)&&U7 n 1 wi)):=by show _=_;simp[L4,Bool.and_assoc]
 cases hA:E4 a<;>cases hP:(b.toList.isEmpty)
 all_goals
  delta cU;go_in;go_wp2_with (first|(go_at_call 190;refine (RE _ _ _ _ _ _ _ _).mono ?_;rintro e w1 ⟨rfl,a0⟩;obtain⟨hB,hc,hf⟩:=gr a0)|(go_at_call 215;refine (O3 _ _ sO).mono ?_;rintro e w1 ⟨rfl,a0⟩;obtain⟨hB,hc,hf⟩:=gr a0)|(go_at_call 226;refine (Uc _ _ _ _).mono ?_;rintro e w1 ⟨rfl,a0⟩;obtain⟨hB,hc,hf⟩:=gr a0)|(go_at_call 227;refine (PV _ _ _ _).mono ?_;rintro e w1 ⟨rfl,a0⟩;obtain⟨hB,hc,hf⟩:=gr a0))
  go_ret;exact⟨D4 (by rw[hr.out];simp[hA,hP]),D3 ((A4 _ _).alloc (A3 _) _) hB⟩
theorem RI(nm a b:BA)(n wi:Int)(t e:BA)(w:World)(ha:a.size<=maxLen)(_hb:b.size<=maxLen):
  cU prog 217 #[.agg #[Tz nm,Iz 4,Tz a,Tz b,Iz n,Iz wi,Tz t,Tz e]] w (.bool (L4 4 a b n wi)):=by
 have hr:Hid (L4 4 a b n wi=(E4 a&&(b.toList.isEmpty)&&n==0)):=by show _=_;simp[L4,Bool.and_assoc]
 cases hA:E4 a<;>cases hP:(b.toList.isEmpty)
 all_goals
  delta cU;go_in;go_wp2_with (first|(go_at_call 190;refine (Pd _ _ _ _ _ _ _ _).mono ?_;rintro e w1 ⟨rfl,a0⟩;obtain⟨hB,hc,hf⟩:=gr a0)|(go_at_call 215;refine (O3 _ _ sO).mono ?_;rintro e w1 ⟨rfl,a0⟩;obtain⟨hB,hc,hf⟩:=gr a0)|(go_at_call 226;refine (RG _ _ _).mono ?_;rintro e w1 ⟨rfl,a0⟩;obtain⟨hB,hc,hf⟩:=gr a0)|(go_at_call 227;refine (Oe _ _ _).mono ?_;rintro e w1 ⟨rfl,a0⟩;obtain⟨hB,hc,hf⟩:=gr a0))
  go_ret;exact⟨D4 (by rw[hr.out];simp[hA,hP]),D3 ((A4 _ _).alloc (A3 _) _) hB⟩
theorem Uh(nm a b:BA)(n wi:Int)(t e:BA)(w:World)(ha:a.size<=maxLen)(_hb:b.size<=maxLen):
  cU prog 217 #[.agg #[Tz nm,Iz 5,Tz a,Tz b,Iz n,Iz wi,Tz t,Tz e]] w (.bool (L4 5 a b n wi)):=by
 have hr:Hid (L4 5 a b n wi=(E4 a&&(b.toList.isEmpty)&&n==0)):=by show _=_;simp[L4,Bool.and_assoc]
 cases hA:E4 a<;>cases hP:(b.toList.isEmpty)
 all_goals
  delta cU;go_in;go_wp2_with (first|(go_at_call 190;refine (RF _ _ _ _ _ _ _ _).mono ?_;rintro e w1 ⟨rfl,a0⟩;obtain⟨hB,hc,hf⟩:=gr a0)|(go_at_call 215;refine (O3 _ _ sO).mono ?_;rintro e w1 ⟨rfl,a0⟩;obtain⟨hB,hc,hf⟩:=gr a0)|(go_at_call 226;refine (Ud _ _ _).mono ?_;rintro e w1 ⟨rfl,a0⟩;obtain⟨hB,hc,hf⟩:=gr a0)|(go_at_call 227;refine (PW _ _ _).mono ?_;rintro e w1 ⟨rfl,a0⟩;obtain⟨hB,hc,hf⟩:=gr a0))
  go_ret;exact⟨D4 (by rw[hr.out];simp[hA,hP]),D3 ((A4 _ _).alloc (A3 _) _) hB⟩
theorem Ui(nm:BA)(k:Int)(a b:BA)(n wi:Int)(t e:BA)(w:World)(h1:(k==1)=false)(h2:(k==2)=false)(h3:(k==3)=false)(h4:(k==4)=false)(h5:(k==5)=false):
  cU prog 217 #[.agg #[Tz nm,Iz k,Tz a,Tz b,Iz n,Iz wi,Tz t,Tz e]] w (.bool (L4 k a b n wi)):=by
 have hr:Hid (L4 k a b n wi=false):=by show _=_;simp at h1 h2 h3 h4 h5;simp[L4,h1,h2,h3,h4,h5]
 delta cU;go_in;go_wp2_with (go_at_call 190;refine (Abv _ _ _ _ _ _ _ _ _ sO sO sO sO sO).mono ?_;rintro e w1 ⟨rfl,a0⟩;obtain⟨hB,hc,hf⟩:=gr a0)
 go_ret;exact⟨D4 (by rw[hr.out]),D3 ((A4 _ _).alloc (A3 _) _) hB⟩
theorem WM(nm:BA)(k:Int)(a b:BA)(n wi:Int)(t e:BA)(w:World)(ha:a.size<=maxLen)(hb:b.size<=maxLen):
  cU prog 217 #[.agg #[Tz nm,Iz k,Tz a,Tz b,Iz n,Iz wi,Tz t,Tz e]] w (.bool (L4 k a b n wi)):=by
 by_cases h1:k=1
 .subst h1;exact Ue nm a b n wi t e w ha hb
 by_cases h2:k=2
 .subst h2;exact Uf nm a b n wi t e w ha hb
 by_cases h3:k=3
 .subst h3;exact Ug nm a b n wi t e w ha hb
 by_cases h4:k=4
 .subst h4;exact RI nm a b n wi t e w ha hb
 by_cases h5:k=5
 .subst h5;exact Uh nm a b n wi t e w ha hb
 exact Ui nm k a b n wi t e w (by simpa using h1) (by simpa using h2) (by simpa using h3) (by simpa using h4) (by simpa using h5)
theorem RJ(nm:BA)(k:Int)(a b:BA)(n wi:Int)(t e:BA)(w:World)(hE:F6 w)(hnm:nm.size<=maxLen)(ha:a.size<=maxLen)(hb:b.size<=maxLen)(ht:t.size<=maxLen)(he:e.size<=maxLen):
  Calls prog 181 #[.agg #[Tz nm,Iz k,Tz a,Tz b,Iz n,Iz wi,Tz t,Tz e]] w λe' w'=>e'=.returned (.bool (O7 nm k a b n wi t e))/\Up w w':=by
 cases h1:E4 nm
 .go_in;go_wp2_with (go_at_call 215;refine (O3 _ _ sO).mono ?_;rintro e w1 ⟨rfl,a0⟩;obtain⟨hB,hc,hf⟩:=gr a0)
  go_ret;exact⟨D4 (by simp[O7,h1]),D3 ((A4 _ _).alloc (A3 _) _) hB⟩
 have HE:Hid (F6 w):=hE;clear hE;cases h2:(K1 nm==0)
 .have a2:(K1 nm != 0)=true:=by simp[bne,h2]
  go_in;go_wp2_with (first|(go_at_call 215;refine (O3 _ _ sO).mono ?_;rintro e w1 ⟨rfl,a0⟩;obtain⟨hB,hc,hf⟩:=gr a0)|(go_at_call 216;refine Swz (Q4 _ _ (HE.out.up (D3 ((A4 _ _).alloc (A3 _) _) hB))) ?_))
  go_ret;exact⟨D4 (by simp[O7,h2]),D3 ((A4 _ _).alloc (A3 _) _) hB⟩
 have a2:(K1 nm != 0)=false:=by simp[bne,h2]
 have H2:Hid ((K1 nm==0)=true):=h2;clear h2;by_cases h3:1<=wi/\wi<=1000
 case neg =>
  have a1:Hid (U7 wi 1 1000=false):=(Ey _ _ _).2 h3;by_cases h4:1<=wi
  .have h5:1000<wi:=oM
   clear h3;go_in;go_wp2_with (first|(go_at_call 215;refine (O3 _ _ sO).mono ?_;rintro e w1 ⟨rfl,a0⟩;obtain⟨hB,hc,hf⟩:=gr a0)|(go_at_call 216;refine Swz (Q4 _ _ (HE.out.up (D3 ((A4 _ _).alloc (A3 _) _) hB))) ?_))
   go_ret;exact⟨D4 (by simp[O7,a1.out]),D3 ((A4 _ _).alloc (A3 _) _) hB⟩
  .clear h3;go_in;go_wp2_with (first|(go_at_call 215;refine (O3 _ _ sO).mono ?_;rintro e w1 ⟨rfl,a0⟩;obtain⟨hB,hc,hf⟩:=gr a0)|(go_at_call 216;refine Swz (Q4 _ _ (HE.out.up (D3 ((A4 _ _).alloc (A3 _) _) hB))) ?_))
   go_ret;exact⟨D4 (by simp[O7,a1.out]),D3 ((A4 _ _).alloc (A3 _) _) hB⟩
 have H3:Hid (U7 wi 1 1000=true):=(AX _ _ _).2 h3;obtain⟨a3,a4⟩:=h3;cases h4:L4 k a b n wi<;>cases h5:E4 t
 all_goals
  go_in;go_wp2_with (first|(go_at_call 215;refine (O3 _ _ sO).mono ?_;rintro e w1 ⟨rfl,a0⟩;obtain⟨hB,hc,hf⟩:=gr a0)|(go_at_call 216;refine Swz (Q4 _ _ (HE.out.up (D3 ((A4 _ _).alloc (A3 _) _) hB))) ?_)|(go_at_call 217;refine (WM _ _ _ _ _ _ _ _ _ sO sO).mono ?_;rintro e w1 ⟨rfl,a0⟩;obtain⟨hB,hc,hf⟩:=gr a0))
  go_ret;exact⟨D4 (by simp[O7,h1,H2.out,H3.out,h4,h5]),D3 ((A4 _ _).alloc (A3 _) _) hB⟩
end Go.Proofs.YtaffjphkobhagaaGreatDoor
