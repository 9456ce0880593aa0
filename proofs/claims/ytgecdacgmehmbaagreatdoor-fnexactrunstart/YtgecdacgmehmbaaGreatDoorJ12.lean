/- The walks over recipes: looking for a name. -/
import Derived.Test.YtgecdacgmehmbaaGreatDoorJ2
import Derived.Test.YtgecdacgmehmbaaGreatDoorJ10
import Derived.Deep.Cut
import Derived.Test.YtgecdacgmehmbaaGreatDoorJ11
set_option maxHeartbeats 2000000
namespace Go.Proofs.YtgecdacgmehmbaaGreatDoor
open Go.RowKit
theorem O8 (ps:List Ph) (b o c:Nat) (nm:ByteArray) (w:World) (hr:RecAt w b o ps) (hn:ps.length<=1048576) :
  Calls Tryz.prog 65 #[.slice (some ⟨b,o,none⟩) ps.length c,.string nm] w λe w'=>e=.returned (.int .i64 (atI ps nm))/\w'=w:=by
 go_enter Tryz.func65,Tryz.ntmps65
 go_wp2
 go_loop [5] (λi=>∃k:Nat,k<=ps.length/\i=.int .i64 k/\hasB (ps.take k) nm=false) (λi=>ps.length-(intOf i).toNat)
 case atStart=>exact⟨0,by omega,rfl,rfl⟩
 case round =>
  obtain⟨k,hk,rfl,hal⟩:=hrel;have Hal:Hid (hasB (ps.take k) nm=false):=hal;clear hal;by_cases hp:k<ps.length
  ·obtain⟨c0,-⟩:=hr.cells k hp
   cases hq:((ps[k]).nm.toList==nm.toList)
   ·have Hq:Hid (((ps[k]).nm.toList==nm.toList)=false):=hq
    go_wp2
    go_round
    case rel=>exact⟨k+1,by omega,by go_num,by rw[AeN ps nm k hp,Hal.out,Hq.out];rfl⟩
    case measure=>simp[intOf];omega
   ·have Hq:Hid (((ps[k]).nm.toList==nm.toList)=true):=hq
    go_wp2
    go_ret
    exact⟨O3 (AeO ps nm k hp Hal.out Hq.out).symm,rfl⟩
  ·go_wp2
   go_ret
   exact⟨O3 (Ad0 ps nm (Adz ps nm k hp Hal.out)).symm,rfl⟩
def Ph.none:Ph:=⟨⟨#[]⟩,0,⟨#[]⟩,⟨#[]⟩,0,0,⟨#[]⟩,⟨#[]⟩⟩
theorem Abs (ps:List Ph) (b o c:Nat) (nm:ByteArray) (w:World) (hr:RecAt w b o ps) (hb:b<w.heap.size) (hn:ps.length<=1048576) :
  Calls Tryz.prog 146 #[.slice (some ⟨b,o,none⟩) ps.length c,.string nm] w λe w' =>
   (∃p:Ph,e=.returned (.tuple #[.agg #[.string (p).nm,.int .i64 (p).k,.string (p).a,.string (p).b,.int .i64 (p).n,.int .i64 (p).wi,.string (p).t,.string (p).e],.bool (hasB ps nm)])/\∀(k:Nat) (hk:k<ps.length),atI ps nm=(k:Int)->p=ps[k])/\Below w.heap.size w w':=by
 go_enter Tryz.func146,Tryz.ntmps146
 go_wp2
 go_loopw [10] (λi w'=>∃k:Nat,k<=ps.length/\i=.int .i64 k/\hasB (ps.take k) nm=false/\Below w.heap.size w w'/\CB w' w.heap.size Ph.none.cells) (λi _=>ps.length-(intOf i).toNat)
 case atStart=>exact⟨0,by omega,rfl,rfl,(A4 _ _).alloc (A3 _) _,E8 w Ph.none.cells 73⟩
 case round =>
  obtain⟨k,hk,rfl,hal,hB,hC⟩:=hrel;have Hal:Hid (hasB (ps.take k) nm=false):=hal;clear hal;by_cases hp:k<ps.length
  ·obtain⟨c0,c1,c2,c3,c4,c5,c6,c7⟩:=(hr.up hB hb).cells k hp
   have hlt:=hC.2.2;have hne:¬w.heap.size=wr.heap.size:=by omega
   have hen:¬wr.heap.size=w.heap.size:=by omega
   cases hq:((ps[k]).nm.toList==nm.toList)
   ·have Hq:Hid (((ps[k]).nm.toList==nm.toList)=false):=hq
    go_wp2
    go_roundw
    case rel=>exact⟨k+1,by omega,by go_num,by rw[AeN ps nm k hp,Hal.out,Hq.out];rfl,hB.alloc hB.size _,hC.up ((A4 wr.heap.size _).alloc (A3 _) _) hlt⟩
    case measure=>simp[intOf];omega
   ·have Hq:Hid (((ps[k]).nm.toList==nm.toList)=true):=hq
    go_upto_region 5 with fail
    have hC2:CB (wr.alloc (.cells #[.string (ps[k]).nm,.int .i64 (ps[k]).k,.string (ps[k]).a,.string (ps[k]).b,.int .i64 (ps[k]).n,.int .i64 (ps[k]).wi,.string (ps[k]).t,.string (ps[k]).e] 73)) w.heap.size Ph.none.cells:=hC.up ((A4 wr.heap.size _).alloc (A3 _) _) hlt;have hP2:CB (wr.alloc (.cells #[.string (ps[k]).nm,.int .i64 (ps[k]).k,.string (ps[k]).a,.string (ps[k]).b,.int .i64 (ps[k]).n,.int .i64 (ps[k]).wi,.string (ps[k]).t,.string (ps[k]).e] 73)) wr.heap.size (ps[k]).cells:=E8 wr (ps[k]).cells _;have hB2:=hB.alloc hB.size (.cells #[.string (ps[k]).nm,.int .i64 (ps[k]).k,.string (ps[k]).a,.string (ps[k]).b,.int .i64 (ps[k]).n,.int .i64 (ps[k]).wi,.string (ps[k]).t,.string (ps[k]).e] 73);clear c0 c1 c2 c3 c4 c5 c6 c7;generalize wr.alloc (.cells #[.string (ps[k]).nm,.int .i64 (ps[k]).k,.string (ps[k]).a,.string (ps[k]).b,.int .i64 (ps[k]).n,.int .i64 (ps[k]).wi,.string (ps[k]).t,.string (ps[k]).e] 73)=W2 at *;obtain⟨⟨c0,c1,c2,c3,c4,c5,c6,c7⟩,-⟩:=hP2.c8;obtain⟨⟨d0,d1,d2,d3,d4,d5,d6,d7⟩,f0,f1,f2,f3,f4,f5,f6,f7⟩:=hC2.c8;go_wp2_with fail
    refine bodyPost_ret (AcQ (v:=.bool true) (rk:=w.heap.size) (cs:=(ps[k]).cells) Tryz.results146 Tryz.underlying73 rfl sizeP ?ht ?hv ?hZ) rfl ?_
    case ht=>rfl
    case hv=>rfl
    case hZ=>exact hC2.copy8 _ _ _ _ _ _ _ _
    refine⟨⟨ps[k],?_,?_⟩,AdO hB2 (A3 _) _ _ _ _ _ _ _ _⟩
    ·rw[Al3 ps nm k hp Hq.out];rfl
    ·intro j hj ha
     have:=AeO ps nm k hp Hal.out Hq.out;obtain rfl:j=k:=by omega
     rfl
  ·obtain⟨⟨d0,d1,d2,d3,d4,d5,d6,d7⟩,f0,f1,f2,f3,f4,f5,f6,f7⟩:=hC.c8
   go_wp2_with fail
   refine bodyPost_ret (AcQ (v:=.bool false) (rk:=w.heap.size) (cs:=Ph.none.cells) Tryz.results146 Tryz.underlying73 rfl sizeP ?ht ?hv ?hZ) rfl ?_
   case ht=>rfl
   case hv=>rfl
   case hZ=>exact hC.copy8 _ _ _ _ _ _ _ _
   refine⟨⟨Ph.none,?_,?_⟩,AdO hB (A3 _) _ _ _ _ _ _ _ _⟩
   ·rw[Adz ps nm k hp Hal.out];rfl
   ·intro j hj ha
    have:=Ad0 ps nm (Adz ps nm k hp Hal.out);omega
theorem Ae9 (ps:List Ph) (b o c:Nat) (nm:ByteArray) (w:World) (hr:RecAt w b o ps) (hb:b<w.heap.size) (hn:ps.length<=1048576) :
  Calls Tryz.prog 169 #[.slice (some ⟨b,o,none⟩) ps.length c,.string nm] w λe w'=>e=.returned (.bool (hasB ps nm))/\Below w.heap.size w w':=by
 go_enter Tryz.func169,Tryz.ntmps169
 go_wp2_with fail
 refine (Abs ps b o c nm _ hr hb hn).mono ?_;rintro e w1 ⟨⟨p,rfl,-⟩,hB1⟩;go_wp2_with fail
 go_ret
 exact⟨rfl,hB1.alloc hB1.size _⟩
theorem AlN (ps:List Ph) (b o c:Nat) (nm:ByteArray) (w:World) (hE:Ends w) (hr:RecAt w b o ps) (hb:b<w.heap.size) (hn:ps.length<=1048576) :
  Calls Tryz.prog 170 #[.slice (some ⟨b,o,none⟩) ps.length c,.string nm] w λe w'=>e=.returned (.bool (goesB ps nm))/\Below w.heap.size w w':=by
 have HE:Hid (Ends w):=hE;clear hE;cases h:(endN nm != 0)
 ·go_enter Tryz.func170,Tryz.ntmps170
  go_wp2_with (first|(go_at_call 175;refine (N7 _ _ HE.out).mono ?_;rintro e w' ⟨rfl,hw⟩;obtain rfl:=hw.symm;clear hw)|(go_at_call 169;refine (Ae9 _ _ _ _ _ _ hr hb hn).mono ?_;rintro e w1 ⟨rfl,hb1⟩;(first|(have hB':=D5 hB hb1;clear hB;have hB:=hB';clear hB')|(have hB:=hb1));clear hb1;(try clear hc hf);obtain⟨hc,hf⟩:=E2 hB))
  go_ret
  exact⟨D6 (by simp[goesB,h]),hB⟩
 ·go_enter Tryz.func170,Tryz.ntmps170
  go_wp2_with (first|(go_at_call 175;refine (N7 _ _ HE.out).mono ?_;rintro e w' ⟨rfl,hw⟩;obtain rfl:=hw.symm;clear hw)|(go_at_call 169;refine (Ae9 _ _ _ _ _ _ hr hb hn).mono ?_;rintro e w1 ⟨rfl,hb1⟩;(first|(have hB':=D5 hB hb1;clear hB;have hB:=hB';clear hB')|(have hB:=hb1));clear hb1;(try clear hc hf);obtain⟨hc,hf⟩:=E2 hB))
  go_ret
  exact⟨D6 (by simp[goesB,h]),A4 _ _⟩
theorem X0 (ps:List Ph) (n b o c:Nat) (nm:ByteArray) (w:World) (hl:ps.length=n) (hr:RecAt w b o ps) (hb:b<w.heap.size) (hn:ps.length<=1048576) :
  Calls Tryz.prog 169 #[.slice (some ⟨b,o,none⟩) n c,.string nm] w λe w'=>e=.returned (.bool (hasB ps nm))/\Below w.heap.size w w':=by
 subst hl;exact Ae9 ps b o c nm w hr hb hn
theorem S4 (ps:List Ph) (n b o c:Nat) (nm:ByteArray) (w:World) (hl:ps.length=n) (hE:Ends w) (hr:RecAt w b o ps) (hb:b<w.heap.size) (hn:ps.length<=1048576) :
  Calls Tryz.prog 170 #[.slice (some ⟨b,o,none⟩) n c,.string nm] w λe w'=>e=.returned (.bool (goesB ps nm))/\Below w.heap.size w w':=by
 subst hl;exact AlN ps b o c nm w hE hr hb hn
theorem Acc (ss:List ByteArray) (v:Value) (nm:ByteArray) (w:World) (h:Txt w v ss) (hn:ss.length<=1000) :
  Calls Tryz.prog 109 #[v,.string nm] w λe w'=>(∃u,e=.returned u/\Txt w' u (insL ss nm))/\Below w.heap.size w w':=by
 have hT:=h;obtain⟨g,c,rfl,hS,hg,hc,hc9⟩:=h;unfold maxLen at hc9;obtain⟨ii,hi,iz0,iz1,iz2⟩:=info_parts L9;have HT:Hid (Txt w (.slice (some ⟨g,0,none⟩) ss.length c) ss):=hT;clear hT;go_enter Tryz.func109,Tryz.ntmps109
 go_wp2_with fail
 go_loop [5] (λi=>∃k:Nat,k<=ss.length/\i=.int .i64 k/\lowL ss nm k) (λi=>ss.length-(intOf i).toNat)
 case atStart=>exact⟨0,by omega,rfl,λj s hj=>by omega⟩
 case round =>
  obtain⟨k,hk,rfl,hlow⟩:=hrel;have Hlow:Hid (lowL ss nm k):=hlow;clear hlow;by_cases hp:k<ss.length
  ·have c0:=hS k ss[k] (by simp[hp])
   simp only[Nat.zero_add] at c0;cases hl:Op.bytesLess (ss[k]).toList nm.toList
   case true =>
    have Hl:Hid (lessB ss[k] nm=true):=hl;go_wp2_with fail
    go_round
    case rel=>exact⟨k+1,by omega,by go_num,AeL Hlow.out hp Hl.out⟩
    case measure=>simp[intOf];omega
   have Hl:Hid (lessB ss[k] nm=false):=hl;cases hq:((ss[k]).toList==nm.toList)
   case true =>
    have Hq:Hid (insL ss nm=ss):=Ady ss nm k Hlow.out ⟨ss[k],by simp[hp],Hl.out,hq⟩;go_wp2_with fail
    go_ret
    exact⟨⟨_,rfl,by rw[Hq.out];exact HT.out⟩,A4 _ _⟩
   have Hq:Hid (insL ss nm=ss.take k++nm::ss.drop k):=AaL ss nm k Hlow.out hk (λs hs=>by
    obtain⟨_,rfl⟩:=A2.1 hs;exact⟨Hl.out,hq⟩)
   go_wp2_with fail
   obtain⟨o2,ho2⟩:∃o2:Nat,(if c=k then some (⟨g,0,none⟩:Addr) else some ⟨g,k,none⟩)=some ⟨g,o2,none⟩/\StrsAt w g o2 (ss.drop k):=by
    by_cases h7:c=k
    ·exact⟨0,by rw[if_pos h7],λi s hs=>by
      have:=(A2.1 hs).1;simp at this;omega⟩
    ·exact⟨k,by rw[if_neg h7],by have:=hS.drop k;simpa using this⟩
   obtain⟨ho2,-⟩:=ho2;have Nb:((w.alloc (.cells #[] 9)).alloc (.cells #[.string nm] 9)).drew.cell? ⟨w.heap.size+1,0,none⟩=some (.string nm):=by simp[go_sem]
   have nb1:some (w.heap.size+1)≠(Value.slice (some ⟨w.heap.size,0,none⟩) 0 0).ownBlock:=by simp[Value.ownBlock]
   have Nc:((w.alloc (.cells #[.string nm] 9)).alloc (.cells #[] 9)).drew.cell? ⟨w.heap.size,0,none⟩=some (.string nm):=by simp[go_sem]
   have nc1:some w.heap.size≠(Value.slice (some ⟨w.heap.size+1,0,none⟩) 0 0).ownBlock:=by simp[Value.ownBlock]
   have hkc:k<=c:=by omega
   have Fa:=(S0 hS (A4 w.heap.size w)).drew;have Fb:=((S0 hS (A4 w.heap.size w)).alloc (.cells #[.string nm] 9)).drew;have Fc:=(S0 (hS.alloc (.cells #[.string nm] 9)) ((A4 w.heap.size w).alloc (A3 _) (.cells #[.string nm] 9))).drew;rw[show (w.alloc (.cells #[.string nm] 9)).heap.size=w.heap.size+1 by simp] at Fc
   go_region_law (first
    | (revert h2;intro h2;refine F4 rfl _ _ 22 rfl w.heap.size 9 ii _ 1 16 Tryz.underlying22 hi iz0 iz1 iz2 rfl (by decide) _ _ _ rfl h2.1 ⟨g,o2,none⟩ (ss.length-k) _ ((ss.drop k).map Value.string) rfl (by simp) (J5 (Abb h2.2.1 ho2 hc)) (Z2 _) (by unfold maxLen;omega) (by omega) h2.2.2.size ?_;intro v3 w3 hown3 hgrow3;have h3:=h2.grow hg hgrow3 hown3;clear h2 hown3 hgrow3)
    | (revert h1;intro h1;refine F4 rfl _ _ 22 rfl w.heap.size 9 ii _ 1 16 Tryz.underlying22 hi iz0 iz1 iz2 rfl (by decide) _ _ _ rfl (by first|exact h1.1|exact (h1.alloc _).1) _ 1 1 [.string nm] rfl rfl (by first|exact S1 _ _ _|exact AcR hN1) (Abp nm) (by unfold maxLen;omega) (by omega) (by first|exact h1.2.2.size|exact (h1.alloc _).2.2.size) ?_;intro v2 w2 hown2 hgrow2;first|have h2:=h1.grow hg hgrow2 hown2|have h2:=(h1.alloc _).grow hg hgrow2 hown2;clear h1 hown2 hgrow2)
    | (refine F4 rfl _ _ 22 rfl w.heap.size 9 ii _ 1 16 Tryz.underlying22 hi iz0 iz1 iz2 rfl (by decide) _ 0 [] rfl (by first|exact Fa.1|exact Fb.1|exact Fc.1) ⟨g,0,none⟩ k _ ((ss.take k).map Value.string) rfl (by simp;omega) (by first|exact J5 (Fa.2.1.take k)|exact J5 (Fb.2.1.take k)|exact J5 (Fc.2.1.take k)) (Z2 _) (by unfold maxLen;omega) (by omega) (by first|exact Fa.2.2.size|exact Fb.2.2.size|exact Fc.2.2.size) ?_;intro v1 w1 hown1 hgrow1;first|(have h1:=Fa.grow hg hgrow1 hown1)|(have h1:=Fb.grow hg hgrow1 hown1;have hN1:=hgrow1.cell Nb nb1)|(have h1:=Fc.grow hg hgrow1 hown1;have hN1:=hgrow1.cell Nc nc1);clear hown1 hgrow1))
   all_goals
    have HT3:Txt w3 v3 (insL ss nm):=by
     rw[Hq.out];exact Txt.own (n:=0+k+1+(ss.length-k)) (by simpa using h3.1) (by simp;omega) (F2 h3.1 (by omega))
    have hB3:=h3.2.2;clear h3;go_wp2_with fail
    go_ret
    exact⟨⟨_,rfl,HT3⟩,hB3⟩
  ·have Hq:Hid (insL ss nm=ss.take k++nm::ss.drop k):=AaL ss nm k Hlow.out hk (λs hs=>by
    have:=(A2.1 hs).1;omega)
   go_wp2_with fail
   obtain⟨o2,ho2⟩:∃o2:Nat,(if c=k then some (⟨g,0,none⟩:Addr) else some ⟨g,k,none⟩)=some ⟨g,o2,none⟩/\StrsAt w g o2 (ss.drop k):=by
    by_cases h7:c=k
    ·exact⟨0,by rw[if_pos h7],λi s hs=>by
      have:=(A2.1 hs).1;simp at this;omega⟩
    ·exact⟨k,by rw[if_neg h7],by have:=hS.drop k;simpa using this⟩
   obtain⟨ho2,-⟩:=ho2;have Nb:((w.alloc (.cells #[] 9)).alloc (.cells #[.string nm] 9)).drew.cell? ⟨w.heap.size+1,0,none⟩=some (.string nm):=by simp[go_sem]
   have nb1:some (w.heap.size+1)≠(Value.slice (some ⟨w.heap.size,0,none⟩) 0 0).ownBlock:=by simp[Value.ownBlock]
   have Nc:((w.alloc (.cells #[.string nm] 9)).alloc (.cells #[] 9)).drew.cell? ⟨w.heap.size,0,none⟩=some (.string nm):=by simp[go_sem]
   have nc1:some w.heap.size≠(Value.slice (some ⟨w.heap.size+1,0,none⟩) 0 0).ownBlock:=by simp[Value.ownBlock]
   have hkc:k<=c:=by omega
   have Fa:=(S0 hS (A4 w.heap.size w)).drew;have Fb:=((S0 hS (A4 w.heap.size w)).alloc (.cells #[.string nm] 9)).drew;have Fc:=(S0 (hS.alloc (.cells #[.string nm] 9)) ((A4 w.heap.size w).alloc (A3 _) (.cells #[.string nm] 9))).drew;rw[show (w.alloc (.cells #[.string nm] 9)).heap.size=w.heap.size+1 by simp] at Fc
   go_region_law (first
    | (revert h2;intro h2;refine F4 rfl _ _ 22 rfl w.heap.size 9 ii _ 1 16 Tryz.underlying22 hi iz0 iz1 iz2 rfl (by decide) _ _ _ rfl h2.1 ⟨g,o2,none⟩ (ss.length-k) _ ((ss.drop k).map Value.string) rfl (by simp) (J5 (Abb h2.2.1 ho2 hc)) (Z2 _) (by unfold maxLen;omega) (by omega) h2.2.2.size ?_;intro v3 w3 hown3 hgrow3;have h3:=h2.grow hg hgrow3 hown3;clear h2 hown3 hgrow3)
    | (revert h1;intro h1;refine F4 rfl _ _ 22 rfl w.heap.size 9 ii _ 1 16 Tryz.underlying22 hi iz0 iz1 iz2 rfl (by decide) _ _ _ rfl (by first|exact h1.1|exact (h1.alloc _).1) _ 1 1 [.string nm] rfl rfl (by first|exact S1 _ _ _|exact AcR hN1) (Abp nm) (by unfold maxLen;omega) (by omega) (by first|exact h1.2.2.size|exact (h1.alloc _).2.2.size) ?_;intro v2 w2 hown2 hgrow2;first|have h2:=h1.grow hg hgrow2 hown2|have h2:=(h1.alloc _).grow hg hgrow2 hown2;clear h1 hown2 hgrow2)
    | (refine F4 rfl _ _ 22 rfl w.heap.size 9 ii _ 1 16 Tryz.underlying22 hi iz0 iz1 iz2 rfl (by decide) _ 0 [] rfl (by first|exact Fa.1|exact Fb.1|exact Fc.1) ⟨g,0,none⟩ k _ ((ss.take k).map Value.string) rfl (by simp;omega) (by first|exact J5 (Fa.2.1.take k)|exact J5 (Fb.2.1.take k)|exact J5 (Fc.2.1.take k)) (Z2 _) (by unfold maxLen;omega) (by omega) (by first|exact Fa.2.2.size|exact Fb.2.2.size|exact Fc.2.2.size) ?_;intro v1 w1 hown1 hgrow1;first|(have h1:=Fa.grow hg hgrow1 hown1)|(have h1:=Fb.grow hg hgrow1 hown1;have hN1:=hgrow1.cell Nb nb1)|(have h1:=Fc.grow hg hgrow1 hown1;have hN1:=hgrow1.cell Nc nc1);clear hown1 hgrow1))
   all_goals
    have HT3:Txt w3 v3 (insL ss nm):=by
     rw[Hq.out];exact Txt.own (n:=0+k+1+(ss.length-k)) (by simpa using h3.1) (by simp;omega) (F2 h3.1 (by omega))
    have hB3:=h3.2.2;clear h3;go_wp2_with fail
    go_ret
    exact⟨⟨_,rfl,HT3⟩,hB3⟩
def Tab (w:World) (tb:Nat) (things:List ByteArray) (ts:List Tr):Prop :=
 ∃rv,CB w tb [rv,.int .u64 (bitsN things (freeL ts):Nat)]/\w.ownsRow (tb+1) 305 4 rv ts.length (rowsL things ts)
theorem Tab.up {w w':World} {tb:Nat} {things:List ByteArray} {ts:List Tr} (h:Tab w tb things ts) (hb:Below w.heap.size w w'):Tab w' tb things ts:=by
 obtain⟨rv,h1,h2⟩:=h;exact⟨rv,h1.up hb h1.2.2,E0 h2 hb⟩
theorem Tab.lt {w:World} {tb:Nat} {things:List ByteArray} {ts:List Tr} (h:Tab w tb things ts):tb<w.heap.size:=by
 obtain⟨rv,h1,-⟩:=h;exact h1.2.2
theorem Abi {w:World} {base g cap:Nat} {things:List ByteArray} {ts:List Tr} (h:w.ownsRow base 305 4 (.slice (some ⟨g,0,none⟩) ts.length cap) ts.length (rowsL things ts)) {i:Nat} {p:Tr} (hp:ts[i]?=some p) :
  w.cell? ⟨g,i*4,none⟩=some (.string p.1.nm)/\w.cell? ⟨g,i*4+1,none⟩=some (.int .u64 (bitsN things (memS p.1.has):Nat))/\w.cell? ⟨g,i*4+2,none⟩=some (.int .u64 (bitsN things (memS p.1.needs):Nat))/\w.cell? ⟨g,i*4+3,none⟩=some (.bool p.2):=by
 have hi:=(A2.1 hp).1;refine⟨?_,?_,?_,?_⟩
 ·rw[show i*4=i*4+0 by omega,h.cellAt (i*4+0) (by omega),Aa0 things ts i 0 p hp (by omega)];rfl
 ·rw[h.cellAt (i*4+1) (by omega),Aa0 things ts i 1 p hp (by omega)];rfl
 ·rw[h.cellAt (i*4+2) (by omega),Aa0 things ts i 2 p hp (by omega)];rfl
 ·rw[h.cellAt (i*4+3) (by omega),Aa0 things ts i 3 p hp (by omega)];rfl
theorem Agm (a b:Nat) (ha:a<256) (hb:b<512):bits .andNot .u64 (a:Int) (b:Int)=((a &&& (18446744073709551615-b):Nat):Int):=by
 have:=u64_andNot (a:Int) (b:Int) (by omega) (by omega) (by omega) (by omega);simpa using this
theorem AmO (tb at':Nat) (things:List ByteArray) (ts:List Tr) (p:Tr) (w:World) (h:Tab w tb things ts) (h8:things.length<=8) (hp:ts[at']?=some p) (h5:ts.length<=5) :
  Calls Tryz.prog 225 #[.pointer (some ⟨tb,0,none⟩),.int .i64 at'] w λe w'=>e=.returned (.bool (!p.2&&decide (bitsN things (memS p.1.needs) &&& (18446744073709551615-(bitsN things (freeL ts)+bitsN things (memS p.1.has)))=0)))/\Below w.heap.size w w':=by
 obtain⟨rv,hC,hown⟩:=h;have hi:=(A2.1 hp).1;obtain⟨g,cap,rfl⟩:=F2 hown (by omega);obtain⟨r0,r1,r2,r3⟩:=Abi hown hp;obtain⟨t0,t1⟩:=hC.c2';have htl:=hC.2.2;have n1:=L2 h8 (memS p.1.has);have n2:=L2 h8 (memS p.1.needs);have n3:=L2 h8 (freeL ts);generalize bitsN things (memS p.1.has)=hb at *;generalize bitsN things (memS p.1.needs)=nb at *;generalize bitsN things (freeL ts)=fb at *;clear hown hC;obtain⟨W1,hW1,kX,hB1,hs1⟩:=K6 w [.string p.1.nm,.int .u64 (hb:Nat),.int .u64 (nb:Nat),.bool p.2] 305;go_enter Tryz.func225,Tryz.ntmps225
 go_upto_region 2 with fail
 try rw[hW1]
 clear hW1 r0 r1 r2 r3;have x1:=kX.1 1 _ rfl;have x2:=kX.1 2 _ rfl;have x3:=kX.1 3 _ rfl;have f1:=(hB1.cell (p:=⟨tb,1,none⟩) htl).trans t1;simp only[Nat.zero_add] at x1 x2 x3;have hadd:IntKind.u64.wrap ((fb:Int)+(hb:Int))=((fb+hb:Nat):Int):=by rw[Aab (by omega) (by omega)];omega
 have hand:=Agm nb (fb+hb) n2 (by omega);cases hgone:p.2
 ·rw[hgone] at x3
  go_wp2_with fail
  go_quiet (fail)
  go_wp2_with fail
  go_ret
  refine⟨D6 ?_,E7 hB1 _⟩;rw[hgone,← Int.natCast_add,hand];rw[Bool.eq_iff_iff,beq_iff_eq];simp
 ·rw[hgone] at x3
  go_wp2_with fail
  go_quiet (fail)
  go_wp2_with fail
  go_ret
  exact⟨D6 (by rw[hgone];rfl),E7 hB1 _⟩
theorem Afa {w:World} {base base' e e' s s' n n':Nat} {v v':Value} {xs xs':List Value} (h:w.ownsRow base e s v n xs) (h':w.ownsRow base' e' s' v' n' xs') (hne:e≠e'):∀g,v.ownBlock=some g->some g≠v'.ownBlock:=λg hg hg'=>by
 rcases h.2 with⟨rfl,_⟩|⟨g1,cap,cur,rfl,_,hh,_⟩
 ·simp[Value.ownBlock] at hg
 ·rcases h'.2 with⟨rfl,_⟩|⟨g2,cap',cur',rfl,_,hh',_⟩
  ·simp[Value.ownBlock] at hg'
  ·simp[Value.ownBlock] at hg hg'
   subst hg hg';rw[hh] at hh';simp at hh';exact hne hh'.2
theorem Agn {w w':World} {base e s n:Nat} {v:Value} {xs:List Value} {r:Option Nat} (h:w.ownsRow base e s v n xs) (hg:w.grownBy w' r) (hne:∀g,v.ownBlock=some g->some g≠r):w'.ownsRow base e s v n xs:=by
 refine⟨h.1,?_⟩;rcases h.2 with h0|⟨g,cap,cur,hv,hb,hh,q⟩
 ·exact .inl h0
 ·refine .inr ⟨g,cap,cur,hv,hb,?_,q⟩
  rw[hg.block g (D3.1 hh).1 (hne g (by rw[hv];rfl))];exact hh
theorem Akw (tb at':Nat) (things:List ByteArray) (ts:List Tr) (p:Tr) (bs:List Ba) (w:World) (h:Tab w tb things ts) (h8:things.length<=8) (hp:ts[at']?=some p) (hg:p.2=false) (hm:ts.map (·.1)=bs) (ha:Apart bs) (h5:ts.length<=5) :
  Calls Tryz.prog 219 #[.pointer (some ⟨tb,0,none⟩),.int .i64 at'] w λe w'=>(∃v,e=.returned v)/\Tab w' tb things (ts.set at' (p.1,true))/\Below tb w w'/\∀(base:Nat) (u:Value) (ss:List ByteArray),OwnT w base u ss->tb<base->OwnT w' base u ss:=by
 obtain⟨rv,hC,hown⟩:=h;have hi:=(A2.1 hp).1;obtain⟨g,cap,rfl⟩:=F2 hown (by omega);have hg0:=(hown.lt g rfl).1;obtain⟨r0,r1,r2,r3⟩:=Abi hown hp;obtain⟨⟨t0,t1⟩,u0,u1⟩:=hC.c2;have n1:=L2 h8 (memS p.1.has);have n3:=L2 h8 (freeL ts);have hfr:=Ai6 ha hm hp hg things;have f3:=hown.frozenAt (at'*4+3);have hst:=hown.stored (at'*4+3) (.bool true);rw[AeJ things ts at' p hp] at hst;obtain⟨W1,hW1,hown1,hgr⟩:∃W1,w.setCell ⟨g,at'*4+3,none⟩ (.bool true)=W1/\W1.ownsRow (tb+1) 305 4 (.slice (some ⟨g,0,none⟩) ts.length cap) ts.length (rowsL things (ts.set at' (p.1,true)))/\w.grownBy W1 (some g):=⟨_,rfl,hst.1,hst.2⟩;clear hst;have hC1:=hC.kept hgr (by simp;omega);have hl1:(ts.set at' (p.1,true)).length=ts.length:=List.length_set;have hown1':W1.ownsRow (tb+1) 305 4 (.slice (some ⟨g,0,none⟩) (ts.set at' (p.1,true)).length cap) (ts.set at' (p.1,true)).length (rowsL things (ts.set at' (p.1,true))):=by rw[hl1];exact hown1
 obtain⟨-,s1,-,-⟩:=Abi hown1' (i:=at') (p:=(p.1,true)) (by rw[List.getElem?_set,if_pos rfl,if_pos hi]);have hT:∀x,CB x tb [.slice (some ⟨g,0,none⟩) ts.length cap,.int .u64 (bitsN things (freeL (ts.set at' (p.1,true))):Nat)]->W1.grownBy x (some tb)->Tab x tb things (ts.set at' (p.1,true)):=λx h1 h2=>⟨_,h1,by rw[hl1];exact E6 hown1 h2 (by omega)⟩;have HT:Hid (∀x,CB x tb [.slice (some ⟨g,0,none⟩) ts.length cap,.int .u64 (bitsN things (freeL (ts.set at' (p.1,true))):Nat)]->W1.grownBy x (some tb)->Tab x tb things (ts.set at' (p.1,true))):=hT;have hB1:Below tb w W1:=⟨hgr.os,hgr.tape,hgr.output,hgr.size,λi hi=>hgr.block i (Nat.lt_trans hi hC.2.2) (by simp;omega)⟩
 have HO:Hid (∀(base:Nat) (u:Value) (ss:List ByteArray),OwnT w base u ss->tb<base->OwnT W1 base u ss):=λbase u ss q1 q2=>Agn q1 hgr λg' hg'=>by
  have:=Afa q1 hown (by decide) g' hg';simpa [Value.ownBlock] using this
 clear hT hown1 hown1' hgr hown;generalize bitsN things (freeL (ts.set at' (p.1,true)))=fb2 at *;generalize bitsN things (memS p.1.has)=hb at *;generalize bitsN things (freeL ts)=fb at *;have hadd:IntKind.u64.wrap ((fb:Int)+(hb:Int))=(fb2:Int):=by rw[Aab (by omega) (by omega)];omega
 go_enter Tryz.func219,Tryz.ntmps219
 go_upto_region 1 with fail
 try rw[hW1]
 clear hW1 r0 r1 r2 r3 t0 t1 u0 u1 f3;obtain⟨⟨t0,t1⟩,u0,u1⟩:=hC1.c2;have hC2:CB ((W1.setCell ⟨tb,1,none⟩ (.int .u64 (fb2:Nat))).drew) tb [.slice (some ⟨g,0,none⟩) ts.length cap,.int .u64 (fb2:Nat)]:=CB.set (j:=1) hC1 (by simp);have HTx:Hid (Tab ((W1.setCell ⟨tb,1,none⟩ (.int .u64 (fb2:Nat))).drew) tb things (ts.set at' (p.1,true))):=HT.out _ hC2 (Z1 (D9 (E1 _ _) _));have HBx:Hid (Below tb w ((W1.setCell ⟨tb,1,none⟩ (.int .u64 (fb2:Nat))).drew)):=(hB1.setCell (p:=⟨tb,1,none⟩) (A3 _) _).drew;clear hC2 HT;go_wp2_with fail
 go_region
 go_end0
 exact⟨⟨_,rfl⟩,HTx.out,HBx.out,λbase u ss q1 q2=>E6 (HO.out base u ss q1 q2) (Z1 (D9 (E1 _ _) _)) q2⟩
end Go.Proofs.YtgecdacgmehmbaaGreatDoor
