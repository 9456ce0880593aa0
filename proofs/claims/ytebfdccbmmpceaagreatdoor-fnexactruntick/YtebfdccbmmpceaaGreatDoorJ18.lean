/- The specification's slots: inserting a name. -/
import Derived.Test.YtebfdccbmmpceaaGreatDoorJ15
import Derived.Test.YtebfdccbmmpceaaGreatDoorJ7
import Derived.Test.YtebfdccbmmpceaaGreatDoorJ10
import Derived.Test.YtebfdccbmmpceaaGreatDoorJ14
import Derived.Test.YtebfdccbmmpceaaGreatDoorJ17
import Derived.Test.YtebfdccbmmpceaaGreatDoorJ12
import Derived.Deep.RegionWith
import Derived.Deep.RegionHeld
set_option maxRecDepth 20000
set_option maxHeartbeats 4000000
namespace Go.Proofs.YtebfdccbmmpceaaGreatDoor
open Go.RowKit
theorem Ac0 (ss:List ByteArray) (v:Value) (nm:ByteArray) (w:World) (h:Txt w v ss) (hn:ss.length<=1000) :
  Calls Tryz.prog 122 #[v,.string nm] w λe w'=>(∃u,e=.returned u/\Txt w' u (insL ss nm))/\Below w.heap.size w w':=by
 have hT:=h;obtain⟨g,c,rfl,hS,hg,hc,hc9⟩:=h;unfold maxLen at hc9;obtain⟨ii,hi,iz0,iz1,iz2⟩:=info_parts M1;have HT:Hid (Txt w (.slice (some ⟨g,0,none⟩) ss.length c) ss):=hT;clear hT;go_enter Tryz.func122,Tryz.ntmps122
 go_wp2_with fail
 go_loop [5] (λi=>∃k:Nat,k<=ss.length/\i=.int .i64 k/\lowL ss nm k) (λi=>ss.length-(intOf i).toNat)
 case atStart=>exact⟨0,by omega,rfl,λj s hj=>by omega⟩
 case round =>
  obtain⟨k,hk,rfl,hlow⟩:=hrel;have Hlow:Hid (lowL ss nm k):=hlow;clear hlow;by_cases hp:k<ss.length
  ·have c0:=hS k ss[k] (by simp[hp])
   simp only[Nat.zero_add] at c0;cases hl:Op.bytesLess (ss[k]).toList nm.toList
   case true =>
    have Hl:Hid (lessB ss[k] nm=true):=hl;go_wp2_with fail
    go_round
    case rel=>exact⟨k+1,by omega,by go_num,Afj Hlow.out hp Hl.out⟩
    case measure=>simp[intOf];omega
   have Hl:Hid (lessB ss[k] nm=false):=hl;cases hq:((ss[k]).toList==nm.toList)
   case true =>
    have Hq:Hid (insL ss nm=ss):=AdO ss nm k Hlow.out ⟨ss[k],by simp[hp],Hl.out,hq⟩;go_wp2_with fail
    go_ret
    exact⟨⟨_,rfl,by rw[Hq.out];exact HT.out⟩,A4 _ _⟩
   have Hq:Hid (insL ss nm=ss.take k++nm::ss.drop k):=Aba ss nm k Hlow.out hk (λs hs=>by
    obtain⟨_,rfl⟩:=A2.1 hs;exact⟨Hl.out,hq⟩)
   go_wp2_with fail
   obtain⟨o2,ho2⟩:∃o2:Nat,(if c=k then some (⟨g,0,none⟩:Addr) else some ⟨g,k,none⟩)=some ⟨g,o2,none⟩/\StrsAt w g o2 (ss.drop k):=by
    by_cases h7:c=k
    ·exact⟨0,by rw[if_pos h7],λi s hs=>by
      have:=(A2.1 hs).1;simp at this;omega⟩
    ·exact⟨k,by rw[if_neg h7],by have:=hS.drop k;simpa using this⟩
   obtain⟨ho2,-⟩:=ho2;have Nb:((w.alloc (.cells #[] 9)).alloc (.cells #[.string nm] 9)).drew.cell? ⟨w.heap.size+1,0,none⟩=some (.string nm):=by simp[go_sem]
   have nb1:some (w.heap.size+1)≠(Value.slice (some ⟨w.heap.size,0,none⟩) 0 0).ownBlock:=by simp[Value.ownBlock]
   have Nc:((w.alloc (.cells #[.string nm] 9)).alloc (.cells #[] 9)).drew.cell? ⟨w.heap.size,0,none⟩=some (.string nm):=by simp[go_sem]
   have nc1:some w.heap.size≠(Value.slice (some ⟨w.heap.size+1,0,none⟩) 0 0).ownBlock:=by simp[Value.ownBlock]
   have hkc:k<=c:=by omega
   have Fa:=(S1 hS (A4 w.heap.size w)).drew;have Fb:=((S1 hS (A4 w.heap.size w)).alloc (.cells #[.string nm] 9)).drew;have Fc:=(S1 (hS.alloc (.cells #[.string nm] 9)) ((A4 w.heap.size w).alloc (A3 _) (.cells #[.string nm] 9))).drew;rw[show (w.alloc (.cells #[.string nm] 9)).heap.size=w.heap.size+1 by simp] at Fc
   go_region_law (first
    | (revert h2;intro h2;refine F6 rfl _ _ 22 rfl w.heap.size 9 ii _ 1 16 Tryz.underlying22 hi iz0 iz1 iz2 rfl (by decide) _ _ _ rfl h2.1 ⟨g,o2,none⟩ (ss.length-k) _ ((ss.drop k).map Value.string) rfl (by simp) (K0 (Ab0 h2.2.1 ho2 hc)) (Aaa _) (by unfold maxLen;omega) (by omega) h2.2.2.size ?_;intro v3 w3 hown3 hgrow3;have h3:=h2.grow hg hgrow3 hown3;clear h2 hown3 hgrow3)
    | (revert h1;intro h1;refine F6 rfl _ _ 22 rfl w.heap.size 9 ii _ 1 16 Tryz.underlying22 hi iz0 iz1 iz2 rfl (by decide) _ _ _ rfl (by first|exact h1.1|exact (h1.alloc _).1) _ 1 1 [.string nm] rfl rfl (by first|exact Q8 _ _ _|exact Adt hN1) (AaY nm) (by unfold maxLen;omega) (by omega) (by first|exact h1.2.2.size|exact (h1.alloc _).2.2.size) ?_;intro v2 w2 hown2 hgrow2;first|have h2:=h1.grow hg hgrow2 hown2|have h2:=(h1.alloc _).grow hg hgrow2 hown2;clear h1 hown2 hgrow2)
    | (refine F6 rfl _ _ 22 rfl w.heap.size 9 ii _ 1 16 Tryz.underlying22 hi iz0 iz1 iz2 rfl (by decide) _ 0 [] rfl (by first|exact Fa.1|exact Fb.1|exact Fc.1) ⟨g,0,none⟩ k _ ((ss.take k).map Value.string) rfl (by simp;omega) (by first|exact K0 (Fa.2.1.take k)|exact K0 (Fb.2.1.take k)|exact K0 (Fc.2.1.take k)) (Aaa _) (by unfold maxLen;omega) (by omega) (by first|exact Fa.2.2.size|exact Fb.2.2.size|exact Fc.2.2.size) ?_;intro v1 w1 hown1 hgrow1;first|(have h1:=Fa.grow hg hgrow1 hown1)|(have h1:=Fb.grow hg hgrow1 hown1;have hN1:=hgrow1.cell Nb nb1)|(have h1:=Fc.grow hg hgrow1 hown1;have hN1:=hgrow1.cell Nc nc1);clear hown1 hgrow1))
   all_goals
    have HT3:Txt w3 v3 (insL ss nm):=by
     rw[Hq.out];exact Txt.own (n:=0+k+1+(ss.length-k)) (by simpa using h3.1) (by simp;omega) (F4 h3.1 (by omega))
    have hB3:=h3.2.2;clear h3;go_wp2_with fail
    go_ret
    exact⟨⟨_,rfl,HT3⟩,hB3⟩
  ·have Hq:Hid (insL ss nm=ss.take k++nm::ss.drop k):=Aba ss nm k Hlow.out hk (λs hs=>by
    have:=(A2.1 hs).1;omega)
   go_wp2_with fail
   obtain⟨o2,ho2⟩:∃o2:Nat,(if c=k then some (⟨g,0,none⟩:Addr) else some ⟨g,k,none⟩)=some ⟨g,o2,none⟩/\StrsAt w g o2 (ss.drop k):=by
    by_cases h7:c=k
    ·exact⟨0,by rw[if_pos h7],λi s hs=>by
      have:=(A2.1 hs).1;simp at this;omega⟩
    ·exact⟨k,by rw[if_neg h7],by have:=hS.drop k;simpa using this⟩
   obtain⟨ho2,-⟩:=ho2;have Nb:((w.alloc (.cells #[] 9)).alloc (.cells #[.string nm] 9)).drew.cell? ⟨w.heap.size+1,0,none⟩=some (.string nm):=by simp[go_sem]
   have nb1:some (w.heap.size+1)≠(Value.slice (some ⟨w.heap.size,0,none⟩) 0 0).ownBlock:=by simp[Value.ownBlock]
   have Nc:((w.alloc (.cells #[.string nm] 9)).alloc (.cells #[] 9)).drew.cell? ⟨w.heap.size,0,none⟩=some (.string nm):=by simp[go_sem]
   have nc1:some w.heap.size≠(Value.slice (some ⟨w.heap.size+1,0,none⟩) 0 0).ownBlock:=by simp[Value.ownBlock]
   have hkc:k<=c:=by omega
   have Fa:=(S1 hS (A4 w.heap.size w)).drew;have Fb:=((S1 hS (A4 w.heap.size w)).alloc (.cells #[.string nm] 9)).drew;have Fc:=(S1 (hS.alloc (.cells #[.string nm] 9)) ((A4 w.heap.size w).alloc (A3 _) (.cells #[.string nm] 9))).drew;rw[show (w.alloc (.cells #[.string nm] 9)).heap.size=w.heap.size+1 by simp] at Fc
   go_region_law (first
    | (revert h2;intro h2;refine F6 rfl _ _ 22 rfl w.heap.size 9 ii _ 1 16 Tryz.underlying22 hi iz0 iz1 iz2 rfl (by decide) _ _ _ rfl h2.1 ⟨g,o2,none⟩ (ss.length-k) _ ((ss.drop k).map Value.string) rfl (by simp) (K0 (Ab0 h2.2.1 ho2 hc)) (Aaa _) (by unfold maxLen;omega) (by omega) h2.2.2.size ?_;intro v3 w3 hown3 hgrow3;have h3:=h2.grow hg hgrow3 hown3;clear h2 hown3 hgrow3)
    | (revert h1;intro h1;refine F6 rfl _ _ 22 rfl w.heap.size 9 ii _ 1 16 Tryz.underlying22 hi iz0 iz1 iz2 rfl (by decide) _ _ _ rfl (by first|exact h1.1|exact (h1.alloc _).1) _ 1 1 [.string nm] rfl rfl (by first|exact Q8 _ _ _|exact Adt hN1) (AaY nm) (by unfold maxLen;omega) (by omega) (by first|exact h1.2.2.size|exact (h1.alloc _).2.2.size) ?_;intro v2 w2 hown2 hgrow2;first|have h2:=h1.grow hg hgrow2 hown2|have h2:=(h1.alloc _).grow hg hgrow2 hown2;clear h1 hown2 hgrow2)
    | (refine F6 rfl _ _ 22 rfl w.heap.size 9 ii _ 1 16 Tryz.underlying22 hi iz0 iz1 iz2 rfl (by decide) _ 0 [] rfl (by first|exact Fa.1|exact Fb.1|exact Fc.1) ⟨g,0,none⟩ k _ ((ss.take k).map Value.string) rfl (by simp;omega) (by first|exact K0 (Fa.2.1.take k)|exact K0 (Fb.2.1.take k)|exact K0 (Fc.2.1.take k)) (Aaa _) (by unfold maxLen;omega) (by omega) (by first|exact Fa.2.2.size|exact Fb.2.2.size|exact Fc.2.2.size) ?_;intro v1 w1 hown1 hgrow1;first|(have h1:=Fa.grow hg hgrow1 hown1)|(have h1:=Fb.grow hg hgrow1 hown1;have hN1:=hgrow1.cell Nb nb1)|(have h1:=Fc.grow hg hgrow1 hown1;have hN1:=hgrow1.cell Nc nc1);clear hown1 hgrow1))
   all_goals
    have HT3:Txt w3 v3 (insL ss nm):=by
     rw[Hq.out];exact Txt.own (n:=0+k+1+(ss.length-k)) (by simpa using h3.1) (by simp;omega) (F4 h3.1 (by omega))
    have hB3:=h3.2.2;clear h3;go_wp2_with fail
    go_ret
    exact⟨⟨_,rfl,HT3⟩,hB3⟩
theorem AgK (a b:List ByteArray) (va vb:Value) (w:World) (ha:Txt w va a) (hb:Txt w vb b) (hn:a.length+b.length<=900) :
  Calls Tryz.prog 124 #[va,vb] w λe w'=>(∃u,e=.returned u/\Txt w' u (bothL a b))/\Below w.heap.size w w':=by
 have hb':=hb;obtain⟨g,c,rfl,hS,hg,hc,hc9⟩:=hb;go_enter Tryz.func124,Tryz.ntmps124
 go_wp2_with fail
 go_loopw [0,5] (λu i w'=>∃k:Nat,k<=b.length/\i=.int .i64 k/\Txt w' u (bothL a (b.take k))/\Below w.heap.size w w') (λ_ i _=>b.length-(intOf i).toNat)
 case atStart=>exact⟨0,by omega,rfl,by simpa [bothL] using ha,A4 _ _⟩
 case round =>
  obtain⟨k,hk,rfl,hT,hB⟩:=hrel;by_cases hp:k<b.length
  ·have c0:=(hB.cell (p:=⟨g,0+k,none⟩) hg).trans (hS k b[k] (by simp[hp]))
   simp only[Nat.zero_add] at c0;have hl:=Ab3 a (b.take k);rw[B7] at hl;go_wp2_with fail
   refine (Ac0 (bothL a (b.take k)) _ b[k] _ hT (by omega)).mono ?_;rintro e w1 ⟨⟨u,rfl,hT1⟩,hB1⟩;have hB2:=D6 hB hB1;rw[← Ajk a b k hp] at hT1;clear hB hB1 hT c0;go_wp2_with fail
   go_roundw
   case rel=>exact⟨k+1,by omega,by go_num,hT1,hB2⟩
   case measure=>simp[intOf];omega
  ·go_wp2_with fail
   go_ret
   exact⟨⟨_,rfl,by rw[D3 (by omega)] at hT;exact hT⟩,hB⟩
theorem AnR (w:World) (s:ByteArray):Txt (w.alloc (.cells #[.string s] 9)) (.slice (some ⟨w.heap.size,0,none⟩) 1 1) [s] :=
 ⟨w.heap.size,1,rfl,Adc w [s] 9,by simp,by simp,by unfold maxLen;omega⟩
theorem AiL (p:Ph) (w:World) :
  Calls Tryz.prog 89 #[.agg #[.string p.nm,.int .i64 p.k,.string p.a,.string p.b,.int .i64 p.n,.int .i64 p.wi,.string p.t,.string p.e]] w λe w'=>(∃u,e=.returned u/\Txt w' u (ofL p))/\Below w.heap.size w w':=by
 obtain⟨pn,pk,pa,pb,pm,pw,pt,pe⟩:=p;simp only;have hB0:Below w.heap.size w (w.alloc (.cells #[.string pn,.int .i64 pk,.string pa,.string pb,.int .i64 pm,.int .i64 pw,.string pt,.string pe] 84)):=(A4 _ _).alloc (A3 _) _;have hT0:=AnR (w.alloc (.cells #[.string pn,.int .i64 pk,.string pa,.string pb,.int .i64 pm,.int .i64 pw,.string pt,.string pe] 84)) pa;have hB1:=D6 hB0 ((A4 _ _).alloc (A3 _) (.cells #[.string pa] 9));rw[show (w.alloc (.cells #[.string pn,.int .i64 pk,.string pa,.string pb,.int .i64 pm,.int .i64 pw,.string pt,.string pe] 84)).heap.size=w.heap.size+1 by simp] at hT0;by_cases hk:pk=2
 ·subst hk
  go_enter Tryz.func89,Tryz.ntmps89
  go_wp2_with fail
  refine (Ac0 [pa] _ pb _ hT0 (by simp)).mono ?_;rintro e w1 ⟨⟨u,rfl,hT1⟩,hb1⟩;have hB2:=D6 hB1 hb1;clear hB0 hB1 hb1 hT0;go_wp2_with fail
  go_ret
  exact⟨⟨_,rfl,hT1⟩,hB2⟩
 ·have hk2:(pk==2)=false:=by simpa using hk
  have Ho:Hid (ofL ⟨pn,pk,pa,pb,pm,pw,pt,pe⟩=[pa]):=by show _=_;rw[ofL,if_neg hk]
  go_enter Tryz.func89,Tryz.ntmps89
  go_wp2_with fail
  go_ret
  exact⟨⟨_,rfl,by rw[Ho.out];exact hT0⟩,hB1⟩
theorem AaQ (ps:List Ph) (b o c:Nat) (w:World) (hr:RecAt w b o ps) (hb:b<w.heap.size) (hs:Sized ps) (hn:ps.length<=1048576) :
  Calls Tryz.prog 77 #[.slice (some ⟨b,o,none⟩) ps.length c] w λe w'=>e=.returned (.bool (recB ps))/\Below w.heap.size w w':=by
 by_cases hl:1<=ps.length/\ps.length<=12
 case neg =>
  have h2:inB ps.length 1 12=false:=(Aa5 _ _ _).2 (by omega);go_enter Tryz.func77,Tryz.ntmps77
  go_wp2_with (go_at_call 36;refine (I4 _ _ _ _).mono ?_;rintro e w' ⟨rfl,hw⟩;obtain rfl:=hw.symm;clear hw)
  go_ret
  exact⟨D7 (AdT ps hl).symm,A4 _ _⟩
 have h2:inB ps.length 1 12=true:=(P9 _ _ _).2 (by omega);have Hl:Hid (1<=ps.length/\ps.length<=12):=hl;clear hl;go_enter Tryz.func77,Tryz.ntmps77
 go_wp2_with (go_at_call 36;refine (I4 _ _ _ _).mono ?_;rintro e w' ⟨rfl,hw⟩;obtain rfl:=hw.symm;clear hw)
 go_loopw [3] (λi w'=>∃k:Nat,k<=ps.length/\i=.int .i64 k/\allS ps k/\Below w.heap.size w w') (λi _=>ps.length-(intOf i).toNat)
 case atStart=>exact⟨0,by omega,rfl,AkO ps,A4 _ _⟩
 case round =>
  obtain⟨k,hk,rfl,hal,hB⟩:=hrel;have Hal:Hid (allS ps k):=hal;clear hal;by_cases hp:k<ps.length
  ·obtain⟨c0,c1,c2,c3,c4,c5,c6,c7⟩:=hr.cells k hp
   obtain⟨z0,z1,z2,z3,z4⟩:=hs ps[k] (by simp);obtain⟨hc,hf⟩:=E6 hB;have Hno:Hid (stepS ps k ps[k]=false->recB ps=false):=Ams ps k hp;have Hyes:Hid (stepS ps k ps[k]=true->allS ps (k+1)):=AkM Hal.out hp;cases h1:phaseB (ps[k]).nm (ps[k]).k (ps[k]).a (ps[k]).b (ps[k]).n (ps[k]).wi (ps[k]).t (ps[k]).e
   ·go_wp2_with (first|(go_at_call 36;refine (I4 _ _ _ _).mono ?_;rintro e w' ⟨rfl,hw⟩;obtain rfl:=hw.symm;clear hw)|(go_at_call 117;refine (L6 _ _ _ _ _ _ _ _ _ z0 z1 z2 z3 z4).mono ?_;rintro e w1 ⟨rfl,hb1⟩;(first|(have hB':=D6 hB hb1;clear hB;have hB:=hB';clear hB')|(have hB:=hb1));clear hb1;(try clear hc hf);obtain⟨hc,hf⟩:=E6 hB)|(go_at_call 46;refine (O1 _ _ _ _ _ _ (hr.up hB hb) hn).mono ?_;rintro e w' ⟨rfl,hw⟩;obtain rfl:=hw.symm;clear hw)|(go_at_call 90;refine (K8 _ _).mono ?_;rintro e w' ⟨rfl,hw⟩;obtain rfl:=hw.symm;clear hw))
    go_ret
    exact⟨D7 (Hno.out (by simp[stepS,Ph.okB,h1])).symm,hB⟩
   have H1:Hid ((ps[k]).okB=true):=h1;cases h3:(atI ps (ps[k]).nm != (k:Int))
   case true =>
    have H3:Hid ((atI ps (ps[k]).nm==(k:Int))=false):=by show _=_;simpa [bne] using h3
    go_wp2_with (first|(go_at_call 36;refine (I4 _ _ _ _).mono ?_;rintro e w' ⟨rfl,hw⟩;obtain rfl:=hw.symm;clear hw)|(go_at_call 117;refine (L6 _ _ _ _ _ _ _ _ _ z0 z1 z2 z3 z4).mono ?_;rintro e w1 ⟨rfl,hb1⟩;(first|(have hB':=D6 hB hb1;clear hB;have hB:=hB';clear hB')|(have hB:=hb1));clear hb1;(try clear hc hf);obtain⟨hc,hf⟩:=E6 hB)|(go_at_call 46;refine (O1 _ _ _ _ _ _ (hr.up hB hb) hn).mono ?_;rintro e w' ⟨rfl,hw⟩;obtain rfl:=hw.symm;clear hw)|(go_at_call 90;refine (K8 _ _).mono ?_;rintro e w' ⟨rfl,hw⟩;obtain rfl:=hw.symm;clear hw))
    go_ret
    exact⟨D7 (Hno.out (by simp[stepS,H3.out])).symm,hB⟩
   have H3:Hid ((atI ps (ps[k]).nm==(k:Int))=true):=by show _=_;simpa [bne] using h3
   by_cases h4:(endN (ps[k]).t==0)=true/\atI ps (ps[k]).t<=(k:Int)
   case pos =>
    have H4:Hid (stepS ps k ps[k]=false):=by show _=_;simp[stepS,h4]
    obtain⟨h4a,h4b⟩:=h4;go_wp2_with (first|(go_at_call 36;refine (I4 _ _ _ _).mono ?_;rintro e w' ⟨rfl,hw⟩;obtain rfl:=hw.symm;clear hw)|(go_at_call 117;refine (L6 _ _ _ _ _ _ _ _ _ z0 z1 z2 z3 z4).mono ?_;rintro e w1 ⟨rfl,hb1⟩;(first|(have hB':=D6 hB hb1;clear hB;have hB:=hB';clear hB')|(have hB:=hb1));clear hb1;(try clear hc hf);obtain⟨hc,hf⟩:=E6 hB)|(go_at_call 46;refine (O1 _ _ _ _ _ _ (hr.up hB hb) hn).mono ?_;rintro e w' ⟨rfl,hw⟩;obtain rfl:=hw.symm;clear hw)|(go_at_call 90;refine (K8 _ _).mono ?_;rintro e w' ⟨rfl,hw⟩;obtain rfl:=hw.symm;clear hw))
    go_ret
    exact⟨D7 (Hno.out H4.out).symm,hB⟩
   have H4:Hid ((!(endN (ps[k]).t==0&&decide (atI ps (ps[k]).t<=(k:Int))))=true):=AiD h4;by_cases h5:(endN (ps[k]).e==0)=true/\atI ps (ps[k]).e<=(k:Int)
   case pos =>
    have H5:Hid (stepS ps k ps[k]=false):=by show _=_;simp[stepS,h5]
    obtain⟨h5a,h5b⟩:=h5;cases h4a:(endN (ps[k]).t==0)
    ·clear h4
     go_wp2_with (first|(go_at_call 36;refine (I4 _ _ _ _).mono ?_;rintro e w' ⟨rfl,hw⟩;obtain rfl:=hw.symm;clear hw)|(go_at_call 117;refine (L6 _ _ _ _ _ _ _ _ _ z0 z1 z2 z3 z4).mono ?_;rintro e w1 ⟨rfl,hb1⟩;(first|(have hB':=D6 hB hb1;clear hB;have hB:=hB';clear hB')|(have hB:=hb1));clear hb1;(try clear hc hf);obtain⟨hc,hf⟩:=E6 hB)|(go_at_call 46;refine (O1 _ _ _ _ _ _ (hr.up hB hb) hn).mono ?_;rintro e w' ⟨rfl,hw⟩;obtain rfl:=hw.symm;clear hw)|(go_at_call 90;refine (K8 _ _).mono ?_;rintro e w' ⟨rfl,hw⟩;obtain rfl:=hw.symm;clear hw))
     go_ret
     exact⟨D7 (Hno.out H5.out).symm,hB⟩
    ·have h4b:(k:Int)<atI ps (ps[k]).t:=by
      rw[h4a] at h4;simpa using h4
     clear h4;go_wp2_with (first|(go_at_call 36;refine (I4 _ _ _ _).mono ?_;rintro e w' ⟨rfl,hw⟩;obtain rfl:=hw.symm;clear hw)|(go_at_call 117;refine (L6 _ _ _ _ _ _ _ _ _ z0 z1 z2 z3 z4).mono ?_;rintro e w1 ⟨rfl,hb1⟩;(first|(have hB':=D6 hB hb1;clear hB;have hB:=hB';clear hB')|(have hB:=hb1));clear hb1;(try clear hc hf);obtain⟨hc,hf⟩:=E6 hB)|(go_at_call 46;refine (O1 _ _ _ _ _ _ (hr.up hB hb) hn).mono ?_;rintro e w' ⟨rfl,hw⟩;obtain rfl:=hw.symm;clear hw)|(go_at_call 90;refine (K8 _ _).mono ?_;rintro e w' ⟨rfl,hw⟩;obtain rfl:=hw.symm;clear hw))
     go_ret
     exact⟨D7 (Hno.out H5.out).symm,hB⟩
   have H5:Hid (stepS ps k ps[k]=true):=by
    show _=_
    have e5:(!(endN (ps[k]).e==0&&decide (atI ps (ps[k]).e<=(k:Int))))=true:=AiD h5;simp only[stepS,H1.out,H3.out,H4.out,e5,Bool.and_self]
   cases h4a:(endN (ps[k]).t==0)<;>cases h5a:(endN (ps[k]).e==0)
   ·clear h4 h5
    go_wp2_with (first|(go_at_call 36;refine (I4 _ _ _ _).mono ?_;rintro e w' ⟨rfl,hw⟩;obtain rfl:=hw.symm;clear hw)|(go_at_call 117;refine (L6 _ _ _ _ _ _ _ _ _ z0 z1 z2 z3 z4).mono ?_;rintro e w1 ⟨rfl,hb1⟩;(first|(have hB':=D6 hB hb1;clear hB;have hB:=hB';clear hB')|(have hB:=hb1));clear hb1;(try clear hc hf);obtain⟨hc,hf⟩:=E6 hB)|(go_at_call 46;refine (O1 _ _ _ _ _ _ (hr.up hB hb) hn).mono ?_;rintro e w' ⟨rfl,hw⟩;obtain rfl:=hw.symm;clear hw)|(go_at_call 90;refine (K8 _ _).mono ?_;rintro e w' ⟨rfl,hw⟩;obtain rfl:=hw.symm;clear hw))
    go_roundw
    case rel=>exact⟨k+1,by omega,by go_num,Hyes.out H5.out,hB⟩
    case measure=>simp[intOf];omega
   ·have h5b:(k:Int)<atI ps (ps[k]).e:=by
     rw[h5a] at h5;simpa using h5
    clear h4 h5;go_wp2_with (first|(go_at_call 36;refine (I4 _ _ _ _).mono ?_;rintro e w' ⟨rfl,hw⟩;obtain rfl:=hw.symm;clear hw)|(go_at_call 117;refine (L6 _ _ _ _ _ _ _ _ _ z0 z1 z2 z3 z4).mono ?_;rintro e w1 ⟨rfl,hb1⟩;(first|(have hB':=D6 hB hb1;clear hB;have hB:=hB';clear hB')|(have hB:=hb1));clear hb1;(try clear hc hf);obtain⟨hc,hf⟩:=E6 hB)|(go_at_call 46;refine (O1 _ _ _ _ _ _ (hr.up hB hb) hn).mono ?_;rintro e w' ⟨rfl,hw⟩;obtain rfl:=hw.symm;clear hw)|(go_at_call 90;refine (K8 _ _).mono ?_;rintro e w' ⟨rfl,hw⟩;obtain rfl:=hw.symm;clear hw))
    go_roundw
    case rel=>exact⟨k+1,by omega,by go_num,Hyes.out H5.out,hB⟩
    case measure=>simp[intOf];omega
   ·have h4b:(k:Int)<atI ps (ps[k]).t:=by
     rw[h4a] at h4;simpa using h4
    clear h4 h5;go_wp2_with (first|(go_at_call 36;refine (I4 _ _ _ _).mono ?_;rintro e w' ⟨rfl,hw⟩;obtain rfl:=hw.symm;clear hw)|(go_at_call 117;refine (L6 _ _ _ _ _ _ _ _ _ z0 z1 z2 z3 z4).mono ?_;rintro e w1 ⟨rfl,hb1⟩;(first|(have hB':=D6 hB hb1;clear hB;have hB:=hB';clear hB')|(have hB:=hb1));clear hb1;(try clear hc hf);obtain⟨hc,hf⟩:=E6 hB)|(go_at_call 46;refine (O1 _ _ _ _ _ _ (hr.up hB hb) hn).mono ?_;rintro e w' ⟨rfl,hw⟩;obtain rfl:=hw.symm;clear hw)|(go_at_call 90;refine (K8 _ _).mono ?_;rintro e w' ⟨rfl,hw⟩;obtain rfl:=hw.symm;clear hw))
    go_roundw
    case rel=>exact⟨k+1,by omega,by go_num,Hyes.out H5.out,hB⟩
    case measure=>simp[intOf];omega
   ·have h4b:(k:Int)<atI ps (ps[k]).t:=by
     rw[h4a] at h4;simpa using h4
    have h5b:(k:Int)<atI ps (ps[k]).e:=by
     rw[h5a] at h5;simpa using h5
    clear h4 h5;go_wp2_with (first|(go_at_call 36;refine (I4 _ _ _ _).mono ?_;rintro e w' ⟨rfl,hw⟩;obtain rfl:=hw.symm;clear hw)|(go_at_call 117;refine (L6 _ _ _ _ _ _ _ _ _ z0 z1 z2 z3 z4).mono ?_;rintro e w1 ⟨rfl,hb1⟩;(first|(have hB':=D6 hB hb1;clear hB;have hB:=hB';clear hB')|(have hB:=hb1));clear hb1;(try clear hc hf);obtain⟨hc,hf⟩:=E6 hB)|(go_at_call 46;refine (O1 _ _ _ _ _ _ (hr.up hB hb) hn).mono ?_;rintro e w' ⟨rfl,hw⟩;obtain rfl:=hw.symm;clear hw)|(go_at_call 90;refine (K8 _ _).mono ?_;rintro e w' ⟨rfl,hw⟩;obtain rfl:=hw.symm;clear hw))
    go_roundw
    case rel=>exact⟨k+1,by omega,by go_num,Hyes.out H5.out,hB⟩
    case measure=>simp[intOf];omega
  ·go_wp2
   go_ret
   exact⟨D7 (AkQ ps k Hl.out hk hp Hal.out).symm,hB⟩
theorem Adz (w:World):Txt (w.alloc (.cells #[] 9)) (.slice (some ⟨w.heap.size,0,none⟩) 0 0) [] :=
 ⟨w.heap.size,0,rfl,λi s hs=>by simp at hs,by simp,by simp,by unfold maxLen;omega⟩
theorem AnS {W w0:World} {b o:Nat} {x0 x1 x2 x3 x4 x5 x6 x7:Value} (h:Below W.heap.size W w0/\w0.cell? ⟨b,o,none⟩=some x0/\w0.cell? ⟨b,o+1,none⟩=some x1/\w0.cell? ⟨b,o+2,none⟩=some x2/\w0.cell? ⟨b,o+3,none⟩=some x3/\w0.cell? ⟨b,o+4,none⟩=some x4/\w0.cell? ⟨b,o+5,none⟩=some x5/\w0.cell? ⟨b,o+6,none⟩=some x6/\w0.cell? ⟨b,o+7,none⟩=some x7):Below W.heap.size W w0.drew/\w0.drew.cell? ⟨b,o,none⟩=some x0/\w0.drew.cell? ⟨b,o+1,none⟩=some x1/\w0.drew.cell? ⟨b,o+2,none⟩=some x2/\w0.drew.cell? ⟨b,o+3,none⟩=some x3/\w0.drew.cell? ⟨b,o+4,none⟩=some x4/\w0.drew.cell? ⟨b,o+5,none⟩=some x5/\w0.drew.cell? ⟨b,o+6,none⟩=some x6/\w0.drew.cell? ⟨b,o+7,none⟩=some x7 :=
 ⟨h.1.drew,h.2⟩
theorem hp_up {W w0 w1:World} {b o:Nat} {x0 x1 x2 x3 x4 x5 x6 x7:Value} (hb:b<W.heap.size) (h:Below W.heap.size W w0/\w0.cell? ⟨b,o,none⟩=some x0/\w0.cell? ⟨b,o+1,none⟩=some x1/\w0.cell? ⟨b,o+2,none⟩=some x2/\w0.cell? ⟨b,o+3,none⟩=some x3/\w0.cell? ⟨b,o+4,none⟩=some x4/\w0.cell? ⟨b,o+5,none⟩=some x5/\w0.cell? ⟨b,o+6,none⟩=some x6/\w0.cell? ⟨b,o+7,none⟩=some x7) (hB:Below w0.heap.size w0 w1):Below W.heap.size W w1/\w1.cell? ⟨b,o,none⟩=some x0/\w1.cell? ⟨b,o+1,none⟩=some x1/\w1.cell? ⟨b,o+2,none⟩=some x2/\w1.cell? ⟨b,o+3,none⟩=some x3/\w1.cell? ⟨b,o+4,none⟩=some x4/\w1.cell? ⟨b,o+5,none⟩=some x5/\w1.cell? ⟨b,o+6,none⟩=some x6/\w1.cell? ⟨b,o+7,none⟩=some x7:=by
 obtain⟨h1,a0,a1,a2,a3,a4,a5,a6,a7⟩:=h;have hl:b<w0.heap.size:=A1 hb h1.size;exact⟨D6 h1 hB,(hB.cell (p:=⟨b,o,none⟩) hl).trans a0,(hB.cell (p:=⟨b,o+1,none⟩) hl).trans a1,(hB.cell (p:=⟨b,o+2,none⟩) hl).trans a2,(hB.cell (p:=⟨b,o+3,none⟩) hl).trans a3,(hB.cell (p:=⟨b,o+4,none⟩) hl).trans a4,(hB.cell (p:=⟨b,o+5,none⟩) hl).trans a5,(hB.cell (p:=⟨b,o+6,none⟩) hl).trans a6,(hB.cell (p:=⟨b,o+7,none⟩) hl).trans a7⟩
theorem AbI (ps:List Ph) (b o c:Nat) (hok:recB ps=true) (f:Nat):∀(nm:ByteArray) (w:World),RecAt w b o ps->b<w.heap.size->(atI ps nm<0∨(ps.length:Int)<atI ps nm+f)->
  Calls Tryz.prog 92 #[.slice (some ⟨b,o,none⟩) ps.length c,.string nm] w λe w'=>(∃u,e=.returned u/\Txt w' u (slE ps nm))/\Below w.heap.size w w':=by
 have h12:ps.length<=12:=((J8 ps).1 hok).2.1;have hn:ps.length<=1048576:=by omega
 have hlen:∀nm,(slE ps nm).length<=24:=λnm=>by have:=Aay ps nm;omega
 have hout:∀nm w,atI ps nm<0->RecAt w b o ps->Calls Tryz.prog 92 #[.slice (some ⟨b,o,none⟩) ps.length c,.string nm] w λe w'=>(∃u,e=.returned u/\Txt w' u (slE ps nm))/\Below w.heap.size w w':=by
  intro nm w h0 hr
  have hv:slE ps nm=[]:=by
   unfold slE;rw[AnL ps _ _ _ nm h0];split<;>rfl
  have HV:Hid (slE ps nm=[]):=hv;clear hv hlen;go_enter Tryz.func92,Tryz.ntmps92
  go_wp2_with (go_at_call 46;refine (O1 _ _ _ _ _ _ hr hn).mono ?_;rintro e w' ⟨rfl,hw⟩;obtain rfl:=hw.symm;clear hw)
  go_ret
  exact⟨⟨_,rfl,by rw[HV.out];exact Adz w⟩,(A4 _ _).alloc (A3 _) _⟩
 induction f with
 | zero =>
  intro nm w hr hb hf;have hlt:=AkV ps nm;exact hout nm w (by omega) hr
 | succ f ih =>
  intro nm w hr hb hf;have hlt:=AkV ps nm;by_cases h0:atI ps nm<0
  ·exact hout nm w h0 hr
  ·obtain⟨k,hka⟩:∃k:Nat,atI ps nm=(k:Int):=⟨(atI ps nm).toNat,by omega⟩
   have hk:k<ps.length:=by omega
   obtain⟨g1,g2⟩:=AeW hok hk;have HV:Hid (slE ps nm=bothL (bothL (ofL ps[k]) (slE ps (ps[k]).t)) (slE ps (ps[k]).e)):=Ag0 hok _ _ _ nm hk hka
   have I1:Hid (∀w,RecAt w b o ps->b<w.heap.size->Calls Tryz.prog 92 #[.slice (some ⟨b,o,none⟩) ps.length c,.string (ps[k]).t] w λe w'=>(∃u,e=.returned u/\Txt w' u (slE ps (ps[k]).t))/\Below w.heap.size w w'):=by
    show _;intro w hr hb;exact ih _ w hr hb (by have:=Afq hok hk _ g1;omega)
   have I2:Hid (∀w,RecAt w b o ps->b<w.heap.size->Calls Tryz.prog 92 #[.slice (some ⟨b,o,none⟩) ps.length c,.string (ps[k]).e] w λe w'=>(∃u,e=.returned u/\Txt w' u (slE ps (ps[k]).e))/\Below w.heap.size w w'):=by
    show _;intro w hr hb;exact ih _ w hr hb (by have:=Afq hok hk _ g2;omega)
   obtain⟨c0,c1,c2,c3,c4,c5,c6,c7⟩:=hr.cells k hk
   have HH5:Hid (∀w,RecAt w b o ps->Calls Tryz.prog 46 #[.slice (some ⟨b,o,none⟩) ps.length c,.string nm] w λe w'=>e=.returned (.int .i64 (k:Int))/\w'=w):=by
    show _;intro w hr;rw[← hka];exact O1 _ _ _ _ _ _ hr hn
   have hl1:=hlen (ps[k]).t;have hl2:=hlen (ps[k]).e
   have hl0:(ofL ps[k]).length<=2:=by
    unfold ofL;split
    ·have:=Acj [(ps[k]).a] (ps[k]).b;simpa using this
    ·simp
   clear hka hf hlt ih h0 hout hlen g1 g2;generalize ps[k]=p at *;go_enter Tryz.func92,Tryz.ntmps92
   go_wp2_with fail
   refine (HH5.out _ hr).mono ?_;rintro e w' ⟨rfl,hw⟩;obtain rfl:=hw.symm;clear hw;go_wp2_with fail
   have hS0:Below w.heap.size w w/\w.cell? ⟨b,o+k*8,none⟩=some (.string p.nm)/\w.cell? ⟨b,o+k*8+1,none⟩=some (.int .i64 p.k)/\w.cell? ⟨b,o+k*8+2,none⟩=some (.string p.a)/\w.cell? ⟨b,o+k*8+3,none⟩=some (.string p.b)/\w.cell? ⟨b,o+k*8+4,none⟩=some (.int .i64 p.n)/\w.cell? ⟨b,o+k*8+5,none⟩=some (.int .i64 p.wi)/\w.cell? ⟨b,o+k*8+6,none⟩=some (.string p.t)/\w.cell? ⟨b,o+k*8+7,none⟩=some (.string p.e):=⟨A4 _ _,c0,c1,c2,c3,c4,c5,c6,c7⟩;clear c0 c1 c2 c3 c4 c5 c6 c7;have Hr:Hid (RecAt w b o ps):=hr;clear hr
   go_region_held (λw'=>Below w.heap.size w w'/\w'.cell? ⟨b,o+k*8,none⟩=some (.string p.nm)/\w'.cell? ⟨b,o+k*8+1,none⟩=some (.int .i64 p.k)/\w'.cell? ⟨b,o+k*8+2,none⟩=some (.string p.a)/\w'.cell? ⟨b,o+k*8+3,none⟩=some (.string p.b)/\w'.cell? ⟨b,o+k*8+4,none⟩=some (.int .i64 p.n)/\w'.cell? ⟨b,o+k*8+5,none⟩=some (.int .i64 p.wi)/\w'.cell? ⟨b,o+k*8+6,none⟩=some (.string p.t)/\w'.cell? ⟨b,o+k*8+7,none⟩=some (.string p.e)) (first|exact AnS hS0|exact hp_up hb (by assumption) (by assumption))
    (first
     | (go_at_call 89;refine (AiL p _).mono ?_;rintro e w1 ⟨⟨u1,rfl,hT1⟩,hb1⟩)
     | (go_at_call_of 92 (Value.string p.t);refine (I1.out _ (Hr.out.up (And.left (by assumption)) hb) (A1 hb (Below.size (And.left (by assumption))))).mono ?_;rintro e w2 ⟨⟨u2,rfl,hT2⟩,hb2⟩;have hT1':=hT1.up hb2)
     | (go_at_call_of 92 (Value.string p.e);refine (I2.out _ (Hr.out.up (And.left (by assumption)) hb) (A1 hb (Below.size (And.left (by assumption))))).mono ?_;rintro e w4 ⟨⟨u4,rfl,hT4⟩,hb4⟩;have hT3':=hT3.up hb4)
     | (go_at_call 124;revert hT4;intro hT4;refine (AgK _ _ u3 u4 _ hT3' hT4 (by have:=Ab3 (ofL p) (slE ps p.t);omega)).mono ?_;rintro e w5 ⟨⟨u5,rfl,hT5⟩,hb5⟩)
     | (go_at_call 124;refine (AgK _ _ u1 u2 _ hT1' hT2 (by omega)).mono ?_;rintro e w3 ⟨⟨u3,rfl,hT3⟩,hb3⟩))
   rename_i hHeld;have hB5:=hHeld.1;clear hHeld hb1 hb2 hb3 hb4 hb5 hT1 hT2 hT3 hT4 hT1' hT3' hS0;go_wp2_with fail
   go_ret
   exact⟨⟨_,rfl,by rw[HV.out];exact hT5⟩,hB5⟩
theorem Abj (ps:List Ph) (l:List Sl) (b o c g q cc:Nat) (w:World) (hr:RecAt w b o ps) (hb:b<w.heap.size) (hok:recB ps=true)
  (hl:SlAt w g q l) (hg:g<w.heap.size) (hn:l.length<=1048576) (hz:∀y∈l,y.s.size<=maxLen/\y.t.size<=maxLen) :
  Calls Tryz.prog 78 #[.slice (some ⟨b,o,none⟩) ps.length c,.slice (some ⟨g,q,none⟩) l.length cc] w λe w'=>e=.returned (.bool (pB (SlotsOk ps l)))/\Below w.heap.size w w':=by
 obtain⟨hp1,hp12,-⟩:=(J8 ps).1 hok;obtain⟨c0,-⟩:=hr.cells 0 (by omega);rw[show o+0*8=o by omega] at c0;have hsl:=Aay ps (fstN ps);have hcall:=AbI ps b o c hok 20 (fstN ps) w hr hb (by omega);rw[← Adb (by omega)] at c0;have HP:Hid (SlotsOk ps l=SlOk l (slE ps (fstN ps))):=rfl;have hlen24:(slE ps (fstN ps)).length<=24:=by omega
 clear hsl;generalize slE ps (fstN ps)=ns at *;generalize fstN ps=f0 at *;go_enter Tryz.func78,Tryz.ntmps78
 go_wp2_with fail
 refine hcall.mono ?_;rintro e w1 ⟨⟨u,rfl,hT⟩,hB1⟩;obtain⟨gu,cu,rfl,hS,hgu,-⟩:=hT;clear hcall c0;by_cases hll:l.length=ns.length
 case neg =>
  have HN:Hid (pB (SlotsOk ps l)=false):=F3 (by rw[HP.out];exact λh=>hll h.1);have hll':¬ns.length=l.length:=λe=>hll e.symm;go_wp2_with fail
  go_ret
  exact⟨D7 HN.out.symm,hB1⟩
 have Hll:Hid (l.length=ns.length):=hll;go_upto_region 4 with fail
 clear hll;have hn:ns.length<=1048576:=by omega
 go_wp2_with fail
 go_loopw [6,7] (λi _ w'=>∃k:Nat,k<=ns.length/\i=.int .i64 k/\SlP l ns k/\SlD l k/\Below w1.heap.size w1 w') (λi _ _=>ns.length-(intOf i).toNat)
 case atStart=>exact⟨0,by omega,rfl,λj x hj _=>by omega,λj k x y hj=>by omega,A4 _ _⟩
 case round =>
  obtain⟨k,hk,rfl,hP,hD,hB⟩:=hrel;have HPk:Hid (SlP l ns k):=hP;have HDk:Hid (SlD l k):=hD;clear hP hD;by_cases hkn:k<ns.length
  ·have hp:k<l.length:=by have:=Hll.out;omega
   have hl1:=hl.up (D6 hB1 hB) hg;obtain⟨d0,d1⟩:=hl1.cells k hp;have e0:wr.cell? ⟨gu,k,none⟩=some (.string ns[k]):=(hB.cell (p:=⟨gu,k,none⟩) hgu).trans (by have:=hS k ns[k] (by simp);simpa using this);obtain⟨zs,zt⟩:=hz l[k] (by simp);have N1:Hid (((l[k]).s.toList==(ns[k]).toList)=false->¬SlOk l ns):=SlP.no1 hp hkn;have N2:Hid (nameB (l[k]).t=false->¬SlOk l ns):=SlP.no2 hp;have N3:Hid (((l[k]).s.toList==(ns[k]).toList)=true->nameB (l[k]).t=true->SlP l ns (k+1)):=HPk.out.step hp hkn;have N4:Hid ((∀(j:Nat) (y:Sl),j<k->l[j]?=some y->y.t.toList≠(l[k]).t.toList)->SlD l (k+1)):=HDk.out.step hp;have N5:Hid (∀(j:Nat) (hj:j<k),((l[j]'(by omega)).t.toList==(l[k]).t.toList)=true->¬SlOk l ns):=λj hj=>SlD.no hp hj;have q1:∀m,Calls Tryz.prog 76 #[.string (l[k]).t] (wr.drewN m) λe w'=>e=.returned (.bool (nameB (l[k]).t))/\∃n,w'=wr.drewN n:=λm=>(I0 _ _ zt).mono λe w' ⟨h1,h2⟩=>⟨h1,m,h2⟩;generalize hy:l[k]=y at *;generalize ns[k]=s0 at *;cases h1:(y.s.toList==s0.toList)
   ·have Hno:Hid (pB (SlotsOk ps l)=false):=F3 (by rw[HP.out];exact N1.out h1)
    go_wp2_with fail
    go_quiet (fail)
    go_wp2
    go_ret
    exact⟨D7 Hno.out.symm,E8 (D6 hB1 hB) _⟩
   ·cases h2:nameB y.t
    ·have Hno:Hid (pB (SlotsOk ps l)=false):=F3 (by rw[HP.out];exact N2.out h2)
     rw[h2] at q1;go_wp2_with fail
     go_quiet ((go_at_call 76;exact q1 _))
     go_wp2_with fail
     go_ret
     exact⟨D7 Hno.out.symm,E8 (D6 hB1 hB) _⟩
    ·have Hyes:Hid (SlP l ns (k+1)):=N3.out h1 h2
     rw[h2] at q1;go_wp2_with fail
     go_quiet ((go_at_call 76;exact q1 _))
     go_wp2_with fail
     go_loopw [7] (λi w'=>∃m:Nat,m<=k/\i=.int .i64 m/\(∀(j:Nat) (z:Sl),j<m->l[j]?=some z->z.t.toList≠y.t.toList)/\∃nd,w'=wr.drewN nd) (λi _=>k-(intOf i).toNat)
     case atStart=>exact⟨0,by omega,rfl,λj z hj=>by omega,_,rfl⟩
     case round =>
      obtain⟨m,hm,rfl,hal,nd,rfl⟩:=hrel;have Hal:Hid (∀(j:Nat) (z:Sl),j<m->l[j]?=some z->z.t.toList≠y.t.toList):=hal;clear hal;by_cases hmk:m<k
      ·have hml:m<l.length:=by omega
       obtain⟨f0',f1⟩:=hl1.cells m hml;have f2:=f1;cases h3:((l[m]).t.toList==y.t.toList)
       ·have Hq:Hid (∀(j:Nat) (z:Sl),j<m+1->l[j]?=some z->z.t.toList≠y.t.toList):=λj z hj hz=>by
         rcases Nat.lt_or_ge j m with h'|h'
         ·exact Hal.out j z h' hz
         ·obtain rfl:j=m:=by omega
          obtain⟨_,rfl⟩:=A2.1 hz;intro e;rw[e] at h3;simp at h3
        go_wp2_with fail
        go_quiet (fail)
        go_wp2_with fail
        go_roundw
        case rel=>exact⟨m+1,by omega,by go_num,Hq.out,_,rfl⟩
        case measure=>simp[intOf];omega
       ·have Hno:Hid (pB (SlotsOk ps l)=false):=F3 (by rw[HP.out];exact N5.out m hmk h3)
        go_wp2_with fail
        go_quiet (fail)
        go_wp2_with fail
        go_ret
        exact⟨D7 Hno.out.symm,E8 (E8 (D6 hB1 hB) _) _⟩
      ·have Hd:Hid (SlD l (k+1)):=N4.out λj z hj hz=>Hal.out j z (by omega) hz
       go_wp2_with fail
       go_roundw
       case rel=>exact⟨k+1,by omega,by go_num,Hyes.out,Hd.out,E8 hB _⟩
       case measure=>simp[intOf];omega
  ·have Hq:Hid (pB (SlotsOk ps l)=true):=I7 (by
    rw[HP.out];have e:k=l.length:=by have:=Hll.out;omega
    exact⟨Hll.out,by have:=HPk.out;rwa [e] at this,by have:=HDk.out;rwa [e] at this⟩)
   go_wp2_with fail
   go_ret
   exact⟨D7 Hq.out.symm,D6 hB1 hB⟩
theorem AaB (s:ByteArray) (w:World) (hs:s.size<=maxLen):Calls Tryz.prog 76 #[.string s] w λe w'=>e=.returned (.bool (nameB s))/\Below w.heap.size w w' :=
 (I0 s w hs).mono λ_ _ h=>⟨h.1,by rw[h.2];exact A4 _ _⟩
theorem O2 (x:Rb) (rv sv:Value) (w:World) (h:RbV w x rv sv) :
  Calls Tryz.prog 39 #[.agg #[.string x.nm,rv,sv,.string x.ad,.int .i64 x.si,.int .i64 x.st]] w λe w'=>e=.returned (.bool (pB (RbOk x)))/\Below w.heap.size w w':=by
 obtain⟨b,o,c,rfl,hr,hb,hcap,hc9⟩:=h.r;obtain⟨g,q,d,rfl,hl,hg⟩:=h.s;have zp:=h.zp;have zs:=h.zs;have zn:=h.zn;have np:=h.np;have ns:=h.ns;clear h;have hC:CB (w.alloc (.cells #[.string x.nm,.slice (some ⟨b,o,none⟩) x.ps.length c,.slice (some ⟨g,q,none⟩) x.sl.length d,.string x.ad,.int .i64 x.si,.int .i64 x.st] 52)) w.heap.size [.string x.nm,.slice (some ⟨b,o,none⟩) x.ps.length c,.slice (some ⟨g,q,none⟩) x.sl.length d,.string x.ad,.int .i64 x.si,.int .i64 x.st]:=E7 w _ _;have hB0:=(A4 w.heap.size w).alloc (A3 _) (.cells #[.string x.nm,.slice (some ⟨b,o,none⟩) x.ps.length c,.slice (some ⟨g,q,none⟩) x.sl.length d,.string x.ad,.int .i64 x.si,.int .i64 x.st] 52);go_enter Tryz.func39,Tryz.ntmps39
 go_upto_region 1 with fail
 generalize w.alloc (.cells #[.string x.nm,.slice (some ⟨b,o,none⟩) x.ps.length c,.slice (some ⟨g,q,none⟩) x.sl.length d,.string x.ad,.int .i64 x.si,.int .i64 x.st] 52)=W1 at *;obtain⟨d0,d1,d2,d3,d4,d5⟩:=hC.c6;have hlt:=hC.2.2;have hB:Below W1.heap.size W1 W1:=A4 _ _;obtain⟨hc,hf⟩:=E6 hB;cases h1:nameB x.nm
 ·have HN:Hid (pB (RbOk x)=false):=F3 λh=>by rw[h.1] at h1;cases h1
  go_wp2_with (first|(go_at_call 76;refine (AaB _ _ zn).mono ?_;rintro e w1 ⟨rfl,hb1⟩;(first|(have hB':=D6 hB hb1;clear hB;have hB:=hB';clear hB')|(have hB:=hb1));clear hb1;(try clear hc hf);obtain⟨hc,hf⟩:=E6 hB))
  go_ret
  exact⟨D7 HN.out.symm,D6 hB0 hB⟩
 cases h3:recB x.ps
 ·have HN:Hid (pB (RbOk x)=false):=F3 λh=>by rw[h.2.1] at h3;cases h3
  go_wp2_with (first|(go_at_call 76;refine (AaB _ _ zn).mono ?_;rintro e w1 ⟨rfl,hb1⟩;(first|(have hB':=D6 hB hb1;clear hB;have hB:=hB';clear hB')|(have hB:=hb1));clear hb1;(try clear hc hf);obtain⟨hc,hf⟩:=E6 hB)|(go_at_call 77;refine (AaQ x.ps b o c _ (hr.up (D6 hB0 hB) hb) (A1 hb (D6 hB0 hB).size) zp np).mono ?_;rintro e w1 ⟨rfl,hb1⟩;(first|(have hB':=D6 hB hb1;clear hB;have hB:=hB';clear hB')|(have hB:=hb1));clear hb1;(try clear hc hf);obtain⟨hc,hf⟩:=E6 hB))
  go_ret
  exact⟨D7 HN.out.symm,D6 hB0 hB⟩
 cases h4:pB (SlotsOk x.ps x.sl)
 ·have HN:Hid (pB (RbOk x)=false):=F3 λh=>J4.1 h4 h.2.2.1
  go_wp2_with (first|(go_at_call 76;refine (AaB _ _ zn).mono ?_;rintro e w1 ⟨rfl,hb1⟩;(first|(have hB':=D6 hB hb1;clear hB;have hB:=hB';clear hB')|(have hB:=hb1));clear hb1;(try clear hc hf);obtain⟨hc,hf⟩:=E6 hB)|(go_at_call 77;refine (AaQ x.ps b o c _ (hr.up (D6 hB0 hB) hb) (A1 hb (D6 hB0 hB).size) zp np).mono ?_;rintro e w1 ⟨rfl,hb1⟩;(first|(have hB':=D6 hB hb1;clear hB;have hB:=hB';clear hB')|(have hB:=hb1));clear hb1;(try clear hc hf);obtain⟨hc,hf⟩:=E6 hB)|(go_at_call 78;refine (Abj x.ps x.sl b o c g q d _ (hr.up (D6 hB0 hB) hb) (A1 hb (D6 hB0 hB).size) h3 (hl.up (D6 hB0 hB) hg) (A1 hg (D6 hB0 hB).size) ns zs).mono ?_;rintro e w1 ⟨rfl,hb1⟩;(first|(have hB':=D6 hB hb1;clear hB;have hB:=hB';clear hB')|(have hB:=hb1));clear hb1;(try clear hc hf);obtain⟨hc,hf⟩:=E6 hB))
  go_ret
  exact⟨D7 HN.out.symm,D6 hB0 hB⟩
 by_cases h2:1<=x.st
 case neg =>
  have HN:Hid (pB (RbOk x)=false):=F3 λh=>h2 h.2.2.2.1;go_wp2_with (first|(go_at_call 76;refine (AaB _ _ zn).mono ?_;rintro e w1 ⟨rfl,hb1⟩;(first|(have hB':=D6 hB hb1;clear hB;have hB:=hB';clear hB')|(have hB:=hb1));clear hb1;(try clear hc hf);obtain⟨hc,hf⟩:=E6 hB)|(go_at_call 77;refine (AaQ x.ps b o c _ (hr.up (D6 hB0 hB) hb) (A1 hb (D6 hB0 hB).size) zp np).mono ?_;rintro e w1 ⟨rfl,hb1⟩;(first|(have hB':=D6 hB hb1;clear hB;have hB:=hB';clear hB')|(have hB:=hb1));clear hb1;(try clear hc hf);obtain⟨hc,hf⟩:=E6 hB)|(go_at_call 78;refine (Abj x.ps x.sl b o c g q d _ (hr.up (D6 hB0 hB) hb) (A1 hb (D6 hB0 hB).size) h3 (hl.up (D6 hB0 hB) hg) (A1 hg (D6 hB0 hB).size) ns zs).mono ?_;rintro e w1 ⟨rfl,hb1⟩;(first|(have hB':=D6 hB hb1;clear hB;have hB:=hB';clear hB')|(have hB:=hb1));clear hb1;(try clear hc hf);obtain⟨hc,hf⟩:=E6 hB))
  go_ret
  exact⟨D7 HN.out.symm,D6 hB0 hB⟩
 have H123:Hid (nameB x.nm=true/\recB x.ps=true/\SlotsOk x.ps x.sl/\1<=x.st):=⟨h1,h3,F8.1 h4,h2⟩;go_upto_region 3 with (first|(go_at_call 76;refine (AaB _ _ zn).mono ?_;rintro e w1 ⟨rfl,hb1⟩;(first|(have hB':=D6 hB hb1;clear hB;have hB:=hB';clear hB')|(have hB:=hb1));clear hb1;(try clear hc hf);obtain⟨hc,hf⟩:=E6 hB)|(go_at_call 77;refine (AaQ x.ps b o c _ (hr.up (D6 hB0 hB) hb) (A1 hb (D6 hB0 hB).size) zp np).mono ?_;rintro e w1 ⟨rfl,hb1⟩;(first|(have hB':=D6 hB hb1;clear hB;have hB:=hB';clear hB')|(have hB:=hb1));clear hb1;(try clear hc hf);obtain⟨hc,hf⟩:=E6 hB)|(go_at_call 78;refine (Abj x.ps x.sl b o c g q d _ (hr.up (D6 hB0 hB) hb) (A1 hb (D6 hB0 hB).size) h3 (hl.up (D6 hB0 hB) hg) (A1 hg (D6 hB0 hB).size) ns zs).mono ?_;rintro e w1 ⟨rfl,hb1⟩;(first|(have hB':=D6 hB hb1;clear hB;have hB:=hB';clear hB')|(have hB:=hb1));clear hb1;(try clear hc hf);obtain⟨hc,hf⟩:=E6 hB))
 clear h1 h2 h4;cases h5:hasB x.ps x.ad
 ·have HN:Hid (pB (RbOk x)=false):=F3 λh=>by rw[h.2.2.2.2.1] at h5;cases h5
  have hat:=λW (hW:RecAt W b o x.ps)=>O1 x.ps b o c x.ad W hW np;rw[AdS x.ps x.ad h5] at hat;clear h5;go_wp2_with fail
  refine (hat _ (hr.up (D6 hB0 hB) hb)).mono ?_;rintro e w' ⟨rfl,hw⟩;obtain rfl:=hw.symm;clear hw;go_wp2_with fail
  go_quiet (fail)
  go_wp2
  go_ret
  exact⟨D7 HN.out.symm,E8 (D6 hB0 hB) _⟩
 obtain⟨k,hk,hka⟩:=Z8 h5
 have HY:Hid (pB (RbOk x)=inB x.si (-1) ((x.ps[k]).wi-1)):=by
  show _=_
  obtain⟨k1,k2,k3,k4⟩:=H123.out;have e:=Z6 hk hka
  have:RbOk x↔(-1<=x.si/\x.si<=(x.ps[k]).wi-1):=by
   rw[← e];exact⟨λh=>⟨h.2.2.2.2.2.1,by have:=h.2.2.2.2.2.2;omega⟩,λh=>⟨k1,k2,k3,k4,h5,h.1,by omega⟩⟩
  rw[Bool.eq_iff_iff,P9,F8];exact this
 have hat:=λW (hW:RecAt W b o x.ps)=>O1 x.ps b o c x.ad W hW np;rw[hka] at hat;have hwi:1<=(x.ps[k]).wi/\(x.ps[k]).wi<=1000:=AgJ (Ady h3 (by simp));obtain⟨-,-,-,-,-,c5,-⟩:=(hr.up (D6 hB0 hB) hb).cells k hk;clear hka h5 h3;generalize (x.ps[k]).wi=wi at *;go_upto_region 4 with (go_at_call 46;refine (hat _ (hr.up (D6 hB0 hB) hb)).mono ?_;rintro e w' ⟨rfl,hw⟩;obtain rfl:=hw.symm;clear hw)
 rename_i W3;go_wp2_with fail
 go_quiet ((go_at_call 36;exact Calls.quiet_of_same (I4 _ _ _ _)))
 go_wp2_with fail
 go_ret
 exact⟨D7 HY.out.symm,E8 (D6 hB0 hB) _⟩
end Go.Proofs.YtebfdccbmmpceaaGreatDoor
