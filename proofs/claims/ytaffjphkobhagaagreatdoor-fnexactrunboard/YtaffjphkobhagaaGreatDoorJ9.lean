/- The specification's slots: inserting a name. -/
import Derived.Test.YtaffjphkobhagaaGreatDoorJ6
set_option maxHeartbeats 2000000
namespace Go.Proofs.YtaffjphkobhagaaGreatDoor
open Proofs.Tryz
open Go.RowKit
variable{w w':World}
theorem Js(ss:List BA)(v:Value)(nm:BA)(w:World)(h:R9 w v ss)(hn:ss.length<=1000):
  Calls prog 166 #[v,Tz nm] w λe w'=>(∃u,e=.returned u/\R9 w' u (V8 ss nm))/\Up w w':=by
 have hT:=h;obtain⟨g,c,rfl,hS,hg,hc,a9⟩:=h;unfold maxLen at a9;obtain⟨ii,hi,a1,a2,a3⟩:=info_parts Av;have HT:Hid (R9 w (Sy g ss.length c) ss):=hT;clear hT;go_in;go_wp2_with fail;go_loop [5] (λi=>∃k:Nat,k<=ss.length/\i=.int .i64 k/\NS ss nm k) (λi=>ss.length-(intOf i).toNat)
 case atStart=>exact⟨0,oM,rfl,λj s hj=>oM⟩
 case round =>
  obtain⟨k,hk,rfl,a4⟩:=hrel;have Hlow:Hid (NS ss nm k):=a4;clear a4;by_cases hp:k<ss.length
  .have c0:=hS k ss[k] (by simp[hp]);simp only[Nat.zero_add] at c0;cases hl:Op.bytesLess (ss[k]).toList nm.toList
   case true =>
    have Hl:Hid (Eo ss[k] nm=true):=hl;go_wp2_with fail;go_round
    case rel=>exact⟨k+1,oM,mO,YG Hlow.out hp Hl.out⟩
    case measure=>simp[intOf];omega
   have Hl:Hid (Eo ss[k] nm=false):=hl;cases hq:((ss[k]).toList==nm.toList)
   case true =>
    have Hq:Hid (V8 ss nm=ss):=QM ss nm k Hlow.out ⟨ss[k],by simp[hp],Hl.out,hq⟩;go_wp2_with fail;go_ret;exact⟨⟨_,rfl,by rw[Hq.out];exact HT.out⟩,A4 _ _⟩
   have Hq:Hid (V8 ss nm=ss.take k++nm::ss.drop k):=LM ss nm k Hlow.out hk (λs hs=>by
    obtain⟨_,rfl⟩:=A2.1 hs;exact⟨Hl.out,hq⟩)
   go_wp2_with fail
   obtain⟨o2,a0⟩:∃o2:Nat,(if c=k then some (⟨g,0,none⟩:Addr) else some ⟨g,k,none⟩)=some ⟨g,o2,none⟩/\G0 w g o2 (ss.drop k):=by
    by_cases h7:c=k
    .exact⟨0,by rw[if_pos h7],λi s hs=>by
      have:=(A2.1 hs).1;simp at this;omega⟩
    .exact⟨k,by rw[if_neg h7],by have:=hS.drop k;simpa using this⟩
   obtain⟨a0,-⟩:=a0;have Nb:((w.alloc (Kz [] 9)).alloc (Kz [Tz nm] 9)).drew.cell? ⟨w.heap.size+1,0,none⟩=some (Tz nm):=by simp[go_sem]
   have a6:some (w.heap.size+1)≠(Vz (some ⟨w.heap.size,0,none⟩) 0 0).ownBlock:=by simp[Value.ownBlock]
   have Nc:((w.alloc (Kz [Tz nm] 9)).alloc (Kz [] 9)).drew.cell? ⟨w.heap.size,0,none⟩=some (Tz nm):=by simp[go_sem]
   have a7:some w.heap.size≠(Vz (some ⟨w.heap.size+1,0,none⟩) 0 0).ownBlock:=by simp[Value.ownBlock]
   have b0:k<=c:=oM
   have Fa:=(Il hS (A4 w.heap.size w)).drew;have Fb:=((Il hS (A4 w.heap.size w)).alloc (Kz [Tz nm] 9)).drew;have Fc:=(Il (hS.alloc (Kz [Tz nm] 9)) ((A4 w.heap.size w).alloc (A3 _) (Kz [Tz nm] 9))).drew;rw[show (w.alloc (Kz [Tz nm] 9)).heap.size=w.heap.size+1 by simp] at Fc
   go_region_law (first
    | (revert h2;intro h2;refine S9 rfl _ _ 22 rfl w.heap.size 9 ii _ 1 16 underlying22 hi a1 a2 a3 rfl aS _ _ _ rfl h2.1 ⟨g,o2,none⟩ (ss.length-k) _ ((ss.drop k).map Value.string) rfl dC (X6 (OI h2.2.1 a0 hc)) (GN _) (by unfold maxLen;omega) oM h2.2.2.size ?_;intro v3 w3 hown3 hgrow3;have h3:=h2.grow hg hgrow3 hown3;clear h2 hown3 hgrow3)
    | (revert h1;intro h1;refine S9 rfl _ _ 22 rfl w.heap.size 9 ii _ 1 16 underlying22 hi a1 a2 a3 rfl aS _ _ _ rfl (by first|exact h1.1|exact (h1.alloc _).1) _ 1 1 [Tz nm] rfl rfl (by first|exact Eb _ _ _|exact UW a5) (LL nm) (by unfold maxLen;omega) oM (by first|exact h1.2.2.size|exact (h1.alloc _).2.2.size) ?_;intro v2 w2 hown2 hgrow2;first|have h2:=h1.grow hg hgrow2 hown2|have h2:=(h1.alloc _).grow hg hgrow2 hown2;clear h1 hown2 hgrow2)
    | (refine S9 rfl _ _ 22 rfl w.heap.size 9 ii _ 1 16 underlying22 hi a1 a2 a3 rfl aS _ 0 [] rfl (by first|exact Fa.1|exact Fb.1|exact Fc.1) ⟨g,0,none⟩ k _ ((ss.take k).map Value.string) rfl gG (by first|exact X6 (Fa.2.1.take k)|exact X6 (Fb.2.1.take k)|exact X6 (Fc.2.1.take k)) (GN _) (by unfold maxLen;omega) oM (by first|exact Fa.2.2.size|exact Fb.2.2.size|exact Fc.2.2.size) ?_;intro v1 w1 hown1 hgrow1;first|(have h1:=Fa.grow hg hgrow1 hown1)|(have h1:=Fb.grow hg hgrow1 hown1;have a5:=hgrow1.cell Nb a6)|(have h1:=Fc.grow hg hgrow1 hown1;have a5:=hgrow1.cell Nc a7);clear hown1 hgrow1))
   all_goals
    have HT3:R9 w3 v3 (V8 ss nm):=by
     rw[Hq.out];exact R9.own (n:=0+k+1+(ss.length-k)) (by simpa using h3.1) gG (AG h3.1 oM)
    have a8:=h3.2.2;clear h3;go_wp2_with fail;go_ret;exact⟨⟨_,rfl,HT3⟩,a8⟩
  .have Hq:Hid (V8 ss nm=ss.take k++nm::ss.drop k):=LM ss nm k Hlow.out hk (λs hs=>by
    have:=(A2.1 hs).1;omega)
   go_wp2_with fail
   obtain⟨o2,a0⟩:∃o2:Nat,(if c=k then some (⟨g,0,none⟩:Addr) else some ⟨g,k,none⟩)=some ⟨g,o2,none⟩/\G0 w g o2 (ss.drop k):=by
    by_cases h7:c=k
    .exact⟨0,by rw[if_pos h7],λi s hs=>by
      have:=(A2.1 hs).1;simp at this;omega⟩
    .exact⟨k,by rw[if_neg h7],by have:=hS.drop k;simpa using this⟩
   obtain⟨a0,-⟩:=a0;have Nb:((w.alloc (Kz [] 9)).alloc (Kz [Tz nm] 9)).drew.cell? ⟨w.heap.size+1,0,none⟩=some (Tz nm):=by simp[go_sem]
   have a6:some (w.heap.size+1)≠(Vz (some ⟨w.heap.size,0,none⟩) 0 0).ownBlock:=by simp[Value.ownBlock]
   have Nc:((w.alloc (Kz [Tz nm] 9)).alloc (Kz [] 9)).drew.cell? ⟨w.heap.size,0,none⟩=some (Tz nm):=by simp[go_sem]
   have a7:some w.heap.size≠(Vz (some ⟨w.heap.size+1,0,none⟩) 0 0).ownBlock:=by simp[Value.ownBlock]
   have b0:k<=c:=oM
   have Fa:=(Il hS (A4 w.heap.size w)).drew;have Fb:=((Il hS (A4 w.heap.size w)).alloc (Kz [Tz nm] 9)).drew;have Fc:=(Il (hS.alloc (Kz [Tz nm] 9)) ((A4 w.heap.size w).alloc (A3 _) (Kz [Tz nm] 9))).drew;rw[show (w.alloc (Kz [Tz nm] 9)).heap.size=w.heap.size+1 by simp] at Fc
   go_region_law (first
    | (revert h2;intro h2;refine S9 rfl _ _ 22 rfl w.heap.size 9 ii _ 1 16 underlying22 hi a1 a2 a3 rfl aS _ _ _ rfl h2.1 ⟨g,o2,none⟩ (ss.length-k) _ ((ss.drop k).map Value.string) rfl dC (X6 (OI h2.2.1 a0 hc)) (GN _) (by unfold maxLen;omega) oM h2.2.2.size ?_;intro v3 w3 hown3 hgrow3;have h3:=h2.grow hg hgrow3 hown3;clear h2 hown3 hgrow3)
    | (revert h1;intro h1;refine S9 rfl _ _ 22 rfl w.heap.size 9 ii _ 1 16 underlying22 hi a1 a2 a3 rfl aS _ _ _ rfl (by first|exact h1.1|exact (h1.alloc _).1) _ 1 1 [Tz nm] rfl rfl (by first|exact Eb _ _ _|exact UW a5) (LL nm) (by unfold maxLen;omega) oM (by first|exact h1.2.2.size|exact (h1.alloc _).2.2.size) ?_;intro v2 w2 hown2 hgrow2;first|have h2:=h1.grow hg hgrow2 hown2|have h2:=(h1.alloc _).grow hg hgrow2 hown2;clear h1 hown2 hgrow2)
    | (refine S9 rfl _ _ 22 rfl w.heap.size 9 ii _ 1 16 underlying22 hi a1 a2 a3 rfl aS _ 0 [] rfl (by first|exact Fa.1|exact Fb.1|exact Fc.1) ⟨g,0,none⟩ k _ ((ss.take k).map Value.string) rfl gG (by first|exact X6 (Fa.2.1.take k)|exact X6 (Fb.2.1.take k)|exact X6 (Fc.2.1.take k)) (GN _) (by unfold maxLen;omega) oM (by first|exact Fa.2.2.size|exact Fb.2.2.size|exact Fc.2.2.size) ?_;intro v1 w1 hown1 hgrow1;first|(have h1:=Fa.grow hg hgrow1 hown1)|(have h1:=Fb.grow hg hgrow1 hown1;have a5:=hgrow1.cell Nb a6)|(have h1:=Fc.grow hg hgrow1 hown1;have a5:=hgrow1.cell Nc a7);clear hown1 hgrow1))
   all_goals
    have HT3:R9 w3 v3 (V8 ss nm):=by
     rw[Hq.out];exact R9.own (n:=0+k+1+(ss.length-k)) (by simpa using h3.1) gG (AG h3.1 oM)
    have a8:=h3.2.2;clear h3;go_wp2_with fail;go_ret;exact⟨⟨_,rfl,HT3⟩,a8⟩
theorem Sq(n lo hi:Int)(w:World):
  cE prog 201 #[Iz n,Iz lo,Iz hi] w (.bool (U7 n lo hi)):=by
 by_cases h1:lo<=n<;>by_cases h2:n<=hi
 all_goals
  delta cE;go_in;go_wp2;go_ret;exact⟨D4 (by simp[U7,h1,h2]),rfl⟩
theorem DN(s:BA)(w:World)(hs:s.size<=maxLen):
  cE prog 159 #[Tz s] w (.bool (E4 s)):=by
 unfold maxLen at hs;by_cases h1:1<=s.size/\s.size<=8
 case neg =>
  have h2:U7 s.size 1 8=false:=(Ey _ _ _).2 oM;delta cE;go_in;go_wp2_with (go_at_call 201;refine Swz (Sq _ _ _ _) ?_)
  go_ret;exact⟨D4 (by simp only[E4];simp;omega),rfl⟩
 have hn:Hid (E4 s=Y6 s.data.toList):=by show E4 s=_;simp[E4,h1]
 have h2:U7 s.size 1 8=true:=(AX _ _ _).2 oM;delta cE;go_in;go_wp2_with (go_at_call 201;refine Swz (Sq _ _ _ _) ?_)
 go_loop [3] (λi=>∃k:Nat,k<=s.size/\i=.int .i64 k/\Y6 (s.data.toList.take k)=true) (λi=>s.size-(intOf i).toNat)
 case atStart=>exact⟨0,oM,rfl,rfl⟩
 case round =>
  obtain⟨k,hk,rfl,a0⟩:=hrel;have Hal:Hid (Y6 (s.data.toList.take k)=true):=a0;clear a0;by_cases hp:k<s.size
  .have HS:Hid (BS (s[k]'hp).toNat=true->Y6 (s.data.toList.take (k+1))=true):=by show _->_;intro hb;rw[Gt s k hp,Hal.out,hb];rfl
   have HN:Hid (BS (s[k]'hp).toNat=false->Y6 s.data.toList=false):=Fw s k hp;go_wp2
   all_goals first
    | (go_ret;exact⟨D4 (by rw[hn.out];exact (HN.out (by rw[← Bool.not_eq_true,Fv];go_light;simp at *;omega)).symm),rfl⟩)
    | (go_round
       case rel=>exact⟨k+1,oM,mO,HS.out (by rw[Fv];go_light;simp at *;omega)⟩
       case measure=>simp[intOf];omega)
  .go_wp2;go_ret;exact⟨D4 (by rw[hn.out,IW s k hp Hal.out]),rfl⟩
theorem Ab(ss:List BA)(v:Value)(s:BA)(w:World)(h:Ls w v ss):
  cE prog 127 #[v,Tz s] w (.bool (E1 ss s)):=by
 obtain⟨a,c,rfl,hn,-,a0⟩:=h;unfold maxLen at hn;delta cE;go_in;go_wp2;go_loop [5] (λi=>∃k:Nat,k<=ss.length/\i=.int .i64 k/\E1 (ss.take k) s=false) (λi=>ss.length-(intOf i).toNat)
 case atStart=>exact⟨0,oM,rfl,rfl⟩
 case round =>
  obtain⟨k,hk,rfl,a1⟩:=hrel;have Hal:Hid (E1 (ss.take k) s=false):=a1;clear a1;by_cases hp:k<ss.length
  .obtain⟨b,o,rfl,hS,hb⟩:=a0 oM;have c0:=hS.cell hp;cases hq:((ss[k]).toList==s.toList)
   .have Hq:Hid (((ss[k]).toList==s.toList)=false):=hq;go_wp2;go_round
    case rel=>exact⟨k+1,oM,mO,ED hp Hal.out Hq.out⟩
    case measure=>simp[intOf];omega
   .have Hq:Hid (((ss[k]).toList==s.toList)=true):=hq;go_wp2;go_ret;exact⟨D4 (Ji hp Hq.out).symm,rfl⟩
  .go_wp2;go_ret;exact⟨D4 (FO hp Hal.out).symm,rfl⟩
theorem Hg(xs ys:List BA)(u v:Value)(w:World)(h:Ls w u xs)(h2:Ls w v ys):
  cE prog 161 #[u,v] w (.bool (J9 xs ys)):=by
 obtain⟨a,c,rfl,hn,-,a0⟩:=h;obtain⟨a2,c2,rfl,-⟩:=id h2;unfold maxLen at hn;delta cE;go_in;go_wp2;go_loop [5] (λi=>∃k:Nat,k<=xs.length/\i=.int .i64 k/\J9 (xs.take k) ys=false) (λi=>xs.length-(intOf i).toNat)
 case atStart=>exact⟨0,oM,rfl,rfl⟩
 case round =>
  obtain⟨k,hk,rfl,a1⟩:=hrel;have Hal:Hid (J9 (xs.take k) ys=false):=a1;clear a1;by_cases hp:k<xs.length
  .obtain⟨b,o,rfl,hS,hb⟩:=a0 oM;have c0:=hS.cell hp;cases hq:E1 ys xs[k]
   .have Hq:Hid (E1 ys xs[k]=false):=hq;go_wp2_with (go_at_call 127;refine Swz (Ab ys _ _ _ h2) ?_)
    go_round
    case rel=>exact⟨k+1,oM,mO,TX hp Hal.out Hq.out⟩
    case measure=>simp[intOf];omega
   .have Hq:Hid (E1 ys xs[k]=true):=hq;go_wp2_with (go_at_call 127;refine Swz (Ab ys _ _ _ h2) ?_)
    go_ret;exact⟨D4 (Rk hp Hq.out).symm,rfl⟩
  .go_wp2;go_ret;exact⟨D4 (WG hp Hal.out).symm,rfl⟩
theorem U8{m n:Nat}(h:w'=w.drewN m):∃k,w'.drewN n=w.drewN k:=⟨_,by rw[h,World.drewN_drewN]⟩
theorem JT(ss all:List BA)(u v:Value)(w:World)(h:Ls w u ss)(h2:Ls w v all):
  Calls prog 160 #[u,v] w λe w'=>e=.returned (.bool (pB (O0 ss all)))/\∃m,w'=w.drewN m:=by
 obtain⟨a,c,rfl,hn,-,a1⟩:=h;obtain⟨a2,c2,rfl,-⟩:=id h2;unfold maxLen at hn;go_in;go_wp2;(try dsimp only[Iz,Sy,Sx,Nz,Vz,Tz,Ez,Pz]);go_loopw [5] (λi w'=>∃k m:Nat,k<=ss.length/\i=.int .i64 k/\U2 ss all k/\Q8 ss k/\w'=w.drewN m) (λi _=>ss.length-(intOf i).toNat)
 case atStart=>exact⟨0,0,oM,rfl,U2.zero _ _,Q8.zero _,rfl⟩
 case round =>
  obtain⟨k,m,hk,rfl,a4,a0,hw⟩:=hrel;have Hw:Hid (wr=w.drewN m):=hw;clear hw;have Hal:Hid (U2 ss all k):=a4;have Hasc:Hid (Q8 ss k):=a0;clear a4 a0;by_cases hp:k<ss.length
  .obtain⟨b,o,rfl,hS,hb⟩:=a1 oM;have c0:AS wr b (o+k) (Tz ss[k]):=by rw[Hw.out];exact hS.cell hp
   cases hq:E1 all ss[k]
   .have Hq:Hid (¬O0 ss all):=λh=>by rw[KZ h.1 hp] at hq;cases hq
    go_wp2_with fail;go_quiet ((go_at_call 127;exact Calls.quiet_of_same (Ab all _ _ _ (by have e:=Hw.out;subst e;exact h2))))
    go_wp2;go_ret;exact⟨D4 (F3 Hq.out).symm,U8 Hw.out⟩
   have Hq:Hid (U2 ss all (k+1)):=Hal.out.step hp hq;cases k with
   | zero =>
    simp only[Nat.add_zero] at c0;go_wp2_with fail;go_quiet ((go_at_call 127;exact Calls.quiet_of_same (Ab all _ _ _ (by have e:=Hw.out;subst e;exact h2))))
    go_wp2;go_roundw
    case rel=>obtain⟨m',a3⟩:=U8 (n:=nq) Hw.out;exact⟨1,m',oM,mO,Hq.out,Q8.one _,a3⟩
    case measure=>simp[intOf];omega
   | succ k =>
    have c1:AS wr b (o+k) (Tz ss[k]):=by rw[Hw.out];exact hS.cell (k:=k) oM
    cases hl:U1 ss[k] ss[k+1]
    .have Hl:Hid (¬O0 ss all):=λh=>by rw[Rl h.2 hp] at hl;cases hl
     unfold U1 at hl;go_wp2_with fail;go_quiet ((go_at_call 127;exact Calls.quiet_of_same (Ab all _ _ _ (by have e:=Hw.out;subst e;exact h2))))
     go_wp2;go_ret;exact⟨D4 (F3 Hl.out).symm,U8 Hw.out⟩
    .have Hl:Hid (Q8 ss (k+2)):=Hasc.out.step hp hl;unfold U1 at hl;go_wp2_with fail;go_quiet ((go_at_call 127;exact Calls.quiet_of_same (Ab all _ _ _ (by have e:=Hw.out;subst e;exact h2))))
     go_wp2;go_roundw
     case rel=>obtain⟨m',a3⟩:=U8 (n:=nq) Hw.out;exact⟨k+1+1,m',oM,mO,Hq.out,Hl.out,a3⟩
     case measure=>simp[intOf];omega
  .go_wp2;go_ret;exact⟨D4 (M5 ⟨LW Hal.out hp,KY Hasc.out hp⟩).symm,_,Hw.out⟩
theorem Og(ss:List BA)(u:Value)(w:World)(h:Ls w u ss):
  Calls prog 158 #[u] w λe w'=>e=.returned (.bool (pB (Cj ss)))/\∃m,w'=w.drewN m:=by
 obtain⟨a,c,rfl,hn,hz,a1⟩:=h;unfold maxLen at hn;by_cases h8:8<ss.length
 .go_in;go_wp2;go_ret;exact⟨D4 (F3 λh=>by have:=h.1;omega).symm,0,rfl⟩
 have H8:Hid (ss.length<=8):=by show _<=_;omega
 go_in;go_wp2;(try dsimp only[Iz,Sy,Sx,Nz,Vz,Tz,Ez,Pz]);go_loopw [3] (λi w'=>∃k m:Nat,k<=ss.length/\i=.int .i64 k/\S1 ss k/\Q8 ss k/\w'=w.drewN m) (λi _=>ss.length-(intOf i).toNat)
 case atStart=>exact⟨0,0,oM,rfl,S1.zero _,Q8.zero _,rfl⟩
 case round =>
  obtain⟨k,m,hk,rfl,a3,a0,hw⟩:=hrel;have Hw:Hid (wr=w.drewN m):=hw;clear hw;have Hal:Hid (S1 ss k):=a3;have Hasc:Hid (Q8 ss k):=a0;clear a3 a0;by_cases hp:k<ss.length
  .obtain⟨b,o,rfl,hS,hb⟩:=a1 oM;have c0:AS wr b (o+k) (Tz ss[k]):=by rw[Hw.out];exact hS.cell hp
   have z0:=hz ss[k] dC;cases hq:E4 ss[k]
   .have Hq:Hid (¬Cj ss):=λh=>by rw[LX h.2.1 hp] at hq;cases hq
    go_wp2_with fail;go_quiet ((go_at_call 159;exact Calls.quiet_of_same (DN _ _ z0)))
    go_wp2;go_ret;exact⟨D4 (F3 Hq.out).symm,U8 Hw.out⟩
   have Hq:Hid (S1 ss (k+1)):=Hal.out.step hp hq;cases k with
   | zero =>
    simp only[Nat.add_zero] at c0;go_wp2_with fail;go_quiet ((go_at_call 159;exact Calls.quiet_of_same (DN _ _ z0)))
    go_wp2;go_roundw
    case rel=>obtain⟨m',a2⟩:=U8 (n:=nq) Hw.out;exact⟨1,m',oM,mO,Hq.out,Q8.one _,a2⟩
    case measure=>simp[intOf];omega
   | succ k =>
    have c1:AS wr b (o+k) (Tz ss[k]):=by rw[Hw.out];exact hS.cell (k:=k) oM
    cases hl:U1 ss[k] ss[k+1]
    .have Hl:Hid (¬Cj ss):=λh=>by rw[Rl h.2.2 hp] at hl;cases hl
     unfold U1 at hl;go_wp2_with fail;go_quiet ((go_at_call 159;exact Calls.quiet_of_same (DN _ _ z0)))
     go_wp2;go_ret;exact⟨D4 (F3 Hl.out).symm,U8 Hw.out⟩
    .have Hl:Hid (Q8 ss (k+2)):=Hasc.out.step hp hl;unfold U1 at hl;go_wp2_with fail;go_quiet ((go_at_call 159;exact Calls.quiet_of_same (DN _ _ z0)))
     go_wp2;go_roundw
     case rel=>obtain⟨m',a2⟩:=U8 (n:=nq) Hw.out;exact⟨k+1+1,m',oM,mO,Hq.out,Hl.out,a2⟩
     case measure=>simp[intOf];omega
  .go_wp2;go_ret;exact⟨D4 (M5 ⟨H8.out,Kj Hal.out hp,KY Hasc.out hp⟩).symm,_,Hw.out⟩
end Go.Proofs.YtaffjphkobhagaaGreatDoor
