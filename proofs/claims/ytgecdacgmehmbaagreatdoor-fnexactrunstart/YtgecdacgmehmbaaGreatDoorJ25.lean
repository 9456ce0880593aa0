/- The specification's batches (chapter 21): the things of slots, which is ok. -/
import Derived.Test.YtgecdacgmehmbaaGreatDoorU3
import Derived.Test.YtgecdacgmehmbaaGreatDoorJ24
import Derived.Test.YtgecdacgmehmbaaGreatDoorJ22
import Derived.Test.YtgecdacgmehmbaaGreatDoorJ10
set_option maxRecDepth 20000
set_option maxHeartbeats 4000000
namespace Go.Proofs.YtgecdacgmehmbaaGreatDoor
open Go.RowKit
theorem AkI (x:Rb) (b o c g q d:Nat) (s:ByteArray) (w:World) (hl:SlAt w g q x.sl) (hg:g<w.heap.size) (hn:x.sl.length<=1048576) :
  Calls Tryz.prog 110 #[.agg #[.string x.nm,.slice (some ⟨b,o,none⟩) x.ps.length c,.slice (some ⟨g,q,none⟩) x.sl.length d,.string x.ad,.int .i64 x.si,.int .i64 x.st],.string s] w λe w'=>e=.returned (.string (firstT x.sl s))/\Below w.heap.size w w':=by
 have hC:CB (w.alloc (.cells #[.string x.nm,.slice (some ⟨b,o,none⟩) x.ps.length c,.slice (some ⟨g,q,none⟩) x.sl.length d,.string x.ad,.int .i64 x.si,.int .i64 x.st] 71)) w.heap.size [.string x.nm,.slice (some ⟨b,o,none⟩) x.ps.length c,.slice (some ⟨g,q,none⟩) x.sl.length d,.string x.ad,.int .i64 x.si,.int .i64 x.st]:=E8 w _ _;have hB0:=(A4 w.heap.size w).alloc (A3 _) (.cells #[.string x.nm,.slice (some ⟨b,o,none⟩) x.ps.length c,.slice (some ⟨g,q,none⟩) x.sl.length d,.string x.ad,.int .i64 x.si,.int .i64 x.st] 71);go_enter Tryz.func110,Tryz.ntmps110
 go_upto_region 1 with fail
 generalize w.alloc (.cells #[.string x.nm,.slice (some ⟨b,o,none⟩) x.ps.length c,.slice (some ⟨g,q,none⟩) x.sl.length d,.string x.ad,.int .i64 x.si,.int .i64 x.st] 71)=W1 at *;obtain⟨-,-,d2,-⟩:=hC.c6;have hl1:=hl.up hB0 hg;go_wp2_with fail
 go_loop [5] (λi=>∃k:Nat,k<=x.sl.length/\i=.int .i64 k/\∀(j:Nat) (y:Sl),j<k->x.sl[j]?=some y->(y.s.toList==s.toList)=false) (λi=>x.sl.length-(intOf i).toNat)
 case atStart=>exact⟨0,by omega,rfl,λj y hj=>by omega⟩
 case round =>
  obtain⟨k,hk,rfl,hal⟩:=hrel;have Hal:Hid (∀(j:Nat) (y:Sl),j<k->x.sl[j]?=some y->(y.s.toList==s.toList)=false):=hal;clear hal;by_cases hp:k<x.sl.length
  ·obtain⟨c0,c1⟩:=hl1.cells k hp
   cases hq:((x.sl[k]).s.toList==s.toList)
   ·have Hq:Hid (∀(j:Nat) (y:Sl),j<k+1->x.sl[j]?=some y->(y.s.toList==s.toList)=false):=λj y hj hy=>by
     rcases Nat.lt_or_ge j k with h'|h'
     ·exact Hal.out j y h' hy
     ·obtain rfl:j=k:=by omega
      obtain⟨_,rfl⟩:=A2.1 hy;exact hq
    go_wp2
    go_round
    case rel=>exact⟨k+1,by omega,by go_num,Hq.out⟩
    case measure=>simp[intOf];omega
   ·have Hq:Hid (firstT x.sl s=(x.sl[k]).t):=Aea hp Hal.out hq
    go_wp2
    go_ret
    exact⟨by rw[Hq.out];rfl,hB0⟩
  ·have Hq:Hid (firstT x.sl s=⟨#[]⟩):=Aho λj y hy=>Hal.out j y (by have:=(A2.1 hy).1;omega) hy
   go_wp2
   go_ret
   exact⟨by rw[Hq.out];rfl,hB0⟩
theorem Anb {W w0:World} {q g k:Nat} {x0 x1 x2 x3 x4 x5 y:Value} (h:Below W.heap.size W w0/\w0.cell? ⟨q,0,none⟩=some x0/\w0.cell? ⟨q,1,none⟩=some x1/\w0.cell? ⟨q,2,none⟩=some x2/\w0.cell? ⟨q,3,none⟩=some x3/\w0.cell? ⟨q,4,none⟩=some x4/\w0.cell? ⟨q,5,none⟩=some x5/\w0.cell? ⟨g,k,none⟩=some y):Below W.heap.size W w0.drew/\w0.drew.cell? ⟨q,0,none⟩=some x0/\w0.drew.cell? ⟨q,1,none⟩=some x1/\w0.drew.cell? ⟨q,2,none⟩=some x2/\w0.drew.cell? ⟨q,3,none⟩=some x3/\w0.drew.cell? ⟨q,4,none⟩=some x4/\w0.drew.cell? ⟨q,5,none⟩=some x5/\w0.drew.cell? ⟨g,k,none⟩=some y :=
 ⟨h.1.drew,h.2⟩
theorem ht_up {W w0 w1:World} {q g k:Nat} {x0 x1 x2 x3 x4 x5 y:Value} (hq:q<W.heap.size) (hr:g<W.heap.size) (h:Below W.heap.size W w0/\w0.cell? ⟨q,0,none⟩=some x0/\w0.cell? ⟨q,1,none⟩=some x1/\w0.cell? ⟨q,2,none⟩=some x2/\w0.cell? ⟨q,3,none⟩=some x3/\w0.cell? ⟨q,4,none⟩=some x4/\w0.cell? ⟨q,5,none⟩=some x5/\w0.cell? ⟨g,k,none⟩=some y) (hB:Below w0.heap.size w0 w1):Below W.heap.size W w1/\w1.cell? ⟨q,0,none⟩=some x0/\w1.cell? ⟨q,1,none⟩=some x1/\w1.cell? ⟨q,2,none⟩=some x2/\w1.cell? ⟨q,3,none⟩=some x3/\w1.cell? ⟨q,4,none⟩=some x4/\w1.cell? ⟨q,5,none⟩=some x5/\w1.cell? ⟨g,k,none⟩=some y:=by
 obtain⟨h1,a0,a1,a2,a3,a4,a5,a6⟩:=h;have hl:q<w0.heap.size:=A1 hq h1.size;have hm:g<w0.heap.size:=A1 hr h1.size;exact⟨D5 h1 hB,(hB.cell (p:=⟨q,0,none⟩) hl).trans a0,(hB.cell (p:=⟨q,1,none⟩) hl).trans a1,(hB.cell (p:=⟨q,2,none⟩) hl).trans a2,(hB.cell (p:=⟨q,3,none⟩) hl).trans a3,(hB.cell (p:=⟨q,4,none⟩) hl).trans a4,(hB.cell (p:=⟨q,5,none⟩) hl).trans a5,(hB.cell (p:=⟨g,k,none⟩) hm).trans a6⟩
theorem AlW (l:List Sl) (ss:List ByteArray) (k:Nat) (hk:k<ss.length):thE l (ss.take (k+1))=insL (thE l (ss.take k)) (firstT l ss[k]):=by
 unfold thE bothL;rw[A7 hk,List.map_append,List.foldl_append];rfl
theorem Aeo (x:Rb) (b o c g q d:Nat) (ss:List ByteArray) (v:Value) (w:World) (hl:SlAt w g q x.sl) (hg:g<w.heap.size) (hn:x.sl.length<=1048576) (h:Txt w v ss) (hs:ss.length<=900) :
  Calls Tryz.prog 73 #[.agg #[.string x.nm,.slice (some ⟨b,o,none⟩) x.ps.length c,.slice (some ⟨g,q,none⟩) x.sl.length d,.string x.ad,.int .i64 x.si,.int .i64 x.st],v] w λe w'=>(∃u,e=.returned u/\Txt w' u (thE x.sl ss))/\Below w.heap.size w w':=by
 obtain⟨gs,cs,rfl,hS,hgs,hcs,-⟩:=h;have hC:CB (w.alloc (.cells #[.string x.nm,.slice (some ⟨b,o,none⟩) x.ps.length c,.slice (some ⟨g,q,none⟩) x.sl.length d,.string x.ad,.int .i64 x.si,.int .i64 x.st] 71)) w.heap.size [.string x.nm,.slice (some ⟨b,o,none⟩) x.ps.length c,.slice (some ⟨g,q,none⟩) x.sl.length d,.string x.ad,.int .i64 x.si,.int .i64 x.st]:=E8 w _ _;have hB0:=(A4 w.heap.size w).alloc (A3 _) (.cells #[.string x.nm,.slice (some ⟨b,o,none⟩) x.ps.length c,.slice (some ⟨g,q,none⟩) x.sl.length d,.string x.ad,.int .i64 x.si,.int .i64 x.st] 71);go_enter Tryz.func73,Tryz.ntmps73
 go_upto_region 1 with fail
 generalize w.alloc (.cells #[.string x.nm,.slice (some ⟨b,o,none⟩) x.ps.length c,.slice (some ⟨g,q,none⟩) x.sl.length d,.string x.ad,.int .i64 x.si,.int .i64 x.st] 71)=W1 at *;have hlt:=hC.2.2;have hT0:=AcY W1;have hB1:=(A4 W1.heap.size W1).alloc (A3 _) (.cells #[] 9);go_upto_region 2 with fail
 generalize hW2:W1.alloc (.cells #[] 9)=W2 at *;clear hW2;go_wp2_with fail
 go_loopw [5,6] (λu i w'=>∃k:Nat,k<=ss.length/\i=.int .i64 k/\Txt w' u (thE x.sl (ss.take k))/\Below W1.heap.size W1 w') (λ_ i _=>ss.length-(intOf i).toNat)
 case atStart=>exact⟨0,by omega,rfl,hT0,hB1⟩
 case round =>
  obtain⟨k,hk,rfl,hT,hB⟩:=hrel;by_cases hp:k<ss.length
  ·have hB2:=D5 hB0 hB
   have c0:=(hB2.cell (p:=⟨gs,k,none⟩) hgs).trans (by have:=hS k ss[k] (by simp);simpa using this);obtain⟨d0,d1,d2,d3,d4,d5⟩:=(hC.up hB hlt).c6;have hle:=Ae7 x.sl (ss.take k);rw[B6] at hle;have Ht:=AlW x.sl ss k hp;have HT:Hid (thE x.sl (ss.take (k+1))=insL (thE x.sl (ss.take k)) (firstT x.sl ss[k])):=Ht;clear Ht;generalize ss[k]=s0 at *;generalize thE x.sl (ss.take k)=tt at *;have hq4:w.heap.size<wr.heap.size:=A1 hlt hB.size;have hg4:gs<wr.heap.size:=A1 hgs hB2.size;have hS0:(λw'=>Below wr.heap.size wr w'/\w'.cell? ⟨w.heap.size,0,none⟩=some (.string x.nm)/\w'.cell? ⟨w.heap.size,1,none⟩=some (.slice (some ⟨b,o,none⟩) x.ps.length c)/\w'.cell? ⟨w.heap.size,2,none⟩=some (.slice (some ⟨g,q,none⟩) x.sl.length d)/\w'.cell? ⟨w.heap.size,3,none⟩=some (.string x.ad)/\w'.cell? ⟨w.heap.size,4,none⟩=some (.int .i64 x.si)/\w'.cell? ⟨w.heap.size,5,none⟩=some (.int .i64 x.st)/\w'.cell? ⟨gs,k,none⟩=some (.string s0)) wr:=⟨A4 _ _,d0,d1,d2,d3,d4,d5,c0⟩;have HL:Hid (∀W,Below wr.heap.size wr W->Calls Tryz.prog 110 #[.agg #[.string x.nm,.slice (some ⟨b,o,none⟩) x.ps.length c,.slice (some ⟨g,q,none⟩) x.sl.length d,.string x.ad,.int .i64 x.si,.int .i64 x.st],.string s0] W λe w'=>e=.returned (.string (firstT x.sl s0))/\Below W.heap.size W w'):=λW hW=>AkI x b o c g q d s0 W (hl.up (D5 hB2 hW) hg) (A1 hg (D5 hB2 hW).size) hn;obtain⟨gu,cu,hu,-⟩:=id hT;subst hu;clear d0 d1 d2 d3 d4 d5 c0;go_wp2_with fail
   go_region_held (λw'=>Below wr.heap.size wr w'/\w'.cell? ⟨w.heap.size,0,none⟩=some (.string x.nm)/\w'.cell? ⟨w.heap.size,1,none⟩=some (.slice (some ⟨b,o,none⟩) x.ps.length c)/\w'.cell? ⟨w.heap.size,2,none⟩=some (.slice (some ⟨g,q,none⟩) x.sl.length d)/\w'.cell? ⟨w.heap.size,3,none⟩=some (.string x.ad)/\w'.cell? ⟨w.heap.size,4,none⟩=some (.int .i64 x.si)/\w'.cell? ⟨w.heap.size,5,none⟩=some (.int .i64 x.st)/\w'.cell? ⟨gs,k,none⟩=some (.string s0)) (first|exact Anb hS0|exact ht_up hq4 hg4 (by assumption) (by assumption))
    (first
     | (go_at_call 110;refine (HL.out _ (And.left (by assumption))).mono ?_;rintro e w3 ⟨rfl,hb3⟩;have hT3:=(hT.up (A4 _ _).drew).up hb3)
     | (go_at_call 109;refine (Acc tt _ _ _ hT3 (by omega)).mono ?_;rintro e w4 ⟨⟨u4,rfl,hT4⟩,hb4⟩))
   rename_i hHeld;have hB5:=D5 hB hHeld.1;rw[← HT.out] at hT4;clear hHeld hS0 hT hT3 hb3 hb4 HL;go_wp2_with fail
   go_roundw
   case rel=>exact⟨k+1,by omega,by go_num,hT4,hB5⟩
   case measure=>simp[intOf];omega
  ·have HK:Hid (∀u,Txt wr u (thE x.sl (ss.take k))->Txt wr u (thE x.sl ss)):=λu h=>by rwa [D2 (by omega)] at h
   go_wp2_with fail
   go_ret
   exact⟨⟨_,rfl,HK.out _ hT⟩,D5 hB0 hB⟩
theorem I5 {w:World} {b n j:Nat} (h:w.there b 0 n) (hj:j<n):(∃x,w.cell? ⟨b,j,none⟩=some x)/\w.frozen? ⟨b,j,none⟩=false:=by
 have:=h j hj;rw[Nat.zero_add] at this;exact⟨Option.isSome_iff_exists.1 this.1,this.2⟩
def MkR (w0 w:World) (b N:Nat):Prop:=w.there b 0 N/\b<w.heap.size/\w0.grownBy w (some b)/\Thr w0 w
theorem MkR.set {w0 w:World} {b N:Nat} (h:MkR w0 w b N) (off:Nat) (u:Value):MkR w0 (w.setCell ⟨b,off,none⟩ u) b N :=
 ⟨S5 b N h.2.1 h.1,by simpa using h.2.1,D9 h.2.2.1 u,h.2.2.2.trans h.2.2.1.size S5⟩
theorem MkR.below {w0 w w':World} {b N:Nat} (h:MkR w0 w b N) (hB:Below w.heap.size w w'):MkR w0 w' b N :=
 ⟨I3 h.1 hB h.2.1,A1 h.2.1 hB.size,E3 h.2.2.1 (K1 hB),h.2.2.2.trans h.2.2.1.size (Aee hB)⟩
theorem Aep (N b c:Nat) (m:Int) (w:World) (ht:w.there b 0 (N*8)) (hb:b<w.heap.size) (hN:N<=1048576) (hm:1<=m) (hm9:m<=8000000000000000000) :
  Calls Tryz.prog 16 #[.slice (some ⟨b,0,none⟩) N c,.int .i64 m] w λe w'=>e=.returned (.int .i64 (m+8*N))/\w.grownBy w' (some b)/\Thr w w':=by
 go_enter Tryz.func16,Tryz.ntmps16
 go_wp2
 go_loopw [1,5] (λkk i w'=>∃k:Nat,k<=N/\i=.int .i64 k/\kk=.int .i64 (m+8*(k:Int))/\MkR w w' b (N*8)) (λ_ i _=>N-(intOf i).toNat)
 case atStart=>exact⟨0,by omega,rfl,by simp,ht,hb,E1 _ _,λ_ _ _ h=>h⟩
 case round =>
  clear ht;obtain⟨k,hk,rfl,rfl,hS0⟩:=hrel;by_cases hp:k<N
  ·have hk9:k*8+8<=N*8:=by omega
   go_wp2_with fail
   refine (F8 _ _ (by omega)).mono ?_;rintro e w1 ⟨rfl,hB1⟩;have hS1:=hS0.below hB1;clear hB1 hS0;obtain⟨⟨x0,c0⟩,f0⟩:=I5 hS1.1 (j:=k*8) (by omega);obtain⟨⟨x1,c1⟩,f1⟩:=I5 hS1.1 (j:=k*8+1) (by omega);generalize mkB _=s1 at *;have hT1:=(hS1.set (k*8) (.string s1)).set (k*8+1) (.int .i64 (m+8*(k:Int)+1));go_wp2_with fail
   refine (F8 _ _ (by omega)).mono ?_;rintro e w2 ⟨rfl,hB2⟩;have hS2:=hT1.below hB2;clear hB2 hT1;obtain⟨⟨x2,c2⟩,f2⟩:=I5 hS2.1 (j:=k*8+2) (by omega);generalize mkB _=s2 at *;have hT2:=hS2.set (k*8+2) (.string s2);go_wp2_with fail
   refine (F8 _ _ (by omega)).mono ?_;rintro e w3 ⟨rfl,hB3⟩;have hS3:=hT2.below hB3;clear hB3 hT2;obtain⟨⟨x3,c3⟩,f3⟩:=I5 hS3.1 (j:=k*8+3) (by omega);obtain⟨⟨x4,c4⟩,f4⟩:=I5 hS3.1 (j:=k*8+4) (by omega);obtain⟨⟨x5,c5⟩,f5⟩:=I5 hS3.1 (j:=k*8+5) (by omega);generalize mkB _=s3 at *;have hT3:=((hS3.set (k*8+3) (.string s3)).set (k*8+4) (.int .i64 (m+8*(k:Int)+1+1+1+1))).set (k*8+5) (.int .i64 (m+8*(k:Int)+1+1+1+1+1));go_wp2_with fail
   refine (F8 _ _ (by omega)).mono ?_;rintro e w4 ⟨rfl,hB4⟩;have hS4:=hT3.below hB4;clear hB4 hT3;obtain⟨⟨x6,c6⟩,f6⟩:=I5 hS4.1 (j:=k*8+6) (by omega);generalize mkB _=s4 at *;have hT4:=hS4.set (k*8+6) (.string s4);go_wp2_with fail
   refine (F8 _ _ (by omega)).mono ?_;rintro e w5 ⟨rfl,hB5⟩;have hS5:=hT4.below hB5;clear hB5 hT4;obtain⟨⟨x7,c7⟩,f7⟩:=I5 hS5.1 (j:=k*8+7) (by omega);generalize mkB _=s5 at *;have hT5:=hS5.set (k*8+7) (.string s5);go_wp2_with fail
   go_roundw
   case rel=>exact⟨k+1,by omega,by go_num,by go_num,hT5⟩
   case measure=>simp[intOf];omega
  ·obtain rfl:k=N:=by omega
   go_wp2_with fail
   go_ret
   exact⟨rfl,hS0.2.2.1,hS0.2.2.2⟩
theorem Aeq (N b c:Nat) (m:Int) (w:World) (ht:w.there b 0 (N*2)) (hb:b<w.heap.size) (hN:N<=1048576) (hm:1<=m) (hm9:m<=8000000000000000000) :
  Calls Tryz.prog 17 #[.slice (some ⟨b,0,none⟩) N c,.int .i64 m] w λe w'=>e=.returned (.int .i64 (m+2*N))/\w.grownBy w' (some b)/\Thr w w':=by
 go_enter Tryz.func17,Tryz.ntmps17
 go_wp2
 go_loopw [1,5] (λkk i w'=>∃k:Nat,k<=N/\i=.int .i64 k/\kk=.int .i64 (m+2*(k:Int))/\MkR w w' b (N*2)) (λ_ i _=>N-(intOf i).toNat)
 case atStart=>exact⟨0,by omega,rfl,by simp,ht,hb,E1 _ _,λ_ _ _ h=>h⟩
 case round =>
  clear ht;obtain⟨k,hk,rfl,rfl,hS0⟩:=hrel;by_cases hp:k<N
  ·have hk9:k*2+2<=N*2:=by omega
   go_wp2_with fail
   refine (F8 _ _ (by omega)).mono ?_;rintro e w1 ⟨rfl,hB1⟩;have hS1:=hS0.below hB1;clear hB1 hS0;obtain⟨⟨x0,c0⟩,f0⟩:=I5 hS1.1 (j:=k*2) (by omega);generalize mkB _=s1 at *;have hT1:=hS1.set (k*2) (.string s1);go_wp2_with fail
   refine (F8 _ _ (by omega)).mono ?_;rintro e w2 ⟨rfl,hB2⟩;have hS2:=hT1.below hB2;clear hB2 hT1;obtain⟨⟨x1,c1⟩,f1⟩:=I5 hS2.1 (j:=k*2+1) (by omega);generalize mkB _=s2 at *;have hT2:=hS2.set (k*2+1) (.string s2);go_wp2_with fail
   go_roundw
   case rel=>exact⟨k+1,by omega,by go_num,by go_num,hT2⟩
   case measure=>simp[intOf];omega
  ·obtain rfl:k=N:=by omega
   go_wp2_with fail
   go_ret
   exact⟨rfl,hS0.2.2.1,hS0.2.2.2⟩
theorem Ajg (N b c:Nat) (m:Int) (w:World) (ht:w.there b 0 (N*3)) (hb:b<w.heap.size) (hN:N<=1048576) (hm:1<=m) (hm9:m<=8000000000000000000) :
  Calls Tryz.prog 48 #[.slice (some ⟨b,0,none⟩) N c,.int .i64 m] w λe w'=>e=.returned (.int .i64 (m+3*N))/\w.grownBy w' (some b)/\Thr w w':=by
 go_enter Tryz.func48,Tryz.ntmps48
 go_wp2
 go_loopw [1,5] (λkk i w'=>∃k:Nat,k<=N/\i=.int .i64 k/\kk=.int .i64 (m+3*(k:Int))/\MkR w w' b (N*3)) (λ_ i _=>N-(intOf i).toNat)
 case atStart=>exact⟨0,by omega,rfl,by simp,ht,hb,E1 _ _,λ_ _ _ h=>h⟩
 case round =>
  clear ht;obtain⟨k,hk,rfl,rfl,hS0⟩:=hrel;by_cases hp:k<N
  ·have hk9:k*3+3<=N*3:=by omega
   go_wp2_with fail
   refine (F8 _ _ (by omega)).mono ?_;rintro e w1 ⟨rfl,hB1⟩;have hS1:=hS0.below hB1;clear hB1 hS0;obtain⟨⟨x0,c0⟩,f0⟩:=I5 hS1.1 (j:=k*3) (by omega);obtain⟨⟨x1,c1⟩,f1⟩:=I5 hS1.1 (j:=k*3+1) (by omega);obtain⟨⟨x2,c2⟩,f2⟩:=I5 hS1.1 (j:=k*3+2) (by omega);generalize mkB _=s1 at *;have hT1:=((hS1.set (k*3) (.string s1)).set (k*3+1) (.int .i64 (m+3*(k:Int)+1))).set (k*3+2) (.int .i64 (m+3*(k:Int)+1+1));go_wp2_with fail
   go_roundw
   case rel=>exact⟨k+1,by omega,by go_num,by go_num,hT1⟩
   case measure=>simp[intOf];omega
  ·obtain rfl:k=N:=by omega
   go_wp2_with fail
   go_ret
   exact⟨rfl,hS0.2.2.1,hS0.2.2.2⟩
def RsR (w:World) (lo hi b0:Nat) (bs:List Rb):Prop:=w.there b0 0 (bs.length*6)/\lo<=b0/\b0<hi/\hi<=w.heap.size/\∀(i:Nat) (x:Rb),bs[i]?=some x->∃b1 b2,w.cell? ⟨b0,i*6+1,none⟩=some (.slice (some ⟨b1,0,none⟩) x.ps.length x.ps.length)/\w.cell? ⟨b0,i*6+2,none⟩=some (.slice (some ⟨b2,0,none⟩) x.sl.length x.sl.length)/\w.there b1 0 (x.ps.length*8)/\w.there b2 0 (x.sl.length*2)/\b0<b1/\b1<hi/\b0<b2/\b2<hi
theorem RsR.keep {w w':World} {lo hi b0:Nat} {bs:List Rb} (h:RsR w lo hi b0 bs) (ht:Thr w w') (hz:w.heap.size<=w'.heap.size) (hc:∀i,w'.cell? ⟨b0,i*6+1,none⟩=w.cell? ⟨b0,i*6+1,none⟩/\w'.cell? ⟨b0,i*6+2,none⟩=w.cell? ⟨b0,i*6+2,none⟩):RsR w' lo hi b0 bs:=by
 obtain⟨h1,h2,h3,h4,h5⟩:=h;refine⟨ht _ _ (by omega) h1,h2,h3,B1 h4 hz,λi x hx=>?_⟩;obtain⟨b1,b2,e1,e2,t1,t2,l1,l2,l3,l4⟩:=h5 i x hx;exact⟨b1,b2,(hc i).1.trans e1,(hc i).2.trans e2,ht _ _ (by omega) t1,ht _ _ (by omega) t2,l1,l2,l3,l4⟩
theorem RsR.other {w w':World} {lo hi b0 q:Nat} {bs:List Rb} (h:RsR w lo hi b0 bs) (hg:w.grownBy w' (some q)) (ht:Thr w w') (hq:q≠b0):RsR w' lo hi b0 bs:=by
 have hk:=hg.block b0 (by have:=h.2.2.1;have:=h.2.2.2.1;omega) (by simp;omega);exact h.keep ht hg.size λi=>⟨C0 (w:=w) hk,C0 (w:=w) hk⟩
theorem RsR.up {w w':World} {lo hi b0:Nat} {bs:List Rb} (h:RsR w lo hi b0 bs) (hb:Below w.heap.size w w'):RsR w' lo hi b0 bs:=by
 have hk:=hb.block b0 (by have:=h.2.2.1;have:=h.2.2.2.1;omega);exact h.keep (Aee hb) hb.size λi=>⟨C0 (w:=w) hk,C0 (w:=w) hk⟩
theorem RsR.put {w:World} {lo hi b0 k j:Nat} {bs:List Rb} (h:RsR w lo hi b0 bs) (u:Value) (hj:j=0∨j=3∨j=4∨j=5):RsR (w.setCell ⟨b0,k*6+j,none⟩ u) lo hi b0 bs :=
 h.keep S5 (by simp) λi=>⟨B9 _ _ _ _ (by simp<;>omega),B9 _ _ _ _ (by simp<;>omega)⟩
theorem T8 {w w':World} {lo hi b n:Nat} (h:w.there b 0 n) (ho:Out lo hi w w') (h1:b<w.heap.size) (h2:b<lo∨hi<=b):w'.there b 0 n:=λj hj=>by
 have hk:=ho.blk h1 h2;rw[C0 (w:=w) (a:=⟨b,0+j,none⟩) hk,World.frozen?_of_block (w:=w) (a:=⟨b,0+j,none⟩) hk];exact h j hj
theorem RsR.out {w w':World} {lo hi l2 h2 b0:Nat} {bs:List Rb} (h:RsR w l2 h2 b0 bs) (ho:Out lo hi w w') (hl:hi<=l2):RsR w' l2 h2 b0 bs:=by
 obtain⟨h1,k2,k3,k4,h5⟩:=h;have hk:=ho.blk (i:=b0) (by omega) (by omega);refine⟨T8 h1 ho (by omega) (by omega),k2,k3,B1 k4 ho.2.2.2.1,λi x hx=>?_⟩;obtain⟨b1,b2,e1,e2,t1,t2,l1,l2,l3,l4⟩:=h5 i x hx;exact⟨b1,b2,(C0 (w:=w) hk).trans e1,(C0 (w:=w) hk).trans e2,T8 t1 ho (by omega) (by omega),T8 t2 ho (by omega) (by omega),l1,l2,l3,l4⟩
theorem Out.wide {lo hi lo' hi':Nat} {w w':World} (h:Out lo hi w w') (h1:lo'<=lo) (h2:hi<=hi'):Out lo' hi' w w':=⟨h.1,h.2.1,h.2.2.1,h.2.2.2.1,λi hi hr=>h.2.2.2.2 i hi (by omega)⟩
theorem Out.trans {lo hi:Nat} {a b c:World} (h:Out lo hi a b) (k:Out lo hi b c):Out lo hi a c:=⟨k.1.trans h.1,k.2.1.trans h.2.1,k.2.2.1.trans h.2.2.1,B1 h.2.2.2.1 k.2.2.2.1,λi hi hr=>(k.2.2.2.2 i (A1 hi h.2.2.2.1) hr).trans (h.2.2.2.2 i hi hr)⟩
theorem Ah4 (bs:List Rb) (lo hi b0:Nat) (m:Int) (w:World) (h:RsR w lo hi b0 bs) (hn:bs.length<=1048576) (hsm:∀x∈bs,x.ps.length<=1048576/\x.sl.length<=1048576) (hm:1<=m) (hm9:m<=3000000000000) :
  Calls Tryz.prog 47 #[.slice (some ⟨b0,0,none⟩) bs.length bs.length,.int .i64 m] w λe w'=>(∃k:Int,e=.returned (.int .i64 k)/\1<=k/\k<=20000000000000)/\Out lo hi w w':=by
 go_enter Tryz.func47,Tryz.ntmps47
 go_wp2
 go_loopw [1,5] (λkk i w'=>∃(k:Nat) (y:Int),k<=bs.length/\i=.int .i64 k/\kk=.int .i64 y/\1<=y/\y<=3000000000000+10485764*(k:Int)/\RsR w' lo hi b0 bs/\Out lo hi w w') (λ_ i _=>bs.length-(intOf i).toNat)
 case atStart=>exact⟨0,m,by omega,rfl,rfl,hm,by omega,h,Out.refl _ _ _⟩
 case round =>
  clear h;obtain⟨k,y,hk,rfl,rfl,hy,hy9,hR,hO⟩:=hrel;by_cases hp:k<bs.length
  ·obtain⟨s1,s2⟩:=hsm bs[k] (by simp)
   have Hx:Hid (bs[k]?=some bs[k]):=A0 hp;generalize bs[k]=x0 at *;have hk9:k*6+6<=bs.length*6:=by omega
   go_wp2_with fail
   refine (F8 y wr (by omega)).mono ?_;rintro e w1 ⟨rfl,hB1⟩;have hR1:=hR.up hB1;have hO1:=hO.up hB1;obtain⟨ht,hlo,hhi,hsz,-⟩:=id hR1;obtain⟨⟨z0,c0⟩,f0⟩:=I5 ht (j:=k*6) (by omega);have hR2:=hR1.put (k:=k) (j:=0) (.string (mkB y)) (by omega);have hO2:=hO1.grown (D9 (off:=k*6+0) (E1 w1 (some b0)) (.string (mkB y))) ⟨hlo,hhi⟩;rw[Nat.add_zero] at hR2 hO2;clear hR hO hB1 hR1 hO1 ht;generalize mkB y=mb at *;go_upto_region 6 with fail
   clear c0 f0;generalize w1.setCell ⟨b0,k*6,none⟩ (.string mb)=W2 at *;obtain⟨b1,b2,c1,c2,t1,t2,l1,l2,l3,l4⟩:=hR2.2.2.2.2 k x0 Hx.out;have hz2:=hR2.2.2.2.1;go_wp2_with fail
   refine (Aep x0.ps.length b1 _ (y+1) _ t1 (by omega) s1 (by omega) (by omega)).mono ?_;rintro e w3 ⟨rfl,hg3,ht3⟩;have hR3:=hR2.other hg3 ht3 (by omega);have hO3:=hO2.grown hg3 ⟨by omega,l2⟩;clear hR2 hO2 c1 c2 t1 t2 hg3 ht3 l1 l2 l3 l4 hz2;obtain⟨b1,b2,c1,c2,t1,t2,l1,l2,l3,l4⟩:=hR3.2.2.2.2 k x0 Hx.out;have hz3:=hR3.2.2.2.1;go_wp2_with fail
   refine (Aeq x0.sl.length b2 _ (y+1+8*x0.ps.length) _ t2 (by omega) s2 (by omega) (by omega)).mono ?_;rintro e w4 ⟨rfl,hg4,ht4⟩;have hR4:=hR3.other hg4 ht4 (by omega);have hO4:=hO3.grown hg4 ⟨by omega,l4⟩;clear hR3 hO3 c1 c2 t1 t2 hg4 ht4 l1 l2 l3 l4 hz3;obtain⟨z,hzz⟩:∃z:Int,z=y+1+8*x0.ps.length+2*x0.sl.length:=⟨_,rfl⟩;rw[← hzz];have hz1:1<=z:=by omega
   have hz9:z+3<=3000000000000+10485764*((k:Int)+1):=by omega
   clear hzz;go_wp2_with fail
   refine (F8 z w4 (by omega)).mono ?_;rintro e w5 ⟨rfl,hB5⟩;have hR5:=hR4.up hB5;have hO5:=hO4.up hB5;obtain⟨⟨z3,c3⟩,f3⟩:=I5 hR5.1 (j:=k*6+3) (by omega);obtain⟨⟨z4,c4⟩,f4⟩:=I5 hR5.1 (j:=k*6+4) (by omega);obtain⟨⟨z5,c5⟩,f5⟩:=I5 hR5.1 (j:=k*6+5) (by omega);generalize mkB z=mb2 at *;have hR6:=((hR5.put (k:=k) (j:=3) (.string mb2) (by omega)).put (k:=k) (j:=4) (.int .i64 (z+1)) (by omega)).put (k:=k) (j:=5) (.int .i64 (z+1+1)) (by omega);have hO6:=hO5.grown (D9 (off:=k*6+5) (D9 (off:=k*6+4) (D9 (off:=k*6+3) (E1 w5 (some b0)) (.string mb2)) (.int .i64 (z+1))) (.int .i64 (z+1+1))) ⟨hlo,hhi⟩;clear hR4 hO4 hR5 hO5 hB5;have Hz9:Hid (z+3<=3000000000000+10485764*((k:Int)+1)):=hz9;go_wp2_with fail
   go_roundw
   case rel=>exact⟨k+1,_,by omega,by go_num,rfl,by omega,by have:=Hz9.out;omega,hR6,hO6⟩
   case measure=>simp[intOf];omega
  ·go_wp2_with fail
   go_ret
   exact⟨⟨_,rfl,hy,by omega⟩,hO⟩
structure HR (w:World) (l0 l1 l2 l3:Nat) (h:House) (tv bv:Value) (b:Nat) (gd:Nat):Prop where
 k:BkR w l0 l1 (.agg #[tv,bv]) h.sh
 x:RsR w l1 l2 b h.bs
 d:w.there gd 0 (h.ds.length*3)
 g0:l2<=gd
 g1:gd<l3
 z0:l0<=l1
 z1:l1<=l2
 z3:l3<=w.heap.size
theorem HR.up {w w':World} {l0 l1 l2 l3 b gd:Nat} {h:House} {tv bv:Value} (H:HR w l0 l1 l2 l3 h tv bv b gd) (hb:Below w.heap.size w w'):HR w' l0 l1 l2 l3 h tv bv b gd :=
 ⟨H.k.up hb,H.x.up hb,I3 H.d hb (by have:=H.g1;have:=H.z3;omega),H.g0,H.g1,H.z0,H.z1,B1 H.z3 hb.size⟩
theorem AeF (h:House) (tv bv:Value) (l0 l1 l2 l3 b gd:Nat) (w:World) (H:HR w l0 l1 l2 l3 h tv bv b gd) (hs:Small h.sh) (hn:h.bs.length<=1048576) (hsm:∀x∈h.bs,x.ps.length<=1048576/\x.sl.length<=1048576) (hd:h.ds.length<=1048576) :
  Calls Tryz.prog 15 #[.agg #[.int .i64 h.now,.int .i64 h.last,tv,bv,.slice (some ⟨b,0,none⟩) h.bs.length h.bs.length,.slice (some ⟨gd,0,none⟩) h.ds.length h.ds.length],.int .i64 1] w λe w'=>(∃k:Int,e=.returned (.int .i64 k)/\1<=k/\k<=30000000000000)/\Out l0 l3 w w':=by
 obtain⟨bt,bb,mid,e,-⟩:=id H.k;simp at e;obtain⟨rfl,rfl⟩:=e;have hz:=H.z3;have hz0:=H.z0;have hz1:=H.z1;have hg0:=H.g0;have hg1:=H.g1;have hx2:=H.x.2.2.1;obtain⟨W1,hW1,kA,hB1,hs1⟩:=K6 w [.int .i64 h.now,.int .i64 h.last,.slice (some ⟨bt,0,none⟩) h.sh.things.length h.sh.things.length,.slice (some ⟨bb,0,none⟩) h.sh.bs.length h.sh.bs.length,.slice (some ⟨b,0,none⟩) h.bs.length h.bs.length,.slice (some ⟨gd,0,none⟩) h.ds.length h.ds.length] 41;have H1:=H.up hB1;have hO1:=(Out.refl l0 l3 w).up hB1;clear H;go_enter Tryz.func15,Tryz.ntmps15
 go_upto_region 1 with fail
 try rw[hW1]
 clear hW1;obtain⟨e0,e1,e2,e3,e4,e5⟩:=kA.c6;go_wp2_with fail
 refine (Ajf h.sh l0 l1 _ W1 H1.k hs).mono ?_;rintro e w2 ⟨⟨k2,rfl,hk2,hk2'⟩,ho2⟩;have hz2:=ho2.2.2.2.1;have kA2:=kA.blk (ho2.blk (by omega) (by omega)) hz2;have hx:=H1.x.out ho2 (A3 _);have hdd:=T8 H1.d ho2 (by omega) (by omega);have hO2:=hO1.trans (ho2.wide (A3 _) (by omega));clear e0 e1 e2 e3 e4 e5 kA hO1 ho2 H1;obtain⟨e0,e1,e2,e3,e4,e5⟩:=kA2.c6;go_wp2_with fail
 refine (Ah4 h.bs l1 l2 b k2 w2 hx hn hsm hk2 hk2').mono ?_;rintro e w3 ⟨⟨k3,rfl,hk3,hk3'⟩,ho3⟩;have hz3:=ho3.2.2.2.1;have kA3:=kA2.blk (ho3.blk (by omega) (by omega)) hz3;have hd3:=T8 hdd ho3 (by omega) (by omega);have hO3:=hO2.trans (ho3.wide (by omega) (by omega));clear e0 e1 e2 e3 e4 e5 kA2 hO2 ho3 hx hdd;obtain⟨e0,e1,e2,e3,e4,e5⟩:=kA3.c6;go_wp2_with fail
 refine (Ajg h.ds.length gd _ k3 w3 hd3 (by omega) hd (by omega) (by omega)).mono ?_;rintro e w4 ⟨rfl,hg4,-⟩;have hO4:=hO3.grown hg4 ⟨by omega,hg1⟩;clear e0 e1 e2 e3 e4 e5 kA3 hO3 hg4;have hn3:1<=k3+3*(h.ds.length:Int)/\k3+3*(h.ds.length:Int)<=30000000000000:=by omega
 go_wp2_with fail
 go_ret
 exact⟨⟨_,rfl,hn3⟩,hO4⟩
end Go.Proofs.YtgecdacgmehmbaaGreatDoor
