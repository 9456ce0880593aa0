/- The specification's batches (chapter 21): the things of slots, which is ok. -/
import Derived.Test.YtebfdccbmmpceaaGreatDoorJ17
import Derived.Test.YtebfdccbmmpceaaGreatDoorJ18
import Derived.Test.YtebfdccbmmpceaaGreatDoorJ16
import Derived.Test.YtebfdccbmmpceaaGreatDoorJ1
import Derived.Test.YtebfdccbmmpceaaGreatDoorJ2
import Derived.Test.YtebfdccbmmpceaaGreatDoorJ4
import Derived.Laws.BitsAllLaws
set_option maxRecDepth 20000
set_option maxHeartbeats 4000000
namespace Go.Proofs.YtebfdccbmmpceaaGreatDoor
open Go.RowKit
theorem Alf (x:Rb) (b o c g q d:Nat) (s:ByteArray) (w:World) (hl:SlAt w g q x.sl) (hg:g<w.heap.size) (hn:x.sl.length<=1048576) :
  Calls Tryz.prog 123 #[.agg #[.string x.nm,.slice (some ⟨b,o,none⟩) x.ps.length c,.slice (some ⟨g,q,none⟩) x.sl.length d,.string x.ad,.int .i64 x.si,.int .i64 x.st],.string s] w λe w'=>e=.returned (.string (firstT x.sl s))/\Below w.heap.size w w':=by
 have hC:CB (w.alloc (.cells #[.string x.nm,.slice (some ⟨b,o,none⟩) x.ps.length c,.slice (some ⟨g,q,none⟩) x.sl.length d,.string x.ad,.int .i64 x.si,.int .i64 x.st] 52)) w.heap.size [.string x.nm,.slice (some ⟨b,o,none⟩) x.ps.length c,.slice (some ⟨g,q,none⟩) x.sl.length d,.string x.ad,.int .i64 x.si,.int .i64 x.st]:=E7 w _ _;have hB0:=(A4 w.heap.size w).alloc (A3 _) (.cells #[.string x.nm,.slice (some ⟨b,o,none⟩) x.ps.length c,.slice (some ⟨g,q,none⟩) x.sl.length d,.string x.ad,.int .i64 x.si,.int .i64 x.st] 52);go_enter Tryz.func123,Tryz.ntmps123
 go_upto_region 1 with fail
 generalize w.alloc (.cells #[.string x.nm,.slice (some ⟨b,o,none⟩) x.ps.length c,.slice (some ⟨g,q,none⟩) x.sl.length d,.string x.ad,.int .i64 x.si,.int .i64 x.st] 52)=W1 at *;obtain⟨-,-,d2,-⟩:=hC.c6;have hl1:=hl.up hB0 hg;go_wp2_with fail
 go_loop [5] (λi=>∃k:Nat,k<=x.sl.length/\i=.int .i64 k/\∀(j:Nat) (y:Sl),j<k->x.sl[j]?=some y->(y.s.toList==s.toList)=false) (λi=>x.sl.length-(intOf i).toNat)
 case atStart=>exact⟨0,by omega,rfl,λj y hj=>by omega⟩
 case round =>
  obtain⟨k,hk,rfl,hal⟩:=hrel;have Hal:Hid (∀(j:Nat) (y:Sl),j<k->x.sl[j]?=some y->(y.s.toList==s.toList)=false):=hal;clear hal;by_cases hp:k<x.sl.length
  ·obtain⟨c0,c1⟩:=hl1.cells k hp
   cases hq:((x.sl[k]).s.toList==s.toList)
   ·have Hq:Hid (∀(j:Nat) (y:Sl),j<k+1->x.sl[j]?=some y->(y.s.toList==s.toList)=false):=λj y hj hy=>by
     rcases Nat.lt_or_ge j k with h'|h'
     ·exact Hal.out j y h' hy
     ·obtain rfl:j=k:=by omega
      obtain⟨_,rfl⟩:=A2.1 hy;exact hq
    go_wp2
    go_round
    case rel=>exact⟨k+1,by omega,by go_num,Hq.out⟩
    case measure=>simp[intOf];omega
   ·have Hq:Hid (firstT x.sl s=(x.sl[k]).t):=Ae2 hp Hal.out hq
    go_wp2
    go_ret
    exact⟨by rw[Hq.out];rfl,hB0⟩
  ·have Hq:Hid (firstT x.sl s=⟨#[]⟩):=Ah9 λj y hy=>Hal.out j y (by have:=(A2.1 hy).1;omega) hy
   go_wp2
   go_ret
   exact⟨by rw[Hq.out];rfl,hB0⟩
theorem AnT {W w0:World} {q g k:Nat} {x0 x1 x2 x3 x4 x5 y:Value} (h:Below W.heap.size W w0/\w0.cell? ⟨q,0,none⟩=some x0/\w0.cell? ⟨q,1,none⟩=some x1/\w0.cell? ⟨q,2,none⟩=some x2/\w0.cell? ⟨q,3,none⟩=some x3/\w0.cell? ⟨q,4,none⟩=some x4/\w0.cell? ⟨q,5,none⟩=some x5/\w0.cell? ⟨g,k,none⟩=some y):Below W.heap.size W w0.drew/\w0.drew.cell? ⟨q,0,none⟩=some x0/\w0.drew.cell? ⟨q,1,none⟩=some x1/\w0.drew.cell? ⟨q,2,none⟩=some x2/\w0.drew.cell? ⟨q,3,none⟩=some x3/\w0.drew.cell? ⟨q,4,none⟩=some x4/\w0.drew.cell? ⟨q,5,none⟩=some x5/\w0.drew.cell? ⟨g,k,none⟩=some y :=
 ⟨h.1.drew,h.2⟩
theorem ht_up {W w0 w1:World} {q g k:Nat} {x0 x1 x2 x3 x4 x5 y:Value} (hq:q<W.heap.size) (hr:g<W.heap.size) (h:Below W.heap.size W w0/\w0.cell? ⟨q,0,none⟩=some x0/\w0.cell? ⟨q,1,none⟩=some x1/\w0.cell? ⟨q,2,none⟩=some x2/\w0.cell? ⟨q,3,none⟩=some x3/\w0.cell? ⟨q,4,none⟩=some x4/\w0.cell? ⟨q,5,none⟩=some x5/\w0.cell? ⟨g,k,none⟩=some y) (hB:Below w0.heap.size w0 w1):Below W.heap.size W w1/\w1.cell? ⟨q,0,none⟩=some x0/\w1.cell? ⟨q,1,none⟩=some x1/\w1.cell? ⟨q,2,none⟩=some x2/\w1.cell? ⟨q,3,none⟩=some x3/\w1.cell? ⟨q,4,none⟩=some x4/\w1.cell? ⟨q,5,none⟩=some x5/\w1.cell? ⟨g,k,none⟩=some y:=by
 obtain⟨h1,a0,a1,a2,a3,a4,a5,a6⟩:=h;have hl:q<w0.heap.size:=A1 hq h1.size;have hm:g<w0.heap.size:=A1 hr h1.size;exact⟨D6 h1 hB,(hB.cell (p:=⟨q,0,none⟩) hl).trans a0,(hB.cell (p:=⟨q,1,none⟩) hl).trans a1,(hB.cell (p:=⟨q,2,none⟩) hl).trans a2,(hB.cell (p:=⟨q,3,none⟩) hl).trans a3,(hB.cell (p:=⟨q,4,none⟩) hl).trans a4,(hB.cell (p:=⟨q,5,none⟩) hl).trans a5,(hB.cell (p:=⟨g,k,none⟩) hm).trans a6⟩
theorem Am9 (l:List Sl) (ss:List ByteArray) (k:Nat) (hk:k<ss.length):thE l (ss.take (k+1))=insL (thE l (ss.take k)) (firstT l ss[k]):=by
 unfold thE bothL;rw[A7 hk,List.map_append,List.foldl_append];rfl
theorem Ac1 (x:Rb) (b o c g q d:Nat) (ss:List ByteArray) (v:Value) (w:World) (hl:SlAt w g q x.sl) (hg:g<w.heap.size) (hn:x.sl.length<=1048576) (h:Txt w v ss) (hs:ss.length<=900) :
  Calls Tryz.prog 88 #[.agg #[.string x.nm,.slice (some ⟨b,o,none⟩) x.ps.length c,.slice (some ⟨g,q,none⟩) x.sl.length d,.string x.ad,.int .i64 x.si,.int .i64 x.st],v] w λe w'=>(∃u,e=.returned u/\Txt w' u (thE x.sl ss))/\Below w.heap.size w w':=by
 obtain⟨gs,cs,rfl,hS,hgs,hcs,-⟩:=h;have hC:CB (w.alloc (.cells #[.string x.nm,.slice (some ⟨b,o,none⟩) x.ps.length c,.slice (some ⟨g,q,none⟩) x.sl.length d,.string x.ad,.int .i64 x.si,.int .i64 x.st] 52)) w.heap.size [.string x.nm,.slice (some ⟨b,o,none⟩) x.ps.length c,.slice (some ⟨g,q,none⟩) x.sl.length d,.string x.ad,.int .i64 x.si,.int .i64 x.st]:=E7 w _ _;have hB0:=(A4 w.heap.size w).alloc (A3 _) (.cells #[.string x.nm,.slice (some ⟨b,o,none⟩) x.ps.length c,.slice (some ⟨g,q,none⟩) x.sl.length d,.string x.ad,.int .i64 x.si,.int .i64 x.st] 52);go_enter Tryz.func88,Tryz.ntmps88
 go_upto_region 1 with fail
 generalize w.alloc (.cells #[.string x.nm,.slice (some ⟨b,o,none⟩) x.ps.length c,.slice (some ⟨g,q,none⟩) x.sl.length d,.string x.ad,.int .i64 x.si,.int .i64 x.st] 52)=W1 at *;have hlt:=hC.2.2;have hT0:=Adz W1;have hB1:=(A4 W1.heap.size W1).alloc (A3 _) (.cells #[] 9);go_upto_region 2 with fail
 generalize hW2:W1.alloc (.cells #[] 9)=W2 at *;clear hW2;go_wp2_with fail
 go_loopw [5,6] (λu i w'=>∃k:Nat,k<=ss.length/\i=.int .i64 k/\Txt w' u (thE x.sl (ss.take k))/\Below W1.heap.size W1 w') (λ_ i _=>ss.length-(intOf i).toNat)
 case atStart=>exact⟨0,by omega,rfl,hT0,hB1⟩
 case round =>
  obtain⟨k,hk,rfl,hT,hB⟩:=hrel;by_cases hp:k<ss.length
  ·have hB2:=D6 hB0 hB
   have c0:=(hB2.cell (p:=⟨gs,k,none⟩) hgs).trans (by have:=hS k ss[k] (by simp);simpa using this);obtain⟨d0,d1,d2,d3,d4,d5⟩:=(hC.up hB hlt).c6;have hle:=AaX x.sl (ss.take k);rw[B7] at hle;have Ht:=Am9 x.sl ss k hp;have HT:Hid (thE x.sl (ss.take (k+1))=insL (thE x.sl (ss.take k)) (firstT x.sl ss[k])):=Ht;clear Ht;generalize ss[k]=s0 at *;generalize thE x.sl (ss.take k)=tt at *;have hq4:w.heap.size<wr.heap.size:=A1 hlt hB.size;have hg4:gs<wr.heap.size:=A1 hgs hB2.size;have hS0:(λw'=>Below wr.heap.size wr w'/\w'.cell? ⟨w.heap.size,0,none⟩=some (.string x.nm)/\w'.cell? ⟨w.heap.size,1,none⟩=some (.slice (some ⟨b,o,none⟩) x.ps.length c)/\w'.cell? ⟨w.heap.size,2,none⟩=some (.slice (some ⟨g,q,none⟩) x.sl.length d)/\w'.cell? ⟨w.heap.size,3,none⟩=some (.string x.ad)/\w'.cell? ⟨w.heap.size,4,none⟩=some (.int .i64 x.si)/\w'.cell? ⟨w.heap.size,5,none⟩=some (.int .i64 x.st)/\w'.cell? ⟨gs,k,none⟩=some (.string s0)) wr:=⟨A4 _ _,d0,d1,d2,d3,d4,d5,c0⟩;have HL:Hid (∀W,Below wr.heap.size wr W->Calls Tryz.prog 123 #[.agg #[.string x.nm,.slice (some ⟨b,o,none⟩) x.ps.length c,.slice (some ⟨g,q,none⟩) x.sl.length d,.string x.ad,.int .i64 x.si,.int .i64 x.st],.string s0] W λe w'=>e=.returned (.string (firstT x.sl s0))/\Below W.heap.size W w'):=λW hW=>Alf x b o c g q d s0 W (hl.up (D6 hB2 hW) hg) (A1 hg (D6 hB2 hW).size) hn;obtain⟨gu,cu,hu,-⟩:=id hT;subst hu;clear d0 d1 d2 d3 d4 d5 c0;go_wp2_with fail
   go_region_held (λw'=>Below wr.heap.size wr w'/\w'.cell? ⟨w.heap.size,0,none⟩=some (.string x.nm)/\w'.cell? ⟨w.heap.size,1,none⟩=some (.slice (some ⟨b,o,none⟩) x.ps.length c)/\w'.cell? ⟨w.heap.size,2,none⟩=some (.slice (some ⟨g,q,none⟩) x.sl.length d)/\w'.cell? ⟨w.heap.size,3,none⟩=some (.string x.ad)/\w'.cell? ⟨w.heap.size,4,none⟩=some (.int .i64 x.si)/\w'.cell? ⟨w.heap.size,5,none⟩=some (.int .i64 x.st)/\w'.cell? ⟨gs,k,none⟩=some (.string s0)) (first|exact AnT hS0|exact ht_up hq4 hg4 (by assumption) (by assumption))
    (first
     | (go_at_call 123;refine (HL.out _ (And.left (by assumption))).mono ?_;rintro e w3 ⟨rfl,hb3⟩;have hT3:=(hT.up (A4 _ _).drew).up hb3)
     | (go_at_call 122;refine (Ac0 tt _ _ _ hT3 (by omega)).mono ?_;rintro e w4 ⟨⟨u4,rfl,hT4⟩,hb4⟩))
   rename_i hHeld;have hB5:=D6 hB hHeld.1;rw[← HT.out] at hT4;clear hHeld hS0 hT hT3 hb3 hb4 HL;go_wp2_with fail
   go_roundw
   case rel=>exact⟨k+1,by omega,by go_num,hT4,hB5⟩
   case measure=>simp[intOf];omega
  ·have HK:Hid (∀u,Txt wr u (thE x.sl (ss.take k))->Txt wr u (thE x.sl ss)):=λu h=>by rwa [D3 (by omega)] at h
   go_wp2_with fail
   go_ret
   exact⟨⟨_,rfl,HK.out _ hT⟩,D6 hB0 hB⟩
theorem Afa {W w0:World} {q:Nat} {x0 x1 x2 x3 x4 x5:Value} (h:Below W.heap.size W w0/\w0.cell? ⟨q,0,none⟩=some x0/\w0.cell? ⟨q,1,none⟩=some x1/\w0.cell? ⟨q,2,none⟩=some x2/\w0.cell? ⟨q,3,none⟩=some x3/\w0.cell? ⟨q,4,none⟩=some x4/\w0.cell? ⟨q,5,none⟩=some x5):Below W.heap.size W w0.drew/\w0.drew.cell? ⟨q,0,none⟩=some x0/\w0.drew.cell? ⟨q,1,none⟩=some x1/\w0.drew.cell? ⟨q,2,none⟩=some x2/\w0.drew.cell? ⟨q,3,none⟩=some x3/\w0.drew.cell? ⟨q,4,none⟩=some x4/\w0.drew.cell? ⟨q,5,none⟩=some x5 :=
 ⟨h.1.drew,h.2⟩
theorem Aj0 {W w0 w1:World} {q:Nat} {x0 x1 x2 x3 x4 x5:Value} (hq:q<W.heap.size) (h:Below W.heap.size W w0/\w0.cell? ⟨q,0,none⟩=some x0/\w0.cell? ⟨q,1,none⟩=some x1/\w0.cell? ⟨q,2,none⟩=some x2/\w0.cell? ⟨q,3,none⟩=some x3/\w0.cell? ⟨q,4,none⟩=some x4/\w0.cell? ⟨q,5,none⟩=some x5) (hB:Below w0.heap.size w0 w1):Below W.heap.size W w1/\w1.cell? ⟨q,0,none⟩=some x0/\w1.cell? ⟨q,1,none⟩=some x1/\w1.cell? ⟨q,2,none⟩=some x2/\w1.cell? ⟨q,3,none⟩=some x3/\w1.cell? ⟨q,4,none⟩=some x4/\w1.cell? ⟨q,5,none⟩=some x5:=by
 obtain⟨h0,a0,a1,a2,a3,a4,a5⟩:=h;have lq:q<w0.heap.size:=A1 hq h0.size;exact⟨D6 h0 hB,(hB.cell (p:=⟨q,0,none⟩) lq).trans a0,(hB.cell (p:=⟨q,1,none⟩) lq).trans a1,(hB.cell (p:=⟨q,2,none⟩) lq).trans a2,(hB.cell (p:=⟨q,3,none⟩) lq).trans a3,(hB.cell (p:=⟨q,4,none⟩) lq).trans a4,(hB.cell (p:=⟨q,5,none⟩) lq).trans a5⟩
theorem AmA {W w0:World} {q r o:Nat} {x0 x1 x2 x3 x4 x5 x6 x7 x8 x9 x10 x11 x12 x13:Value} (h:Below W.heap.size W w0/\w0.cell? ⟨q,0,none⟩=some x0/\w0.cell? ⟨q,1,none⟩=some x1/\w0.cell? ⟨q,2,none⟩=some x2/\w0.cell? ⟨q,3,none⟩=some x3/\w0.cell? ⟨q,4,none⟩=some x4/\w0.cell? ⟨q,5,none⟩=some x5/\w0.cell? ⟨r,o,none⟩=some x6/\w0.cell? ⟨r,o+1,none⟩=some x7/\w0.cell? ⟨r,o+2,none⟩=some x8/\w0.cell? ⟨r,o+3,none⟩=some x9/\w0.cell? ⟨r,o+4,none⟩=some x10/\w0.cell? ⟨r,o+5,none⟩=some x11/\w0.cell? ⟨r,o+6,none⟩=some x12/\w0.cell? ⟨r,o+7,none⟩=some x13):Below W.heap.size W w0.drew/\w0.drew.cell? ⟨q,0,none⟩=some x0/\w0.drew.cell? ⟨q,1,none⟩=some x1/\w0.drew.cell? ⟨q,2,none⟩=some x2/\w0.drew.cell? ⟨q,3,none⟩=some x3/\w0.drew.cell? ⟨q,4,none⟩=some x4/\w0.drew.cell? ⟨q,5,none⟩=some x5/\w0.drew.cell? ⟨r,o,none⟩=some x6/\w0.drew.cell? ⟨r,o+1,none⟩=some x7/\w0.drew.cell? ⟨r,o+2,none⟩=some x8/\w0.drew.cell? ⟨r,o+3,none⟩=some x9/\w0.drew.cell? ⟨r,o+4,none⟩=some x10/\w0.drew.cell? ⟨r,o+5,none⟩=some x11/\w0.drew.cell? ⟨r,o+6,none⟩=some x12/\w0.drew.cell? ⟨r,o+7,none⟩=some x13 :=
 ⟨h.1.drew,h.2⟩
theorem k14_up {W w0 w1:World} {q r o:Nat} {x0 x1 x2 x3 x4 x5 x6 x7 x8 x9 x10 x11 x12 x13:Value} (hq:q<W.heap.size) (hr:r<W.heap.size) (h:Below W.heap.size W w0/\w0.cell? ⟨q,0,none⟩=some x0/\w0.cell? ⟨q,1,none⟩=some x1/\w0.cell? ⟨q,2,none⟩=some x2/\w0.cell? ⟨q,3,none⟩=some x3/\w0.cell? ⟨q,4,none⟩=some x4/\w0.cell? ⟨q,5,none⟩=some x5/\w0.cell? ⟨r,o,none⟩=some x6/\w0.cell? ⟨r,o+1,none⟩=some x7/\w0.cell? ⟨r,o+2,none⟩=some x8/\w0.cell? ⟨r,o+3,none⟩=some x9/\w0.cell? ⟨r,o+4,none⟩=some x10/\w0.cell? ⟨r,o+5,none⟩=some x11/\w0.cell? ⟨r,o+6,none⟩=some x12/\w0.cell? ⟨r,o+7,none⟩=some x13) (hB:Below w0.heap.size w0 w1):Below W.heap.size W w1/\w1.cell? ⟨q,0,none⟩=some x0/\w1.cell? ⟨q,1,none⟩=some x1/\w1.cell? ⟨q,2,none⟩=some x2/\w1.cell? ⟨q,3,none⟩=some x3/\w1.cell? ⟨q,4,none⟩=some x4/\w1.cell? ⟨q,5,none⟩=some x5/\w1.cell? ⟨r,o,none⟩=some x6/\w1.cell? ⟨r,o+1,none⟩=some x7/\w1.cell? ⟨r,o+2,none⟩=some x8/\w1.cell? ⟨r,o+3,none⟩=some x9/\w1.cell? ⟨r,o+4,none⟩=some x10/\w1.cell? ⟨r,o+5,none⟩=some x11/\w1.cell? ⟨r,o+6,none⟩=some x12/\w1.cell? ⟨r,o+7,none⟩=some x13:=by
 obtain⟨h0,a0,a1,a2,a3,a4,a5,a6,a7,a8,a9,a10,a11,a12,a13⟩:=h;have lq:q<w0.heap.size:=A1 hq h0.size;have lr:r<w0.heap.size:=A1 hr h0.size;exact⟨D6 h0 hB,(hB.cell (p:=⟨q,0,none⟩) lq).trans a0,(hB.cell (p:=⟨q,1,none⟩) lq).trans a1,(hB.cell (p:=⟨q,2,none⟩) lq).trans a2,(hB.cell (p:=⟨q,3,none⟩) lq).trans a3,(hB.cell (p:=⟨q,4,none⟩) lq).trans a4,(hB.cell (p:=⟨q,5,none⟩) lq).trans a5,(hB.cell (p:=⟨r,o,none⟩) lr).trans a6,(hB.cell (p:=⟨r,o+1,none⟩) lr).trans a7,(hB.cell (p:=⟨r,o+2,none⟩) lr).trans a8,(hB.cell (p:=⟨r,o+3,none⟩) lr).trans a9,(hB.cell (p:=⟨r,o+4,none⟩) lr).trans a10,(hB.cell (p:=⟨r,o+5,none⟩) lr).trans a11,(hB.cell (p:=⟨r,o+6,none⟩) lr).trans a12,(hB.cell (p:=⟨r,o+7,none⟩) lr).trans a13⟩
theorem MapS.up {w w':World} {M n:Nat} {D:DataW Unit} (h:MapS w M n D) (hB:Below w.heap.size w w'):MapS w' M n D :=
 World.ownsMap.kept (row:=none) h ⟨hB.os,hB.tape,hB.output,hB.size,λi hi _=>hB.block i hi⟩ (by simp)
theorem Aa1 {x:Rb} (h:RbOk x) (nm:ByteArray):rbThings x nm=thE x.sl (slE x.ps nm):=by unfold rbThings;rw[if_pos (I7 h)]
theorem AbJ {x:Rb} (h:¬RbOk x) (nm:ByteArray):rbThings x nm=[]:=by unfold rbThings;rw[F3 h];rfl
theorem Ac2 {x:Rb} (h:RbOk x):rbOwn x=thE x.sl (ofL (phOf x.ps x.ad)):=by unfold rbOwn;rw[if_pos (I7 h)]
theorem Ac3 {x:Rb} (h:¬RbOk x):rbOwn x=[]:=by unfold rbOwn;rw[F3 h];rfl
theorem AgL {l:List Sl} {ss tt:List ByteArray} (h:keys (thE l ss)=thI l tt):namesOf (thI l tt)=thE l ss:=by rw[← h,Acz]
theorem AbK (x:Rb) (rv sv:Value) (nm:ByteArray) (w:World) (h:RbV w x rv sv) :
  Calls Tryz.prog 81 #[.agg #[.string x.nm,rv,sv,.string x.ad,.int .i64 x.si,.int .i64 x.st],.string nm] w λe w'=>(∃u,e=.returned u/\Txt w' u (rbThings x nm))/\Below w.heap.size w w':=by
 have hok:=λW (hB:Below w.heap.size w W)=>O2 x rv sv W (h.up hB);obtain⟨b,o,c,rfl,hr,hb,hcap,hc9⟩:=h.r;obtain⟨g,q,d,rfl,hl,hg⟩:=h.s;have ns:=h.ns;clear h;have hC:CB (w.alloc (.cells #[.string x.nm,.slice (some ⟨b,o,none⟩) x.ps.length c,.slice (some ⟨g,q,none⟩) x.sl.length d,.string x.ad,.int .i64 x.si,.int .i64 x.st] 52)) w.heap.size [.string x.nm,.slice (some ⟨b,o,none⟩) x.ps.length c,.slice (some ⟨g,q,none⟩) x.sl.length d,.string x.ad,.int .i64 x.si,.int .i64 x.st]:=E7 w _ _;have hB0:=(A4 w.heap.size w).alloc (A3 _) (.cells #[.string x.nm,.slice (some ⟨b,o,none⟩) x.ps.length c,.slice (some ⟨g,q,none⟩) x.sl.length d,.string x.ad,.int .i64 x.si,.int .i64 x.st] 52);have HO:Hid (∀W,Below w.heap.size w W->Calls Tryz.prog 39 #[.agg #[.string x.nm,.slice (some ⟨b,o,none⟩) x.ps.length c,.slice (some ⟨g,q,none⟩) x.sl.length d,.string x.ad,.int .i64 x.si,.int .i64 x.st]] W λe w'=>e=.returned (.bool (pB (RbOk x)))/\Below W.heap.size W w'):=hok;clear hok;go_enter Tryz.func81,Tryz.ntmps81
 go_upto_region 1 with fail
 generalize w.alloc (.cells #[.string x.nm,.slice (some ⟨b,o,none⟩) x.ps.length c,.slice (some ⟨g,q,none⟩) x.sl.length d,.string x.ad,.int .i64 x.si,.int .i64 x.st] 52)=W1 at *;obtain⟨d0,d1,d2,d3,d4,d5⟩:=hC.c6;have hlt:=hC.2.2;by_cases hk:RbOk x
 case neg =>
  have HN:Hid (rbThings x nm=[]):=AbJ hk nm;have hp:=F3 hk;go_wp2_with fail
  refine (HO.out _ hB0).mono ?_;rw[hp];rintro e w1 ⟨rfl,hB1⟩;go_wp2_with fail
  go_ret
  exact⟨⟨_,rfl,by rw[HN.out];exact Adz w1⟩,D6 (D6 hB0 hB1) ((A4 _ _).alloc (A3 _) _)⟩
 have HY:Hid (rbThings x nm=thE x.sl (slE x.ps nm)):=Aa1 hk nm;have hrb:=hk.2.1;have h12:x.ps.length<=12:=((J8 x.ps).1 hrb).2.1;have hp:=I7 hk;have hsl:=Aay x.ps nm;clear hk;go_wp2_with fail
 refine (HO.out _ hB0).mono ?_;rw[hp];rintro e w1 ⟨rfl,hB1⟩;go_upto_region 3 with fail
 have hB01:=D6 hB0 hB1;obtain⟨f0,f1,f2,f3,f4,f5⟩:=(hC.up hB1 hlt).c6;have hq4:w.heap.size<w1.heap.size:=A1 hlt hB1.size;have hS0:Below w1.heap.size w1 w1/\w1.cell? ⟨w.heap.size,0,none⟩=some (.string x.nm)/\w1.cell? ⟨w.heap.size,1,none⟩=some (.slice (some ⟨b,o,none⟩) x.ps.length c)/\w1.cell? ⟨w.heap.size,2,none⟩=some (.slice (some ⟨g,q,none⟩) x.sl.length d)/\w1.cell? ⟨w.heap.size,3,none⟩=some (.string x.ad)/\w1.cell? ⟨w.heap.size,4,none⟩=some (.int .i64 x.si)/\w1.cell? ⟨w.heap.size,5,none⟩=some (.int .i64 x.st):=⟨A4 _ _,f0,f1,f2,f3,f4,f5⟩;clear d0 d1 d2 d3 d4 d5 f0 f1 f2 f3 f4 f5 hp;go_wp2_with fail
 go_region_held (λw'=>Below w1.heap.size w1 w'/\w'.cell? ⟨w.heap.size,0,none⟩=some (.string x.nm)/\w'.cell? ⟨w.heap.size,1,none⟩=some (.slice (some ⟨b,o,none⟩) x.ps.length c)/\w'.cell? ⟨w.heap.size,2,none⟩=some (.slice (some ⟨g,q,none⟩) x.sl.length d)/\w'.cell? ⟨w.heap.size,3,none⟩=some (.string x.ad)/\w'.cell? ⟨w.heap.size,4,none⟩=some (.int .i64 x.si)/\w'.cell? ⟨w.heap.size,5,none⟩=some (.int .i64 x.st)) (first|exact Afa hS0|exact Aj0 hq4 (by assumption) (by assumption))
  (first
   | (go_at_call 92;refine (AbI x.ps b o c hrb 20 nm _ (hr.up (D6 hB01 (And.left (by assumption))) hb) (A1 hb (D6 hB01 (And.left (by assumption))).size) (by omega)).mono ?_;rintro e w3 ⟨⟨u3,rfl,hT3⟩,hb3⟩;have hB3:=D6 hB01 (D6 (A4 _ _).drew hb3))
   | (go_at_call 88;refine (Ac1 x b o c g q d _ _ _ (hl.up hB3 hg) (A1 hg hB3.size) ns hT3 (by omega)).mono ?_;rintro e w4 ⟨⟨u4,rfl,hT4⟩,hb4⟩))
 rename_i hHeld;have hB5:=D6 hB01 hHeld.1;clear hHeld hS0 hT3 hb3 hb4 hB3;go_wp2_with fail
 go_ret
 exact⟨⟨_,rfl,by rw[HY.out];exact hT4⟩,hB5⟩
theorem AbL (x:Rb) (rv sv:Value) (nm:ByteArray) (w:World) (hE:Ends w) (h:RbV w x rv sv) :
  Calls Tryz.prog 110 #[.agg #[.string x.nm,rv,sv,.string x.ad,.int .i64 x.si,.int .i64 x.st],.string nm] w λe w'=>(∃u,e=.returned u/\OwnT w' w.heap.size u (rbThings x nm))/\Below w.heap.size w w':=by
 have hok:=λW (hB:Below w.heap.size w W)=>Abi x rv sv W (hE.up hB) (h.up hB);obtain⟨b,o,c,rfl,hr,hb,hcap,hc9⟩:=h.r;obtain⟨g,q,d,rfl,hl,hg⟩:=h.s;have ns:=h.ns;have zs:=h.zs;have zp:=h.zp;clear h;have hC:CB (w.alloc (.cells #[.string x.nm,.slice (some ⟨b,o,none⟩) x.ps.length c,.slice (some ⟨g,q,none⟩) x.sl.length d,.string x.ad,.int .i64 x.si,.int .i64 x.st] 52)) w.heap.size [.string x.nm,.slice (some ⟨b,o,none⟩) x.ps.length c,.slice (some ⟨g,q,none⟩) x.sl.length d,.string x.ad,.int .i64 x.si,.int .i64 x.st]:=E7 w _ _;have hB0:=(A4 w.heap.size w).alloc (A3 _) (.cells #[.string x.nm,.slice (some ⟨b,o,none⟩) x.ps.length c,.slice (some ⟨g,q,none⟩) x.sl.length d,.string x.ad,.int .i64 x.si,.int .i64 x.st] 52);have HO:Hid (∀W,Below w.heap.size w W->Calls Tryz.prog 141 #[.agg #[.string x.nm,.slice (some ⟨b,o,none⟩) x.ps.length c,.slice (some ⟨g,q,none⟩) x.sl.length d,.string x.ad,.int .i64 x.si,.int .i64 x.st]] W λe w'=>e=.returned (.bool (pB (RbOk x)))/\Below W.heap.size W w'):=hok;have HE:Hid (Ends w):=hE;clear hok hE;go_enter Tryz.func110,Tryz.ntmps110
 go_upto_region 1 with fail
 generalize w.alloc (.cells #[.string x.nm,.slice (some ⟨b,o,none⟩) x.ps.length c,.slice (some ⟨g,q,none⟩) x.sl.length d,.string x.ad,.int .i64 x.si,.int .i64 x.st] 52)=W1 at *;obtain⟨d0,d1,d2,d3,d4,d5⟩:=hC.c6;have hlt:=hC.2.2;by_cases hk:RbOk x
 case neg =>
  have HN:Hid (rbThings x nm=[]):=AbJ hk nm;have hp:=F3 hk;go_wp2_with fail
  refine (HO.out _ hB0).mono ?_;rw[hp];rintro e w1 ⟨rfl,hB1⟩;go_wp2_with fail
  go_ret
  exact⟨⟨_,rfl,by rw[HN.out];exact B8 _ _ _ _⟩,D6 hB0 hB1⟩
 have hrb:=hk.2.1;have h12:x.ps.length<=12:=((J8 x.ps).1 hrb).2.1
 have HY:Hid (namesOf (thI x.sl (slE x.ps nm))=rbThings x nm):=by
  show _=_
  rw[Aa1 hk nm];exact AgL (Ad6 hk.2.2.1.nodup λ_=>Iff.rfl)
 have hV:slotsV x.ps nm=slE x.ps nm:=by simp[slotsV,hrb]
 have HR:Hid (∀W,Below w.heap.size w W->Calls Tryz.prog 148 #[.slice (some ⟨b,o,none⟩) x.ps.length c,.string nm] W λe w'=>(∃u,e=.returned u/\OwnT w' W.heap.size u (slE x.ps nm))/\Below W.heap.size W w'):=λW hW=>by
  have:=Adf x.ps b o c nm W (HE.out.up hW) (hr.up hW hb) (A1 hb hW.size) zp hcap hc9;rw[hV] at this;exact this
 have hsz:=Afw zp nm;have hp:=I7 hk;have hsl:=Aay x.ps nm;clear hk hV;go_wp2_with fail
 refine (HO.out _ hB0).mono ?_;rw[hp];rintro e w1 ⟨rfl,hB1⟩;go_upto_region 3 with fail
 have hB01:=D6 hB0 hB1;obtain⟨f0,f1,f2,f3,f4,f5⟩:=(hC.up hB1 hlt).c6;have hq4:w.heap.size<w1.heap.size:=A1 hlt hB1.size;have hS0:Below w1.heap.size w1 w1/\w1.cell? ⟨w.heap.size,0,none⟩=some (.string x.nm)/\w1.cell? ⟨w.heap.size,1,none⟩=some (.slice (some ⟨b,o,none⟩) x.ps.length c)/\w1.cell? ⟨w.heap.size,2,none⟩=some (.slice (some ⟨g,q,none⟩) x.sl.length d)/\w1.cell? ⟨w.heap.size,3,none⟩=some (.string x.ad)/\w1.cell? ⟨w.heap.size,4,none⟩=some (.int .i64 x.si)/\w1.cell? ⟨w.heap.size,5,none⟩=some (.int .i64 x.st):=⟨A4 _ _,f0,f1,f2,f3,f4,f5⟩;clear d0 d1 d2 d3 d4 d5 f0 f1 f2 f3 f4 f5 hp;go_wp2_with fail
 go_region_held (λw'=>Below w1.heap.size w1 w'/\w'.cell? ⟨w.heap.size,0,none⟩=some (.string x.nm)/\w'.cell? ⟨w.heap.size,1,none⟩=some (.slice (some ⟨b,o,none⟩) x.ps.length c)/\w'.cell? ⟨w.heap.size,2,none⟩=some (.slice (some ⟨g,q,none⟩) x.sl.length d)/\w'.cell? ⟨w.heap.size,3,none⟩=some (.string x.ad)/\w'.cell? ⟨w.heap.size,4,none⟩=some (.int .i64 x.si)/\w'.cell? ⟨w.heap.size,5,none⟩=some (.int .i64 x.st)) (first|exact Afa hS0|exact Aj0 hq4 (by assumption) (by assumption))
  (first
   | (go_at_call 142;refine (AbF x.sl g q d _ (hl.up hB01.drew hg) (A1 hg hB01.drew.size) ns (λy hy=>(zs y hy).1)).mono ?_;rintro e w2 ⟨⟨M,D,rfl,hM,hD,-⟩,hb2⟩;have hB2:=D6 hB01.drew hb2)
   | (go_at_call 148;refine (HR.out _ hB2).mono ?_;rintro e w3 ⟨⟨u3,rfl,hO3⟩,hb3⟩;have hM3:=hM.up hb3;have hB3:=D6 hB2 hb3)
   | (go_at_call 143;refine (AbG x.sl (slE x.ps nm) M _ D _ _ hM3 hD hO3.lst hsz (by omega)).mono ?_;rintro e w4 ⟨⟨u4,rfl,hO4⟩,hb4⟩))
 rename_i hHeld;have hB5:=D6 hB01 hHeld.1;have hO5:=G4 hO4 hB3.size;clear hHeld hS0 hO3 hO4 hb3 hb4 hB3 hM hD hM3 hb2 hB2;go_wp2_with fail
 go_ret
 exact⟨⟨_,rfl,by rw[← HY.out];exact hO5⟩,hB5⟩
theorem AmB {p:Ph} (h:p.okB=true):1<=p.k/\p.k<=5:=by
 unfold Ph.okB phaseB at h;simp only[Bool.and_eq_true] at h;have h1:=h.1.1.2;unfold argsB at h1;by_cases e1:p.k=1
 ·omega
 by_cases e2:p.k=2
 ·omega
 by_cases e3:p.k=3
 ·omega
 by_cases e4:p.k=4∨p.k=5
 ·omega
 rw[if_neg e1,if_neg e2,if_neg e3,if_neg e4] at h1;cases h1
theorem AiM (p:Ph):(ofL p).length<=2:=by
 unfold ofL;split
 ·have:=Acj [p.a] p.b;simpa using this
 ·simp
theorem AdZ (x:Rb) (rv sv:Value) (w:World) (h:RbV w x rv sv) :
  Calls Tryz.prog 45 #[.agg #[.string x.nm,rv,sv,.string x.ad,.int .i64 x.si,.int .i64 x.st]] w λe w'=>(∃u,e=.returned u/\Txt w' u (rbOwn x))/\Below w.heap.size w w':=by
 have hok:=λW (hB:Below w.heap.size w W)=>O2 x rv sv W (h.up hB);obtain⟨b,o,c,rfl,hr,hb,hcap,hc9⟩:=h.r;obtain⟨g,q,d,rfl,hl,hg⟩:=h.s;have ns:=h.ns;have np:=h.np;clear h;have hC:CB (w.alloc (.cells #[.string x.nm,.slice (some ⟨b,o,none⟩) x.ps.length c,.slice (some ⟨g,q,none⟩) x.sl.length d,.string x.ad,.int .i64 x.si,.int .i64 x.st] 52)) w.heap.size [.string x.nm,.slice (some ⟨b,o,none⟩) x.ps.length c,.slice (some ⟨g,q,none⟩) x.sl.length d,.string x.ad,.int .i64 x.si,.int .i64 x.st]:=E7 w _ _;have hB0:=(A4 w.heap.size w).alloc (A3 _) (.cells #[.string x.nm,.slice (some ⟨b,o,none⟩) x.ps.length c,.slice (some ⟨g,q,none⟩) x.sl.length d,.string x.ad,.int .i64 x.si,.int .i64 x.st] 52);have HO:Hid (∀W,Below w.heap.size w W->Calls Tryz.prog 39 #[.agg #[.string x.nm,.slice (some ⟨b,o,none⟩) x.ps.length c,.slice (some ⟨g,q,none⟩) x.sl.length d,.string x.ad,.int .i64 x.si,.int .i64 x.st]] W λe w'=>e=.returned (.bool (pB (RbOk x)))/\Below W.heap.size W w'):=hok;clear hok;go_enter Tryz.func45,Tryz.ntmps45
 go_upto_region 1 with fail
 generalize w.alloc (.cells #[.string x.nm,.slice (some ⟨b,o,none⟩) x.ps.length c,.slice (some ⟨g,q,none⟩) x.sl.length d,.string x.ad,.int .i64 x.si,.int .i64 x.st] 52)=W1 at *;obtain⟨d0,d1,d2,d3,d4,d5⟩:=hC.c6;have hlt:=hC.2.2;by_cases hk:RbOk x
 case neg =>
  have HN:Hid (rbOwn x=[]):=Ac3 hk;have hp:=F3 hk;go_wp2_with fail
  refine (HO.out _ hB0).mono ?_;rw[hp];rintro e w1 ⟨rfl,hB1⟩;go_wp2_with fail
  go_ret
  exact⟨⟨_,rfl,by rw[HN.out];exact Adz w1⟩,D6 (D6 hB0 hB1) ((A4 _ _).alloc (A3 _) _)⟩
 obtain⟨k,hkl,hka⟩:=Z8 hk.2.2.2.2.1;have HY:Hid (rbOwn x=thE x.sl (ofL x.ps[k])):=by show _=_;rw[Ac2 hk,Z6 hkl hka]
 have hat:=λW (hW:RecAt W b o x.ps)=>O1 x.ps b o c x.ad W hW np;rw[hka] at hat;have Hat:Hid (∀W,RecAt W b o x.ps->Calls Tryz.prog 46 #[.slice (some ⟨b,o,none⟩) x.ps.length c,.string x.ad] W λe w'=>e=.returned (.int .i64 (k:Int))/\w'=W):=hat;have hp:=I7 hk;clear hk hat hka;go_wp2_with fail
 refine (HO.out _ hB0).mono ?_;rw[hp];rintro e w1 ⟨rfl,hB1⟩;go_upto_region 3 with fail
 have hB01:=D6 hB0 hB1;obtain⟨f0,f1,f2,f3,f4,f5⟩:=(hC.up hB1 hlt).c6;obtain⟨r0,r1,r2,r3,r4,r5,r6,r7⟩:=(hr.up hB01 hb).cells k hkl;have hof:=AiM x.ps[k];generalize x.ps[k]=p at *;have hq4:w.heap.size<w1.heap.size:=A1 hlt hB1.size;have hr4:b<w1.heap.size:=A1 hb hB01.size;have hS0:Below w1.heap.size w1 w1/\w1.cell? ⟨w.heap.size,0,none⟩=some (.string x.nm)/\w1.cell? ⟨w.heap.size,1,none⟩=some (.slice (some ⟨b,o,none⟩) x.ps.length c)/\w1.cell? ⟨w.heap.size,2,none⟩=some (.slice (some ⟨g,q,none⟩) x.sl.length d)/\w1.cell? ⟨w.heap.size,3,none⟩=some (.string x.ad)/\w1.cell? ⟨w.heap.size,4,none⟩=some (.int .i64 x.si)/\w1.cell? ⟨w.heap.size,5,none⟩=some (.int .i64 x.st)/\w1.cell? ⟨b,o+k*8,none⟩=some (.string p.nm)/\w1.cell? ⟨b,o+k*8+1,none⟩=some (.int .i64 p.k)/\w1.cell? ⟨b,o+k*8+2,none⟩=some (.string p.a)/\w1.cell? ⟨b,o+k*8+3,none⟩=some (.string p.b)/\w1.cell? ⟨b,o+k*8+4,none⟩=some (.int .i64 p.n)/\w1.cell? ⟨b,o+k*8+5,none⟩=some (.int .i64 p.wi)/\w1.cell? ⟨b,o+k*8+6,none⟩=some (.string p.t)/\w1.cell? ⟨b,o+k*8+7,none⟩=some (.string p.e):=⟨A4 _ _,f0,f1,f2,f3,f4,f5,r0,r1,r2,r3,r4,r5,r6,r7⟩;clear d0 d1 d2 d3 d4 d5 f0 f1 f2 f3 f4 f5 r0 r1 r2 r3 r4 r5 r6 r7 hp;have Hr:Hid (RecAt w1 b o x.ps):=hr.up hB01 hb;clear hr;go_wp2_with fail
 go_region_held (λw'=>Below w1.heap.size w1 w'/\w'.cell? ⟨w.heap.size,0,none⟩=some (.string x.nm)/\w'.cell? ⟨w.heap.size,1,none⟩=some (.slice (some ⟨b,o,none⟩) x.ps.length c)/\w'.cell? ⟨w.heap.size,2,none⟩=some (.slice (some ⟨g,q,none⟩) x.sl.length d)/\w'.cell? ⟨w.heap.size,3,none⟩=some (.string x.ad)/\w'.cell? ⟨w.heap.size,4,none⟩=some (.int .i64 x.si)/\w'.cell? ⟨w.heap.size,5,none⟩=some (.int .i64 x.st)/\w'.cell? ⟨b,o+k*8,none⟩=some (.string p.nm)/\w'.cell? ⟨b,o+k*8+1,none⟩=some (.int .i64 p.k)/\w'.cell? ⟨b,o+k*8+2,none⟩=some (.string p.a)/\w'.cell? ⟨b,o+k*8+3,none⟩=some (.string p.b)/\w'.cell? ⟨b,o+k*8+4,none⟩=some (.int .i64 p.n)/\w'.cell? ⟨b,o+k*8+5,none⟩=some (.int .i64 p.wi)/\w'.cell? ⟨b,o+k*8+6,none⟩=some (.string p.t)/\w'.cell? ⟨b,o+k*8+7,none⟩=some (.string p.e)) (first|exact AmA hS0|exact k14_up hq4 hr4 (by assumption) (by assumption))
  (first
   | (go_at_call 46;refine (Hat.out _ (Hr.out.up (And.left (by assumption)) hr4)).mono ?_;rintro e w2 ⟨rfl,hw⟩;obtain rfl:=hw.symm;clear hw)
   | (go_at_call 89;refine (AiL p _).mono ?_;rintro e w3 ⟨⟨u3,rfl,hT3⟩,hb3⟩;have hB3:=D6 hB01.drew hb3)
   | (go_at_call 88;refine (Ac1 x b o c g q d _ _ _ (hl.up hB3 hg) (A1 hg hB3.size) ns hT3 (by omega)).mono ?_;rintro e w4 ⟨⟨u4,rfl,hT4⟩,hb4⟩))
 rename_i hHeld;have hB5:=D6 hB01 hHeld.1;clear hHeld hS0 hT3 hb3 hb4 hB3;go_wp2_with fail
 go_ret
 exact⟨⟨_,rfl,by rw[HY.out];exact hT4⟩,hB5⟩
theorem AnU:(Tryz.prog.info? 84).map (·.size)=some 8:=by kernel_rfl
theorem AnV {P:Program} {fn:Func} {q:Tmp} {T:TypeId} (h:fn.results=#[.cell q T]) {d:TypeDesc} (hu:P.underlying T=some d) (hd:d.isRow=true) (hi:(P.info? T).map (·.size)=some 8) {R:Ending->World->Prop} {tmps:Array Value} {w:World} {rk:Nat} {y0 y1 y2 y3 y4 y5 y6 y7 x0 x1 x2 x3 x4 x5 x6 x7:Value}
  (k:CB w rk [y0,y1,y2,y3,y4,y5,y6,y7]) (ht:tmps.getD q undef=.pointer (some ⟨rk,0,none⟩)) (hR:R (.returned (.agg #[x0,x1,x2,x3,x4,x5,x6,x7])) ((((((((w.setCell ⟨rk,0,none⟩ x0).setCell ⟨rk,1,none⟩ x1).setCell ⟨rk,2,none⟩ x2).setCell ⟨rk,3,none⟩ x3).setCell ⟨rk,4,none⟩ x4).setCell ⟨rk,5,none⟩ x5).setCell ⟨rk,6,none⟩ x6).setCell ⟨rk,7,none⟩ x7)) :
  bodyPost P fn R .ret {tmps:=tmps,defers:=[]} ((((((((w.setCell ⟨rk,0,none⟩ x0).setCell ⟨rk,1,none⟩ x1).setCell ⟨rk,2,none⟩ x2).setCell ⟨rk,3,none⟩ x3).setCell ⟨rk,4,none⟩ x4).setCell ⟨rk,5,none⟩ x5).setCell ⟨rk,6,none⟩ x6).setCell ⟨rk,7,none⟩ x7) :=
 bodyPost_ret (Aer (cs:=[x0,x1,x2,x3,x4,x5,x6,x7]) h hu hd hi ht (k.copy8 x0 x1 x2 x3 x4 x5 x6 x7)) rfl hR
theorem Adg (x:Rb) (b o c g q d:Nat) (w:World) (hr:RecAt w b o x.ps) (hb:b<w.heap.size) (np:x.ps.length<=1048576) :
  Calls Tryz.prog 56 #[.agg #[.string x.nm,.slice (some ⟨b,o,none⟩) x.ps.length c,.slice (some ⟨g,q,none⟩) x.sl.length d,.string x.ad,.int .i64 x.si,.int .i64 x.st]] w λe w'=>(∃p:Ph,e=.returned (.agg #[.string (p).nm,.int .i64 (p).k,.string (p).a,.string (p).b,.int .i64 (p).n,.int .i64 (p).wi,.string (p).t,.string (p).e])/\∀(k:Nat) (hk:k<x.ps.length),atI x.ps x.ad=(k:Int)->p=x.ps[k])/\Below w.heap.size w w':=by
 go_enter Tryz.func56,Tryz.ntmps56
 go_upto_region 1 with fail
 obtain⟨W1,hW1,kA,kR,hB1,hs1⟩:=L1 w [.string x.nm,.slice (some ⟨b,o,none⟩) x.ps.length c,.slice (some ⟨g,q,none⟩) x.sl.length d,.string x.ad,.int .i64 x.si,.int .i64 x.st] 52 [.string ⟨#[]⟩,.int .i64 0,.string ⟨#[]⟩,.string ⟨#[]⟩,.int .i64 0,.int .i64 0,.string ⟨#[]⟩,.string ⟨#[]⟩] 84;try rw[hW1]
 clear hW1;obtain⟨d0,d1,d2,d3,d4,d5⟩:=kA.c6;go_wp2_with fail
 refine (AbH x.ps b o c x.ad _ (hr.up hB1 hb) (by omega) np).mono ?_;rintro e w3 ⟨⟨p,rfl,hpk⟩,hb3⟩;have hz3:=hb3.size;have kR:=kR.up hb3 (by omega);have hB3:=D6 hB1 hb3;clear d0 d1 d2 d3 d4 d5 kA hB1 hb3;go_upto_region 2 with fail
 obtain⟨W4,hW4,kP,hb4,hs4⟩:=K9 w3 [.string (p).nm,.int .i64 (p).k,.string (p).a,.string (p).b,.int .i64 (p).n,.int .i64 (p).wi,.string (p).t,.string (p).e] 84;try rw[hW4]
 clear hW4;have kR:=kR.up hb4 (by omega);have hB4:=D6 hB3 hb4;obtain⟨⟨f0,f1,f2,f3,f4,f5,f6,f7⟩,-⟩:=kP.c8;obtain⟨⟨r0,r1,r2,r3,r4,r5,r6,r7⟩,g0,g1,g2,g3,g4,g5,g6,g7⟩:=kR.c8;go_wp2_with fail
 refine AnV Tryz.results56 Tryz.underlying84 rfl AnU kR rfl ?_;refine⟨⟨p,rfl,hpk⟩,?_⟩;exact (((((((hB4.setCell (p:=⟨w.heap.size+1,0,none⟩) (Nat.le_succ _) _).setCell (p:=⟨w.heap.size+1,1,none⟩) (Nat.le_succ _) _).setCell (p:=⟨w.heap.size+1,2,none⟩) (Nat.le_succ _) _).setCell (p:=⟨w.heap.size+1,3,none⟩) (Nat.le_succ _) _).setCell (p:=⟨w.heap.size+1,4,none⟩) (Nat.le_succ _) _).setCell (p:=⟨w.heap.size+1,5,none⟩) (Nat.le_succ _) _).setCell (p:=⟨w.heap.size+1,6,none⟩) (Nat.le_succ _) _).setCell (p:=⟨w.heap.size+1,7,none⟩) (Nat.le_succ _) _
theorem Aea (x:Rb) (rv sv:Value) (w:World) (hE:Ends w) (h:RbV w x rv sv) :
  Calls Tryz.prog 104 #[.agg #[.string x.nm,rv,sv,.string x.ad,.int .i64 x.si,.int .i64 x.st]] w λe w'=>(∃u,e=.returned u/\OwnT w' w.heap.size u (rbOwn x))/\Below w.heap.size w w':=by
 have hok:=λW (hB:Below w.heap.size w W)=>Abi x rv sv W (hE.up hB) (h.up hB);obtain⟨b,o,c,rfl,hr,hb,hcap,hc9⟩:=h.r;obtain⟨g,q,d,rfl,hl,hg⟩:=h.s;have ns:=h.ns;have np:=h.np;have zs:=h.zs;have zp:=h.zp;clear h;have hC:CB (w.alloc (.cells #[.string x.nm,.slice (some ⟨b,o,none⟩) x.ps.length c,.slice (some ⟨g,q,none⟩) x.sl.length d,.string x.ad,.int .i64 x.si,.int .i64 x.st] 52)) w.heap.size [.string x.nm,.slice (some ⟨b,o,none⟩) x.ps.length c,.slice (some ⟨g,q,none⟩) x.sl.length d,.string x.ad,.int .i64 x.si,.int .i64 x.st]:=E7 w _ _;have hB0:=(A4 w.heap.size w).alloc (A3 _) (.cells #[.string x.nm,.slice (some ⟨b,o,none⟩) x.ps.length c,.slice (some ⟨g,q,none⟩) x.sl.length d,.string x.ad,.int .i64 x.si,.int .i64 x.st] 52);have HO:Hid (∀W,Below w.heap.size w W->Calls Tryz.prog 141 #[.agg #[.string x.nm,.slice (some ⟨b,o,none⟩) x.ps.length c,.slice (some ⟨g,q,none⟩) x.sl.length d,.string x.ad,.int .i64 x.si,.int .i64 x.st]] W λe w'=>e=.returned (.bool (pB (RbOk x)))/\Below W.heap.size W w'):=hok;clear hok hE;go_enter Tryz.func104,Tryz.ntmps104
 go_upto_region 1 with fail
 generalize w.alloc (.cells #[.string x.nm,.slice (some ⟨b,o,none⟩) x.ps.length c,.slice (some ⟨g,q,none⟩) x.sl.length d,.string x.ad,.int .i64 x.si,.int .i64 x.st] 52)=W1 at *;obtain⟨d0,d1,d2,d3,d4,d5⟩:=hC.c6;have hlt:=hC.2.2;by_cases hk:RbOk x
 case neg =>
  have HN:Hid (rbOwn x=[]):=Ac3 hk;have hp:=F3 hk;go_wp2_with fail
  refine (HO.out _ hB0).mono ?_;rw[hp];rintro e w1 ⟨rfl,hB1⟩;go_wp2_with fail
  go_ret
  exact⟨⟨_,rfl,by rw[HN.out];exact B8 _ _ _ _⟩,D6 hB0 hB1⟩
 have hhas:=hk.2.2.2.2.1
 have HY:Hid (∀p,p=phOf x.ps x.ad->namesOf (thI x.sl (ownB p))=rbOwn x/\(1<=p.k/\p.k<=5)/\∀s∈ownB p,s.size<=maxLen):=by
  show _
  rintro p rfl;have hm:=Abh hhas;refine⟨?_,AmB (Ady hk.2.1 hm),λs hs=>?_⟩
  ·rw[Ac2 hk]
   exact AgL (Amw x.sl _ hk.2.2.1.nodup (Ag9 _))
  ·obtain⟨_,z1,z2,_⟩:=zp _ hm
   unfold ownB at hs;split at hs
   ·simp only[List.mem_cons,List.not_mem_nil,or_false] at hs
    rcases hs with rfl|rfl
    ·exact z1
    ·exact z2
   ·simp only[List.mem_cons,List.not_mem_nil,or_false] at hs
    rw[hs];exact z1
 have hp:=I7 hk;clear hk;go_wp2_with fail
 refine (HO.out _ hB0).mono ?_;rw[hp];rintro e w1 ⟨rfl,hB1⟩;go_upto_region 3 with fail
 have hB01:=D6 hB0 hB1;obtain⟨f0,f1,f2,f3,f4,f5⟩:=(hC.up hB1 hlt).c6;have hq4:w.heap.size<w1.heap.size:=A1 hlt hB1.size;have hS0:Below w1.heap.size w1 w1/\w1.cell? ⟨w.heap.size,0,none⟩=some (.string x.nm)/\w1.cell? ⟨w.heap.size,1,none⟩=some (.slice (some ⟨b,o,none⟩) x.ps.length c)/\w1.cell? ⟨w.heap.size,2,none⟩=some (.slice (some ⟨g,q,none⟩) x.sl.length d)/\w1.cell? ⟨w.heap.size,3,none⟩=some (.string x.ad)/\w1.cell? ⟨w.heap.size,4,none⟩=some (.int .i64 x.si)/\w1.cell? ⟨w.heap.size,5,none⟩=some (.int .i64 x.st):=⟨A4 _ _,f0,f1,f2,f3,f4,f5⟩;clear d0 d1 d2 d3 d4 d5 f0 f1 f2 f3 f4 f5 hp hC;go_wp2_with fail
 go_region_held (λw'=>Below w1.heap.size w1 w'/\w'.cell? ⟨w.heap.size,0,none⟩=some (.string x.nm)/\w'.cell? ⟨w.heap.size,1,none⟩=some (.slice (some ⟨b,o,none⟩) x.ps.length c)/\w'.cell? ⟨w.heap.size,2,none⟩=some (.slice (some ⟨g,q,none⟩) x.sl.length d)/\w'.cell? ⟨w.heap.size,3,none⟩=some (.string x.ad)/\w'.cell? ⟨w.heap.size,4,none⟩=some (.int .i64 x.si)/\w'.cell? ⟨w.heap.size,5,none⟩=some (.int .i64 x.st)) (first|exact Afa hS0|exact Aj0 hq4 (by assumption) (by assumption))
  (first
   | (go_at_call 142;refine (AbF x.sl g q d _ (hl.up hB01.drew hg) (A1 hg hB01.drew.size) ns (λy hy=>(zs y hy).1)).mono ?_;rintro e w5 ⟨⟨M,D,rfl,hM,hD,-⟩,hb5⟩;have hB5:=D6 hB01.drew hb5)
   | (go_at_call 56;refine (Adg x b o c g q d _ (hr.up hB5 hb) (A1 hb hB5.size) np).mono ?_;rintro e w3 ⟨⟨p,rfl,hpk⟩,hb3⟩;have hM3:=hM.up hb3;have hB3:=D6 hB5 hb3;obtain⟨HT,hpk5,hps⟩:=HY.out p (by obtain⟨k,hkl,hka⟩:=Z8 hhas;rw[hpk k hkl hka,Z6 hkl hka]);have HT':Hid (namesOf (thI x.sl (ownB p))=rbOwn x):=HT;have hob:(ownB p).length<=2:=(by unfold ownB;split<;>simp);clear HT hpk)
   | (go_at_call 144;refine (Ad7 p _ hpk5).mono ?_;rintro e w6 ⟨⟨u6,rfl,hT6⟩,hb6⟩;have hM6:=hM3.up hb6;have hB6:=D6 hB3 hb6)
   | (go_at_call 143;refine (AbG x.sl (ownB p) M _ D _ _ hM6 hD (.inr hT6) hps (by omega)).mono ?_;rintro e w7 ⟨⟨u7,rfl,hO7⟩,hb7⟩))
 rename_i hHeld;have hB8:=D6 hB01 hHeld.1;have hO8:=G4 hO7 hB6.size;clear hHeld hS0 hT6 hO7 hb5 hb6 hb7 hM hD hM6 hB5 hB6 hM3 hB3 hb3;go_wp2_with fail
 go_ret
 exact⟨⟨_,rfl,by rw[← HT'.out];exact hO8⟩,hB8⟩
def RbAt (w:World) (b o:Nat) (x:Rb):Prop:=∃rv sv,w.rangeAt b o [.string x.nm,rv,sv,.string x.ad,.int .i64 x.si,.int .i64 x.st]/\RbV w x rv sv
def RbsAt (w:World) (b o:Nat) (bs:List Rb):Prop:=∀(i:Nat) (x:Rb),bs[i]?=some x->RbAt w b (o+i*6) x
def Rbs (w:World) (v:Value) (bs:List Rb):Prop:=∃a c,v=.slice a bs.length c/\bs.length<=maxLen/\(0<bs.length->∃b o,a=some ⟨b,o,none⟩/\RbsAt w b o bs/\b<w.heap.size)
def DnsAt (w:World) (b o:Nat) (ds:List Done):Prop:=∀(i:Nat) (d:Done),ds[i]?=some d->w.rangeAt b (o+i*3) [.string d.nm,.int .i64 d.e,.int .i64 d.t]/\d.nm.size<=maxLen
def Dns (w:World) (v:Value) (ds:List Done):Prop:=∃a c,v=.slice a ds.length c/\ds.length<=maxLen/\(0<ds.length->∃b o,a=some ⟨b,o,none⟩/\DnsAt w b o ds/\b<w.heap.size)
theorem Abk {w w':World} {b o B:Nat} {vs:List Value} (h:w.rangeAt b o vs) (hb:Below B w w') (hB:b<B):w'.rangeAt b o vs:=λj v hv=>by
 rw[hb.cell (p:=⟨b,o+j,none⟩) hB];exact h j v hv
theorem RbAt.up {w w':World} {b o:Nat} {x:Rb} (h:RbAt w b o x) (hb:Below w.heap.size w w') (hB:b<w.heap.size):RbAt w' b o x:=by
 obtain⟨rv,sv,h1,h2⟩:=h;exact⟨rv,sv,Abk h1 hb hB,h2.up hb⟩
theorem RbsAt.up {w w':World} {b o:Nat} {bs:List Rb} (h:RbsAt w b o bs) (hb:Below w.heap.size w w') (hB:b<w.heap.size):RbsAt w' b o bs:=λi x hx=>(h i x hx).up hb hB
theorem RbsAt.at {w:World} {b o:Nat} {bs:List Rb} (h:RbsAt w b o bs) {k:Nat} (hk:k<bs.length):RbAt w b (o+k*6) bs[k]:=h k _ (A0 hk)
theorem Rbs.up {w w':World} {v:Value} {bs:List Rb} (h:Rbs w v bs) (hb:Below w.heap.size w w'):Rbs w' v bs:=by
 obtain⟨a,c,rfl,h1,h2⟩:=h;exact⟨a,c,rfl,h1,λhp=>by obtain⟨b,o,e,hr,hlt⟩:=h2 hp;exact⟨b,o,e,hr.up hb hlt,A1 hlt hb.size⟩⟩
theorem DnsAt.up {w w':World} {b o:Nat} {ds:List Done} (h:DnsAt w b o ds) (hb:Below w.heap.size w w') (hB:b<w.heap.size):DnsAt w' b o ds:=λi d hd=>⟨Abk (h i d hd).1 hb hB,(h i d hd).2⟩
theorem Dns.up {w w':World} {v:Value} {ds:List Done} (h:Dns w v ds) (hb:Below w.heap.size w w'):Dns w' v ds:=by
 obtain⟨a,c,rfl,h1,h2⟩:=h;exact⟨a,c,rfl,h1,λhp=>by obtain⟨b,o,e,hr,hlt⟩:=h2 hp;exact⟨b,o,e,hr.up hb hlt,A1 hlt hb.size⟩⟩
structure HV (w:World) (h:House) (tv bv xv dv:Value):Prop where
 t:Ls w tv h.sh.things
 b:Bs w bv h.sh.bs
 x:Rbs w xv h.bs
 d:Dns w dv h.ds
theorem HV.up {w w':World} {h:House} {tv bv xv dv:Value} (H:HV w h tv bv xv dv) (hb:Below w.heap.size w w'):HV w' h tv bv xv dv:=⟨H.t.up hb,H.b.up hb,H.x.up hb,H.d.up hb⟩
theorem HV.shapes {w:World} {h:House} {tv bv xv dv:Value} (H:HV w h tv bv xv dv):∃a1 c1 a2 c2 a3 c3 a4 c4,tv=.slice a1 h.sh.things.length c1/\bv=.slice a2 h.sh.bs.length c2/\xv=.slice a3 h.bs.length c3/\dv=.slice a4 h.ds.length c4:=by
 obtain⟨a1,c1,e1,-⟩:=H.t;obtain⟨a2,c2,e2,-⟩:=H.b;obtain⟨a3,c3,e3,-⟩:=H.x;obtain⟨a4,c4,e4,-⟩:=H.d;exact⟨a1,c1,a2,c2,a3,c3,a4,c4,e1,e2,e3,e4⟩
theorem HV.book {w:World} {h:House} {tv bv xv dv:Value} (H:HV w h tv bv xv dv):BkV w (.agg #[tv,bv]) h.sh:=⟨tv,bv,rfl,H.t,H.b⟩
theorem Alg (bs:List Rb) (k:Nat) (hk:k<bs.length):rnms (bs.take (k+1))=rnms (bs.take k)++[(bs[k]).nm]:=by
 unfold rnms;rw[A7 hk,List.map_append];rfl
theorem Rbs.inv {w:World} {v:Value} {bs:List Rb} (h:Rbs w v bs) {a:Option Addr} {n c:Nat} (e:v=.slice a n c):bs.length<=maxLen/\(0<bs.length->∃b o,a=some ⟨b,o,none⟩/\RbsAt w b o bs/\b<w.heap.size):=by
 obtain⟨a',c',e',h1,h2⟩:=h;rw[e'] at e;simp only[Value.slice.injEq] at e;obtain⟨rfl,-,-⟩:=e;exact⟨h1,h2⟩
theorem RbAt.open {w:World} {b o:Nat} {x:Rb} (h:RbAt w b o x):∃p q c g r d,(w.cell? ⟨b,o,none⟩=some (.string x.nm)/\w.cell? ⟨b,o+1,none⟩=some (.slice (some ⟨p,q,none⟩) x.ps.length c)/\w.cell? ⟨b,o+2,none⟩=some (.slice (some ⟨g,r,none⟩) x.sl.length d)/\w.cell? ⟨b,o+3,none⟩=some (.string x.ad)/\w.cell? ⟨b,o+4,none⟩=some (.int .i64 x.si)/\w.cell? ⟨b,o+5,none⟩=some (.int .i64 x.st))/\RbV w x (.slice (some ⟨p,q,none⟩) x.ps.length c) (.slice (some ⟨g,r,none⟩) x.sl.length d):=by
 obtain⟨rv,sv,hr,hv⟩:=h;obtain⟨p,q,c,rfl,-⟩:=hv.r;obtain⟨g,r,d,rfl,-⟩:=hv.s;exact⟨p,q,c,g,r,d,⟨hr 0 _ rfl,hr 1 _ rfl,hr 2 _ rfl,hr 3 _ rfl,hr 4 _ rfl,hr 5 _ rfl⟩,hv⟩
theorem Abl {W w0:World} {q r:Nat} {x0 x1 x2 x3 x4 x5 x6 x7 x8 x9 x10 x11:Value} (h:Below W.heap.size W w0/\w0.cell? ⟨q,0,none⟩=some x0/\w0.cell? ⟨q,1,none⟩=some x1/\w0.cell? ⟨q,2,none⟩=some x2/\w0.cell? ⟨q,3,none⟩=some x3/\w0.cell? ⟨q,4,none⟩=some x4/\w0.cell? ⟨q,5,none⟩=some x5/\w0.cell? ⟨r,0,none⟩=some x6/\w0.cell? ⟨r,1,none⟩=some x7/\w0.cell? ⟨r,2,none⟩=some x8/\w0.cell? ⟨r,3,none⟩=some x9/\w0.cell? ⟨r,4,none⟩=some x10/\w0.cell? ⟨r,5,none⟩=some x11):Below W.heap.size W w0.drew/\w0.drew.cell? ⟨q,0,none⟩=some x0/\w0.drew.cell? ⟨q,1,none⟩=some x1/\w0.drew.cell? ⟨q,2,none⟩=some x2/\w0.drew.cell? ⟨q,3,none⟩=some x3/\w0.drew.cell? ⟨q,4,none⟩=some x4/\w0.drew.cell? ⟨q,5,none⟩=some x5/\w0.drew.cell? ⟨r,0,none⟩=some x6/\w0.drew.cell? ⟨r,1,none⟩=some x7/\w0.drew.cell? ⟨r,2,none⟩=some x8/\w0.drew.cell? ⟨r,3,none⟩=some x9/\w0.drew.cell? ⟨r,4,none⟩=some x10/\w0.drew.cell? ⟨r,5,none⟩=some x11 :=
 ⟨h.1.drew,h.2⟩
theorem Abm {W w0 w1:World} {q r:Nat} {x0 x1 x2 x3 x4 x5 x6 x7 x8 x9 x10 x11:Value} (hq:q<W.heap.size) (hr:r<W.heap.size) (h:Below W.heap.size W w0/\w0.cell? ⟨q,0,none⟩=some x0/\w0.cell? ⟨q,1,none⟩=some x1/\w0.cell? ⟨q,2,none⟩=some x2/\w0.cell? ⟨q,3,none⟩=some x3/\w0.cell? ⟨q,4,none⟩=some x4/\w0.cell? ⟨q,5,none⟩=some x5/\w0.cell? ⟨r,0,none⟩=some x6/\w0.cell? ⟨r,1,none⟩=some x7/\w0.cell? ⟨r,2,none⟩=some x8/\w0.cell? ⟨r,3,none⟩=some x9/\w0.cell? ⟨r,4,none⟩=some x10/\w0.cell? ⟨r,5,none⟩=some x11) (hB:Below w0.heap.size w0 w1):Below W.heap.size W w1/\w1.cell? ⟨q,0,none⟩=some x0/\w1.cell? ⟨q,1,none⟩=some x1/\w1.cell? ⟨q,2,none⟩=some x2/\w1.cell? ⟨q,3,none⟩=some x3/\w1.cell? ⟨q,4,none⟩=some x4/\w1.cell? ⟨q,5,none⟩=some x5/\w1.cell? ⟨r,0,none⟩=some x6/\w1.cell? ⟨r,1,none⟩=some x7/\w1.cell? ⟨r,2,none⟩=some x8/\w1.cell? ⟨r,3,none⟩=some x9/\w1.cell? ⟨r,4,none⟩=some x10/\w1.cell? ⟨r,5,none⟩=some x11:=by
 obtain⟨h0,a0,a1,a2,a3,a4,a5,a6,a7,a8,a9,a10,a11⟩:=h;have lq:q<w0.heap.size:=A1 hq h0.size;have lr:r<w0.heap.size:=A1 hr h0.size;exact⟨D6 h0 hB,(hB.cell (p:=⟨q,0,none⟩) lq).trans a0,(hB.cell (p:=⟨q,1,none⟩) lq).trans a1,(hB.cell (p:=⟨q,2,none⟩) lq).trans a2,(hB.cell (p:=⟨q,3,none⟩) lq).trans a3,(hB.cell (p:=⟨q,4,none⟩) lq).trans a4,(hB.cell (p:=⟨q,5,none⟩) lq).trans a5,(hB.cell (p:=⟨r,0,none⟩) lr).trans a6,(hB.cell (p:=⟨r,1,none⟩) lr).trans a7,(hB.cell (p:=⟨r,2,none⟩) lr).trans a8,(hB.cell (p:=⟨r,3,none⟩) lr).trans a9,(hB.cell (p:=⟨r,4,none⟩) lr).trans a10,(hB.cell (p:=⟨r,5,none⟩) lr).trans a11⟩
theorem Aaz {x:Rb} {w:World} {rv sv:Value} (h:RbV w x rv sv) (nm:ByteArray):∀s∈rbThings x nm,s.size<=maxLen:=by
 by_cases hk:RbOk x
 ·rw[Aa1 hk]
  intro s hs;have h1:=((Abf _ _).2 s.toList).1 (U6.2 hs);simp only[keys,List.mem_map] at h1;obtain⟨_,⟨t,_,rfl⟩,e⟩:=h1;rw[← M6 e];unfold firstT;split
  ·rename_i y hy
   exact (h.zs y (List.mem_of_find?_eq_some hy)).2
  ·exact Nat.zero_le _
 ·rw[AbJ hk];intro s hs;simp at hs
theorem L8 {x:Rb} {w:World} {rv sv:Value} (h:RbV w x rv sv):∀s∈rbOwn x,s.size<=maxLen:=by
 by_cases hk:RbOk x
 ·rw[Ac2 hk]
  intro s hs;have h1:=((Abf _ _).2 s.toList).1 (U6.2 hs);simp only[keys,List.mem_map] at h1;obtain⟨_,⟨t,_,rfl⟩,e⟩:=h1;rw[← M6 e];unfold firstT;split
  ·rename_i y hy
   exact (h.zs y (List.mem_of_find?_eq_some hy)).2
  ·exact Nat.zero_le _
 ·rw[Ac3 hk];intro s hs;simp at hs
theorem Aj1 (ss:List ByteArray) (v:Value) (s:ByteArray) (w:World) (h:Ls w v ss) :
  Calls Tryz.prog 232 #[v,.string s] w λe w'=>e=.returned (.int .i64 (idxI ss s))/\w'=w:=by
 obtain⟨a,c,rfl,hn,-,hpos⟩:=h;unfold maxLen at hn;go_enter Tryz.func232,Tryz.ntmps232
 go_wp2
 go_loop [8] (λi=>∃k:Nat,k<=ss.length/\i=.int .i64 k/\memS (ss.take k) s=false) (λi=>ss.length-(intOf i).toNat)
 case atStart=>exact⟨0,by omega,rfl,rfl⟩
 case round =>
  obtain⟨k,hk,rfl,hal⟩:=hrel;have Hal:Hid (memS (ss.take k) s=false):=hal;clear hal;by_cases hp:k<ss.length
  ·obtain⟨b,o,rfl,hS,hb⟩:=hpos (by omega)
   have c0:=hS.cell hp;cases hq:(s.toList==(ss[k]).toList)
   ·have Hq:Hid (((ss[k]).toList==s.toList)=false):=by show _=_;rw[Ace];exact hq
    go_wp2
    go_round
    case rel=>exact⟨k+1,by omega,by go_num,Aa6 hp Hal.out Hq.out⟩
    case measure=>simp[intOf];omega
   ·have Hq:Hid (((ss[k]).toList==s.toList)=true):=by show _=_;rw[Ace];exact hq
    go_wp2
    go_ret
    exact⟨O3 (V0 hp Hal.out Hq.out).symm,rfl⟩
  ·go_wp2
   go_ret
   exact⟨O3 (O5 (AaZ hp Hal.out)).symm,rfl⟩
theorem AaG (ss:List ByteArray) (v:Value) (s:ByteArray) (w:World) (h:Ls w v ss) :
  Calls Tryz.prog 225 #[v,.string s] w λe w'=>e=.returned (.bool (memS ss s))/\w'=w:=by
 obtain⟨a,c,rfl,-⟩:=id h;go_enter Tryz.func225,Tryz.ntmps225
 go_wp2_with (go_at_call 232;refine (Aj1 ss _ _ _ h).mono ?_;rintro e w' ⟨rfl,hw⟩;obtain rfl:=hw.symm;clear hw)
 all_goals
  go_ret
  refine⟨D7 ?_,rfl⟩;rw[← AdJ];try simp_all
theorem Aaj {x:Int} (h0:0<=x) (h1:x<18446744073709551616):IntKind.u64.wrap x=x:=by
 rw[IntKind.wrap_u64];omega
theorem AnW {k:Nat} (_:k<=7):(2:Int) ^ k=((2 ^ k:Nat):Int):=by simp
theorem Aj2 {k:Nat} (h:k<=7):2 ^ k<=128:=Nat.pow_le_pow_right (n:=2) (by omega) h
theorem AmC {n k:Nat} (hn:n<256) (hk:k<=7):IntKind.u64.wrap ((n:Int)+IntKind.u64.wrap (2 ^ k))=((n+2 ^ k:Nat):Int):=by
 have h:=Aj2 hk;rw[AnW hk];generalize 2 ^ k=m at *;rw[Aaj (x:=(m:Int)) (by omega) (by omega),Aaj (by omega) (by omega)];omega
theorem Aj3 {l:List ByteArray} {P:ByteArray->Bool} {k:Nat} (hk:k<l.length):bitsN (l.take (k+1)) P=bitsN (l.take k) P+(if P l[k]=true then 2 ^ k else 0):=by
 rw[A7 hk,Aet,B7,Nat.min_eq_left (by omega)]
theorem Ac4 (things picked:List ByteArray) (u v:Value) (w:World) (h:Ls w u things) (h2:Ls w v picked) (h8:things.length<=8) :
  Calls Tryz.prog 228 #[u,v] w λe w'=>e=.returned (.int .u64 (bitsN things (memS picked):Nat))/\w'=w:=by
 obtain⟨a,c,rfl,-,-,hpos⟩:=h;obtain⟨a2,c2,rfl,-⟩:=id h2;go_enter Tryz.func228,Tryz.ntmps228
 go_wp2
 go_loop [5,6,7,10] (λx _ _ i=>∃k:Nat,k<=things.length/\i=.int .i64 k/\x=.int .u64 (bitsN (things.take k) (memS picked):Nat)) (λ_ _ _ i=>things.length-(intOf i).toNat)
 case atStart=>exact⟨0,by omega,rfl,rfl⟩
 case round =>
  obtain⟨k,hk,rfl,rfl⟩:=hrel;by_cases hp:k<things.length
  ·obtain⟨b,o,rfl,hS,hb⟩:=hpos (by omega)
   have c0:=hS.cell hp;have Hb:=Aj3 (P:=memS picked) hp;have hsm:bitsN (things.take k) (memS picked)<256:=L7 (by rw[B7];omega) _;cases hq:memS picked things[k]
   ·have HB:Hid (bitsN (things.take (k+1)) (memS picked)=bitsN (things.take k) (memS picked)):=by show _=_;rw[Hb,hq];simp
    clear Hb;go_wp2_with (go_at_call 225;refine (AaG picked _ _ _ h2).mono ?_;rintro e w' ⟨rfl,hw⟩;obtain rfl:=hw.symm;clear hw)
    go_round
    case rel=>exact⟨k+1,by omega,by go_num,by rw[HB.out]⟩
    case measure=>simp[intOf];omega
   ·have HB:Hid (bitsN (things.take (k+1)) (memS picked)=bitsN (things.take k) (memS picked)+2 ^ k):=by show _=_;rw[Hb,if_pos hq]
    clear Hb;go_wp2_with (go_at_call 225;refine (AaG picked _ _ _ h2).mono ?_;rintro e w' ⟨rfl,hw⟩;obtain rfl:=hw.symm;clear hw)
    go_round
    case rel =>
     refine⟨k+1,by omega,by go_num,?_⟩;rw[HB.out,AmC hsm (by omega)]
    case measure=>simp[intOf];omega
  ·have HB:Hid (bitsN (things.take k) (memS picked)=bitsN things (memS picked)):=by show _=_;rw[D3 (by omega)]
   go_wp2
   go_ret
   exact⟨congrArg (λn:Nat=>Ending.returned (.int .u64 (n:Int))) HB.out,rfl⟩
def Tab (w:World) (tb:Nat) (things:List ByteArray) (ts:List Tr):Prop :=
 ∃rv,CB w tb [rv,.int .u64 (bitsN things (freeL ts):Nat)]/\w.ownsRow (tb+1) 300 4 rv ts.length (rowsL things ts)
theorem Tab.up {w w':World} {tb:Nat} {things:List ByteArray} {ts:List Tr} (h:Tab w tb things ts) (hb:Below w.heap.size w w'):Tab w' tb things ts:=by
 obtain⟨rv,h1,h2⟩:=h;exact⟨rv,h1.up hb h1.2.2,E1 h2 hb⟩
theorem Tab.lt {w:World} {tb:Nat} {things:List ByteArray} {ts:List Tr} (h:Tab w tb things ts):tb<w.heap.size:=by
 obtain⟨rv,h1,-⟩:=h;exact h1.2.2
theorem Ab6 {w:World} {base g cap:Nat} {things:List ByteArray} {ts:List Tr} (h:w.ownsRow base 300 4 (.slice (some ⟨g,0,none⟩) ts.length cap) ts.length (rowsL things ts)) {i:Nat} {p:Tr} (hp:ts[i]?=some p) :
  w.cell? ⟨g,i*4,none⟩=some (.string p.1.nm)/\w.cell? ⟨g,i*4+1,none⟩=some (.int .u64 (bitsN things (memS p.1.has):Nat))/\w.cell? ⟨g,i*4+2,none⟩=some (.int .u64 (bitsN things (memS p.1.needs):Nat))/\w.cell? ⟨g,i*4+3,none⟩=some (.bool p.2):=by
 have hi:=(A2.1 hp).1;refine⟨?_,?_,?_,?_⟩
 ·rw[show i*4=i*4+0 by omega,h.cellAt (i*4+0) (by omega),Aa8 things ts i 0 p hp (by omega)];rfl
 ·rw[h.cellAt (i*4+1) (by omega),Aa8 things ts i 1 p hp (by omega)];rfl
 ·rw[h.cellAt (i*4+2) (by omega),Aa8 things ts i 2 p hp (by omega)];rfl
 ·rw[h.cellAt (i*4+3) (by omega),Aa8 things ts i 3 p hp (by omega)];rfl
theorem AgM (a b:Nat) (ha:a<256) (hb:b<512):bits .andNot .u64 (a:Int) (b:Int)=((a &&& (18446744073709551615-b):Nat):Int):=by
 have:=u64_andNot (a:Int) (b:Int) (by omega) (by omega) (by omega) (by omega);simpa using this
theorem AnX (tb at':Nat) (things:List ByteArray) (ts:List Tr) (p:Tr) (w:World) (h:Tab w tb things ts) (h8:things.length<=8) (hp:ts[at']?=some p) (h5:ts.length<=5) :
  Calls Tryz.prog 229 #[.pointer (some ⟨tb,0,none⟩),.int .i64 at'] w λe w'=>e=.returned (.bool (!p.2&&decide (bitsN things (memS p.1.needs) &&& (18446744073709551615-(bitsN things (freeL ts)+bitsN things (memS p.1.has)))=0)))/\Below w.heap.size w w':=by
 obtain⟨rv,hC,hown⟩:=h;have hi:=(A2.1 hp).1;obtain⟨g,cap,rfl⟩:=F4 hown (by omega);obtain⟨r0,r1,r2,r3⟩:=Ab6 hown hp;obtain⟨t0,t1⟩:=hC.c2';have htl:=hC.2.2;have n1:=L7 h8 (memS p.1.has);have n2:=L7 h8 (memS p.1.needs);have n3:=L7 h8 (freeL ts);generalize bitsN things (memS p.1.has)=hb at *;generalize bitsN things (memS p.1.needs)=nb at *;generalize bitsN things (freeL ts)=fb at *;clear hown hC;obtain⟨W1,hW1,kX,hB1,hs1⟩:=K9 w [.string p.1.nm,.int .u64 (hb:Nat),.int .u64 (nb:Nat),.bool p.2] 300;go_enter Tryz.func229,Tryz.ntmps229
 go_upto_region 2 with fail
 try rw[hW1]
 clear hW1 r0 r1 r2 r3;have x1:=kX.1 1 _ rfl;have x2:=kX.1 2 _ rfl;have x3:=kX.1 3 _ rfl;have f1:=(hB1.cell (p:=⟨tb,1,none⟩) htl).trans t1;simp only[Nat.zero_add] at x1 x2 x3;have hadd:IntKind.u64.wrap ((fb:Int)+(hb:Int))=((fb+hb:Nat):Int):=by rw[Aaj (by omega) (by omega)];omega
 have hand:=AgM nb (fb+hb) n2 (by omega);cases hgone:p.2
 ·rw[hgone] at x3
  go_wp2_with fail
  go_quiet (fail)
  go_wp2_with fail
  go_ret
  refine⟨D7 ?_,E8 hB1 _⟩;rw[hgone,← Int.natCast_add,hand];rw[Bool.eq_iff_iff,beq_iff_eq];simp
 ·rw[hgone] at x3
  go_wp2_with fail
  go_quiet (fail)
  go_wp2_with fail
  go_ret
  exact⟨D7 (by rw[hgone];rfl),E8 hB1 _⟩
theorem Afx {w:World} {base base' e e' s s' n n':Nat} {v v':Value} {xs xs':List Value} (h:w.ownsRow base e s v n xs) (h':w.ownsRow base' e' s' v' n' xs') (hne:e≠e'):∀g,v.ownBlock=some g->some g≠v'.ownBlock:=λg hg hg'=>by
 rcases h.2 with⟨rfl,_⟩|⟨g1,cap,cur,rfl,_,hh,_⟩
 ·simp[Value.ownBlock] at hg
 ·rcases h'.2 with⟨rfl,_⟩|⟨g2,cap',cur',rfl,_,hh',_⟩
  ·simp[Value.ownBlock] at hg'
  ·simp[Value.ownBlock] at hg hg'
   subst hg hg';rw[hh] at hh';simp at hh';exact hne hh'.2
theorem AgN {w w':World} {base e s n:Nat} {v:Value} {xs:List Value} {r:Option Nat} (h:w.ownsRow base e s v n xs) (hg:w.grownBy w' r) (hne:∀g,v.ownBlock=some g->some g≠r):w'.ownsRow base e s v n xs:=by
 refine⟨h.1,?_⟩;rcases h.2 with h0|⟨g,cap,cur,hv,hb,hh,q⟩
 ·exact .inl h0
 ·refine .inr ⟨g,cap,cur,hv,hb,?_,q⟩
  rw[hg.block g (D4.1 hh).1 (hne g (by rw[hv];rfl))];exact hh
theorem Alh (tb at':Nat) (things:List ByteArray) (ts:List Tr) (p:Tr) (bs:List Ba) (w:World) (h:Tab w tb things ts) (h8:things.length<=8) (hp:ts[at']?=some p) (hg:p.2=false) (hm:ts.map (·.1)=bs) (ha:Apart bs) (h5:ts.length<=5) :
  Calls Tryz.prog 215 #[.pointer (some ⟨tb,0,none⟩),.int .i64 at'] w λe w'=>(∃v,e=.returned v)/\Tab w' tb things (ts.set at' (p.1,true))/\Below tb w w'/\∀(base:Nat) (u:Value) (ss:List ByteArray),OwnT w base u ss->tb<base->OwnT w' base u ss:=by
 obtain⟨rv,hC,hown⟩:=h;have hi:=(A2.1 hp).1;obtain⟨g,cap,rfl⟩:=F4 hown (by omega);have hg0:=(hown.lt g rfl).1;obtain⟨r0,r1,r2,r3⟩:=Ab6 hown hp;obtain⟨⟨t0,t1⟩,u0,u1⟩:=hC.c2;have n1:=L7 h8 (memS p.1.has);have n3:=L7 h8 (freeL ts);have hfr:=Ajc ha hm hp hg things;have f3:=hown.frozenAt (at'*4+3);have hst:=hown.stored (at'*4+3) (.bool true);rw[Afi things ts at' p hp] at hst;obtain⟨W1,hW1,hown1,hgr⟩:∃W1,w.setCell ⟨g,at'*4+3,none⟩ (.bool true)=W1/\W1.ownsRow (tb+1) 300 4 (.slice (some ⟨g,0,none⟩) ts.length cap) ts.length (rowsL things (ts.set at' (p.1,true)))/\w.grownBy W1 (some g):=⟨_,rfl,hst.1,hst.2⟩;clear hst;have hC1:=hC.kept hgr (by simp;omega);have hl1:(ts.set at' (p.1,true)).length=ts.length:=List.length_set;have hown1':W1.ownsRow (tb+1) 300 4 (.slice (some ⟨g,0,none⟩) (ts.set at' (p.1,true)).length cap) (ts.set at' (p.1,true)).length (rowsL things (ts.set at' (p.1,true))):=by rw[hl1];exact hown1
 obtain⟨-,s1,-,-⟩:=Ab6 hown1' (i:=at') (p:=(p.1,true)) (by rw[List.getElem?_set,if_pos rfl,if_pos hi]);have hT:∀x,CB x tb [.slice (some ⟨g,0,none⟩) ts.length cap,.int .u64 (bitsN things (freeL (ts.set at' (p.1,true))):Nat)]->W1.grownBy x (some tb)->Tab x tb things (ts.set at' (p.1,true)):=λx h1 h2=>⟨_,h1,by rw[hl1];exact E9 hown1 h2 (by omega)⟩;have HT:Hid (∀x,CB x tb [.slice (some ⟨g,0,none⟩) ts.length cap,.int .u64 (bitsN things (freeL (ts.set at' (p.1,true))):Nat)]->W1.grownBy x (some tb)->Tab x tb things (ts.set at' (p.1,true))):=hT;have hB1:Below tb w W1:=⟨hgr.os,hgr.tape,hgr.output,hgr.size,λi hi=>hgr.block i (Nat.lt_trans hi hC.2.2) (by simp;omega)⟩
 have HO:Hid (∀(base:Nat) (u:Value) (ss:List ByteArray),OwnT w base u ss->tb<base->OwnT W1 base u ss):=λbase u ss q1 q2=>AgN q1 hgr λg' hg'=>by
  have:=Afx q1 hown (by decide) g' hg';simpa [Value.ownBlock] using this
 clear hT hown1 hown1' hgr hown;generalize bitsN things (freeL (ts.set at' (p.1,true)))=fb2 at *;generalize bitsN things (memS p.1.has)=hb at *;generalize bitsN things (freeL ts)=fb at *;have hadd:IntKind.u64.wrap ((fb:Int)+(hb:Int))=(fb2:Int):=by rw[Aaj (by omega) (by omega)];omega
 go_enter Tryz.func215,Tryz.ntmps215
 go_upto_region 1 with fail
 try rw[hW1]
 clear hW1 r0 r1 r2 r3 t0 t1 u0 u1 f3;obtain⟨⟨t0,t1⟩,u0,u1⟩:=hC1.c2;have hC2:CB ((W1.setCell ⟨tb,1,none⟩ (.int .u64 (fb2:Nat))).drew) tb [.slice (some ⟨g,0,none⟩) ts.length cap,.int .u64 (fb2:Nat)]:=CB.set (j:=1) hC1 (by simp);have HTx:Hid (Tab ((W1.setCell ⟨tb,1,none⟩ (.int .u64 (fb2:Nat))).drew) tb things (ts.set at' (p.1,true))):=HT.out _ hC2 (U9 (E0 (E4 _ _) _));have HBx:Hid (Below tb w ((W1.setCell ⟨tb,1,none⟩ (.int .u64 (fb2:Nat))).drew)):=(hB1.setCell (p:=⟨tb,1,none⟩) (A3 _) _).drew;clear hC2 HT;go_wp2_with fail
 go_region
 go_end0
 exact⟨⟨_,rfl⟩,HTx.out,HBx.out,λbase u ss q1 q2=>E9 (HO.out base u ss q1 q2) (U9 (E0 (E4 _ _) _)) q2⟩
end Go.Proofs.YtebfdccbmmpceaaGreatDoor
