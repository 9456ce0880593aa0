/- The program's walks over batches (chapter 11): their names, who has what. -/
import Derived.Test.YtebfdccbmmpceaaGreatDoorJ1
import Derived.Maps.OwnSet
import Derived.Maps.OwnOps
import Derived.Laws.OwnMore
import Derived.Test.YtebfdccbmmpceaaGreatDoorJ0
set_option maxRecDepth 100000
set_option maxHeartbeats 2000000
namespace Go.Proofs.YtebfdccbmmpceaaGreatDoor
open Go.RowKit Go.Maps
theorem Amk (bs:List Ba) (k:Nat) (hk:k<bs.length):nms (bs.take (k+1))=nms (bs.take k)++[(bs[k]).nm]:=by
 rw[Agg,Agg,A7 (by rw[I6];exact hk),Q9 bs k hk]
theorem BaAt.batch {w:World} {b o:Nat} {x:Ba} (h:BaAt w b o x):x.nm.size<=maxLen:=by
 obtain⟨_,_,_,_,_,h3⟩:=h;exact h3
theorem V6 (bs:List Ba) (v:Value) (w:World) (h:Bs w v bs) (hn:bs.length<=1048576) :
  Calls Tryz.prog 159 #[v] w λe w'=>(∃u,e=.returned u/\OwnT w' w.heap.size u (nms bs)/\Ls w' u (nms bs))/\Below w.heap.size w w':=by
 obtain⟨a,c,rfl,-,hpos⟩:=h;obtain⟨ii,hi,iz0,iz1,iz2⟩:=info_parts M1;go_enter Tryz.func159,Tryz.ntmps159
 go_wp2_with fail
 go_loopw [3,5,8] (λu _ i w'=>∃k:Nat,k<=bs.length/\i=.int .i64 k/\w'.ownsRow w.heap.size 9 1 u k ((nms (bs.take k)).map Value.string)/\Below w.heap.size w w') (λ_ _ i _=>bs.length-(intOf i).toNat)
 case atStart=>exact⟨0,by omega,rfl,⟨by simp[nms],.inl ⟨rfl,rfl⟩⟩,A4 _ _⟩
 case round =>
  obtain⟨k,hk,rfl,hown,hB⟩:=hrel;by_cases hp:k<bs.length
  ·obtain⟨b,o,rfl,hS,hb⟩:=hpos (by omega)
   obtain⟨a1,d1,a2,d2,c0,c1,c2,l1,l2,z0⟩:=((hS.at hp).up hB hb).cells
   have Hs:Hid ((nms (bs.take (k+1))).map Value.string=(nms (bs.take k)).map Value.string++[.string (bs[k]).nm]):=by
    show _=_
    rw[Amk bs k hp,List.map_append];rfl
   generalize bs[k]=x0 at *;clear l1 l2 hS;have hB1:=hB.alloc hB.size (.cells #[.string (x0).nm,.slice a1 (x0).has.length d1,.slice a2 (x0).needs.length d2] 128);have hown1:=E1 hown ((A4 wr.heap.size wr).alloc (A3 _) (.cells #[.string (x0).nm,.slice a1 (x0).has.length d1,.slice a2 (x0).needs.length d2] 128));have hC:CB (wr.alloc (.cells #[.string (x0).nm,.slice a1 (x0).has.length d1,.slice a2 (x0).needs.length d2] 128)) wr.heap.size [.string x0.nm,.slice a1 x0.has.length d1,.slice a2 x0.needs.length d2]:=E7 wr _ _;have hz:=hB.size;go_upto_region 5 with fail
   generalize wr.alloc (.cells #[.string (x0).nm,.slice a1 (x0).has.length d1,.slice a2 (x0).needs.length d2] 128)=W1 at *;obtain⟨⟨e0,-⟩,-⟩:=hC.c3;clear c0 c1 c2 hown hB;have hown2:=E1 hown1 ((A4 W1.heap.size W1).alloc (A3 _) (.cells #[.string x0.nm] 9));have hB2:=hB1.alloc hB1.size (.cells #[.string x0.nm] 9);go_wp2_with (at_builtin;refine wpList_append_own _ rfl _ _ 201 rfl w.heap.size 9 ii _ 1 16 Tryz.underlying201 hi iz0 iz1 iz2 rfl (by decide) _ _ _ rfl hown2 ⟨W1.heap.size,0,none⟩ 1 1 [.string x0.nm] rfl rfl (Q8 _ _ _) (AaY _) (by unfold maxLen;omega) (by omega) hB2.size ?_)
   intro v1 w1 hown3 hgrow3 _;rw[← Hs.out] at hown3;have hB3:=I3 hB2 hown2 hgrow3 (A3 _);clear hown1 hown2 hgrow3 hB1 hB2 hC e0;go_wp2_with fail
   go_roundw
   case rel=>exact⟨k+1,by omega,by go_num,hown3,hB3⟩
   case measure=>simp[intOf];omega
  ·have hz:∀s∈nms bs,s.size<=maxLen:=λs hs=>by
    obtain⟨x,hx,rfl⟩:=List.mem_map.1 hs;obtain⟨i,hi,rfl⟩:=B6 hx;obtain⟨b,o,rfl,hS,hb⟩:=hpos (by omega);exact (hS.at hi).batch
   have Ho:Hid (∀u,wr.ownsRow w.heap.size 9 1 u k ((nms (bs.take k)).map Value.string)->OwnT wr w.heap.size u (nms bs)):=λu h=>by
    obtain rfl:k=bs.length:=by omega
    rw[List.take_length] at h;unfold OwnT;rw[I6];exact h
   have Hz:Hid (∀s∈nms bs,s.size<=maxLen):=hz;clear hz;go_wp2_with fail
   go_ret
   exact⟨⟨_,rfl,Ho.out _ hown,(Ho.out _ hown).lst.ls Hz.out⟩,hB⟩
theorem AcQ:Keyed Tryz.prog 9:=string_keyed Tryz.underlying9
theorem Adw (w:World):(zeroValue 3).run Tryz.prog w=.ok (.int .i64 0) w:=by kernel_rfl
abbrev MapAt (w:World) (M n:Nat) (D:DataW Unit):Prop:=w.ownsMap Tryz.prog 9 (plainElem Tryz.prog 3) M n D
theorem Ad4 (bs:List Ba) (v:Value) (w:World) (h:Bs w v bs) (hn:bs.length<=5) (h8:∀x∈bs,Asc x.has/\x.has.length<=8) :
  Calls Tryz.prog 205 #[v] w λe w' =>
   ((Apart bs/\∃M n D,e=.returned (.tuple #[.map (some M),.bool true])/\MapAt w' M n D/\HoldD D bs bs.length 0/\w.heap.size<=M)∨(¬Apart bs/\e=.returned (.tuple #[.map none,.bool false])))/\Below w.heap.size w w':=by
 obtain⟨a,c,rfl,-,hpos⟩:=h;have hmm:=@run_makeMap Tryz.prog;go_enter Tryz.func205,Tryz.ntmps205
 go_wp2_with fail
 go_loopw [5,6,8,9,10,14] (λ_ _ _ _ _ i w'=>∃(k:Nat) (D:DataW Unit),k<=bs.length/\i=.int .i64 k/\MapAt w' w.heap.size (k*8) D/\HoldD D bs k 0/\Below w.heap.size w w') (λ_ _ _ _ _ i _=>bs.length-(intOf i).toNat)
 case atStart=>exact⟨0,_,by omega,rfl,World.ownsMap_made _ _ _ _,HoldD.start bs,(A4 _ _).alloc (A3 _) _⟩
 case round =>
  obtain⟨k,D,hk,rfl,hmap,hD,hB⟩:=hrel;have HD:Hid (HoldD D bs k 0):=hD;clear hD;by_cases hp:k<bs.length
  ·obtain⟨b,o,rfl,hS,hb⟩:=hpos (by omega)
   obtain⟨a1,d1,a2,d2,c0,c1,c2,l1,-,-⟩:=(hS.at hp).cells;obtain⟨h8a,h8b⟩:=h8 bs[k] (by simp)
   have HS:Hid (∀(D:DataW Unit) (m:Nat) (s:ByteArray),(bs[k]).has[m]?=some s->HoldD D bs k m->Maps.has D (kl s)=false->HoldD (D.put (kl s) (.lit (.int .i64 (k:Int)))) bs k (m+1)):=λD m s hs h hn=>by
    obtain⟨hm,rfl⟩:=A2.1 hs;exact h.step hp hm hn
   have HT:Hid (∀(D:DataW Unit) (m:Nat) (s:ByteArray),(bs[k]).has[m]?=some s->HoldD D bs k m->Maps.has D (kl s)=true->¬Apart bs):=λD m s hs h hn=>by
    obtain⟨hm,rfl⟩:=A2.1 hs;exact h.twice hp hm h8a hn
   have HN:Hid (∀(D:DataW Unit) (m:Nat),¬m<(bs[k]).has.length->HoldD D bs k m->HoldD D bs (k+1) 0):=λD m hm h=>h.next hp hm;obtain⟨-,hz,hp1⟩:=l1.inv;clear h8a l1;generalize bs[k]=x0 at *;obtain⟨hc,hf⟩:=E6 hB;have hB1:=hB.alloc hB.size (.cells #[.string (x0).nm,.slice a1 (x0).has.length d1,.slice a2 (x0).needs.length d2] 128);have hmap1:=hmap.alloc (.cells #[.string (x0).nm,.slice a1 (x0).has.length d1,.slice a2 (x0).needs.length d2] 128);have hC:CB (wr.alloc (.cells #[.string (x0).nm,.slice a1 (x0).has.length d1,.slice a2 (x0).needs.length d2] 128)) wr.heap.size [.string x0.nm,.slice a1 x0.has.length d1,.slice a2 x0.needs.length d2]:=E7 wr _ _;have hz1:=hB.size;go_upto_region 5 with fail
   generalize wr.alloc (.cells #[.string (x0).nm,.slice a1 (x0).has.length d1,.slice a2 (x0).needs.length d2] 128)=W1 at *;obtain⟨⟨e0,e1,e2⟩,-⟩:=hC.c3;clear c0 c1 c2 hc hf hmap hB hS;go_wp2_with fail
   clear e0 e1 e2 hC;go_loopw [8,9,10,22] (λ_ _ _ j w'=>∃(m:Nat) (D':DataW Unit),m<=x0.has.length/\j=.int .i64 m/\MapAt w' w.heap.size (k*8+m) D'/\HoldD D' bs k m/\Below w.heap.size w w') (λ_ _ _ j _=>x0.has.length-(intOf j).toNat)
   case atStart=>exact⟨0,D,by omega,rfl,hmap1,HD.out,hB1⟩
   case round =>
    clear hB1 hmap1 HD;obtain⟨m,D',hm,rfl,hmap,hD,hB⟩:=hrel;have HD:Hid (HoldD D' bs k m):=hD;clear hD;by_cases hq:m<x0.has.length
    ·obtain⟨b1,o1,rfl,hS1,hb1⟩:=hp1 (by omega)
     have c0:=(hB.cell (p:=⟨b1,o1+m,none⟩) hb1).trans (hS1.cell hq);have z0:=hz x0.has[m] (by simp);have hx:=A0 hq;generalize x0.has[m]=s at *;have Hy:Hid (Maps.has D' (kl s)=false->HoldD (D'.put (kl s) (.lit (.int .i64 (k:Int)))) bs k (m+1)):=HS.out D' m s hx HD.out;have Ht:Hid (Maps.has D' (kl s)=true->¬Apart bs):=HT.out D' m s hx HD.out;have hkey:keyOf Tryz.prog 9 (.string s)=some (kl s):=WideMaps.keyOf_string_mk Tryz.underlying9 z0;clear HS HT HN hx HD;cases ht:Maps.has D' (kl s)
     ·go_wp2_with (first
       | (at_lookup;refine wpList_lookup_own_ok_int _ rfl _ _ 285 rfl 9 3 .i64 AcQ Tryz.underlying285 Tryz.underlying3 (Adw _) w.heap.size (k*8+m) D' rfl hmap _ _ rfl hkey ?_;intro cc _ _)
       | (at_mapUpdate;refine wpList_mapUpdate_own _ rfl _ _ _ 285 rfl 9 3 AcQ Tryz.underlying285 _ w.heap.size (k*8+m) D' rfl hmap (by unfold maxLen;omega) _ _ _ rfl rfl hkey _ [] (plainElem_int Tryz.underlying3 (WalkArith.wf_i64 (by omega))) ?_;intro w1 hown1 hgrow1))
      have HD1:Hid (HoldD (D'.put (kl s) (.lit (.int .i64 (k:Int)))) bs k (m+1)):=Hy.out ht;have hB1:=S9 hB hgrow1 (A3 _);clear Hy Ht hgrow1 hmap hB c0;go_wp2_with fail
      go_roundw
      case rel=>exact⟨m+1,_,by omega,by go_num,hown1,HD1.out,hB1⟩
      case measure=>simp[intOf];omega
     ·go_wp2_with (first
       | (at_lookup;refine wpList_lookup_own_ok_int _ rfl _ _ 285 rfl 9 3 .i64 AcQ Tryz.underlying285 Tryz.underlying3 (Adw _) w.heap.size (k*8+m) D' rfl hmap _ _ rfl hkey ?_;intro cc _ _))
      go_returns
      exact⟨.inr ⟨Ht.out ht,rfl⟩,hB⟩
    ·go_wp2_with fail
     go_roundw
     case rel=>exact⟨k+1,D',by omega,by go_num,hmap.mono (by omega),HN.out D' m hq HD.out,hB⟩
     case measure=>simp[intOf];omega
  ·have Hk:Hid (k=bs.length):=by show _=_;omega
   go_wp2_with fail
   go_returns
   exact⟨.inl ⟨HD.out.apart hp,_,_,D,rfl,hmap,by rw[← Hk.out];exact HD.out,A3 _⟩,hB⟩
theorem Ai3 {things:List ByteArray} {bs:List Ba} (h8:things.length<=8) (h:BasTo things bs bs.length):∀x∈bs,Asc x.has/\x.has.length<=8:=λx hx=>by
 obtain⟨i,hi,rfl⟩:=B6 hx;obtain⟨h1,h2⟩:=h.at hi hi;have e1:=N8 h1;have e2:=N8 h2;exact⟨h2.2,by omega⟩
theorem Acf (b:Bk) (v:Value) (w:World) (h:BkV w v b) :
  Calls Tryz.prog 183 #[v] w λe w'=>e=.returned (.bool (bookB b))/\Below w.heap.size w w':=by
 obtain⟨a1,c1,a2,c2,rfl,h1,h2⟩:=h.parts;have hC:CB (w.alloc (.cells #[.slice a1 (b).things.length c1,.slice a2 (b).bs.length c2] 33)) w.heap.size [.slice a1 b.things.length c1,.slice a2 b.bs.length c2]:=E7 w _ _;have hB0:=(A4 w.heap.size w).alloc (A3 _) (.cells #[.slice a1 (b).things.length c1,.slice a2 (b).bs.length c2] 33);have g1:=h1.inv.1;have g2:=h2.at.1;unfold maxLen at g1 g2;go_enter Tryz.func183,Tryz.ntmps183
 go_upto_region 1 with fail
 generalize w.alloc (.cells #[.slice a1 (b).things.length c1,.slice a2 (b).bs.length c2] 33)=W1 at *;have l1:=h1.up hB0;have l2:=h2.up hB0;obtain⟨e0,e1⟩:=hC.c2';have hlt:=hC.2.2;clear h h1 h2;by_cases h8:8<b.things.length
 ·have Hq:Hid (bookB b=false):=F3 λh=>by have:=h.1.1;omega
  go_wp2_with fail
  go_ret
  exact⟨D7 Hq.out.symm,hB0⟩
 by_cases h5:5<b.bs.length
 ·have Hq:Hid (bookB b=false):=F3 λh=>by have:=h.2.1;omega
  go_wp2_with fail
  go_ret
  exact⟨D7 Hq.out.symm,hB0⟩
 cases ho:pB (Names b.things/\Asc b.things)
 ·have Hq:Hid (bookB b=false):=F3 λh=>J4.1 ho ⟨h.1.2.1,h.1.2.2⟩
  go_wp2_with fail
  refine (AbC b.things _ _ l1).mono ?_;rintro e w2 ⟨rfl,hB⟩;rw[ho];go_wp2_with fail
  go_ret
  exact⟨D7 Hq.out.symm,D6 hB0 hB⟩
 have Ho:Hid (ThingsOk b.things):=⟨by omega,(F8.1 ho).1,(F8.1 ho).2⟩;go_wp2_with fail
 refine (AbC b.things _ _ l1).mono ?_;rintro e w2 ⟨rfl,hb2⟩;rw[ho];clear ho;obtain⟨hc,hf⟩:=E6 hb2;go_wp2_with fail
 refine (V6 b.bs _ _ (l2.up hb2) (by omega)).mono ?_;rintro e w3 ⟨⟨u,rfl,-,hu⟩,hb3⟩;clear hc hf;obtain⟨au,cu,rfl,-⟩:=id hu;go_wp2_with fail
 refine (AbC (nms b.bs) _ _ hu).mono ?_;rintro e w4 ⟨rfl,hb4⟩;have hB:=D6 (D6 hb2 hb3) hb4;clear hb2 hb3 hb4 hu;cases hn:pB (Names (nms b.bs)/\Asc (nms b.bs))
 ·have Hq:Hid (bookB b=false):=F3 λh=>J4.1 hn ⟨h.2.2.1,h.2.2.2.1⟩
  go_wp2_with fail
  go_ret
  exact⟨D7 Hq.out.symm,D6 hB0 hB⟩
 have Hn:Hid (Names (nms b.bs)/\Asc (nms b.bs)):=F8.1 hn;clear hn;obtain⟨hc,hf⟩:=E6 hB;obtain⟨-,hpos⟩:=l2.at;have hz4:=hB.size;go_wp2_with fail
 clear hc hf;go_loopw [4,31] (λ_ i w'=>∃k:Nat,k<=b.bs.length/\i=.int .i64 k/\BasTo b.things b.bs k/\Below W1.heap.size W1 w') (λ_ i _=>b.bs.length-(intOf i).toNat)
 case atStart=>exact⟨0,by omega,rfl,BasTo.zero _ _,hB⟩
 case round =>
  clear hB hz4;obtain⟨k,hk,rfl,hal,hB⟩:=hrel;have Hal:Hid (BasTo b.things b.bs k):=hal;clear hal;by_cases hp:k<b.bs.length
  ·obtain⟨bb,o,rfl,hS,hb⟩:=hpos (by omega)
   obtain⟨a3,d3,a4,d4,c3,c4,c5,l3,l4,-⟩:=((hS.at hp).up hB hb).cells;have HS:Hid (BaOk b.things b.bs[k]->BasTo b.things b.bs (k+1)):=λh=>Hal.out.step hp h;have HN:Hid (¬BaOk b.things b.bs[k]->bookB b=false):=λh=>F3 λhb=>h (hb.2.2.2.2.1.at hp hp);generalize b.bs[k]=x0 at *;have hC1:CB (wr.alloc (.cells #[.string (x0).nm,.slice a3 (x0).has.length d3,.slice a4 (x0).needs.length d4] 128)) wr.heap.size [.string x0.nm,.slice a3 x0.has.length d3,.slice a4 x0.needs.length d4]:=E7 wr _ _;have hb5:=(A4 wr.heap.size wr).alloc (A3 _) (.cells #[.string (x0).nm,.slice a3 (x0).has.length d3,.slice a4 (x0).needs.length d4] 128);go_upto_region 8 with fail
   generalize wr.alloc (.cells #[.string (x0).nm,.slice a3 (x0).has.length d3,.slice a4 (x0).needs.length d4] 128)=W2 at *;have hB5:=D6 hB hb5;have l3':=l3.up hb5;have l4':=l4.up hb5;have l1':=l1.up hB5;obtain⟨⟨q0,q1,q2⟩,-⟩:=hC1.c3;obtain⟨hc,hf⟩:=E6 hB5;clear c3 c4 c5 l3 l4 hb5 hB hS;go_wp2_with fail
   refine (Ahy x0 b.things _ _ _ _ l3' l4' l1').mono ?_;rintro e w6 ⟨rfl,hb6⟩;have hB6:=D6 hB5 hb6;clear hc hf q0 q1 q2 l3' l4' l1' hB5 hb6 hC1;cases hq:pB (BaOk b.things x0)
   ·have Hq:Hid (bookB b=false):=HN.out (J4.1 hq)
    go_wp2_with fail
    go_ret
    exact⟨D7 Hq.out.symm,D6 hB0 hB6⟩
   ·have Hq:Hid (BasTo b.things b.bs (k+1)):=HS.out (F8.1 hq)
    go_wp2_with fail
    go_roundw
    case rel=>exact⟨k+1,by omega,by go_num,Hq.out,hB6⟩
    case measure=>simp[intOf];omega
  ·have Hq:Hid (BasTo b.things b.bs b.bs.length):=Ai0 Hal.out hp
   have h8':∀x∈b.bs,Asc x.has/\x.has.length<=8:=Ai3 (by omega) Hq.out;obtain⟨hc,hf⟩:=E6 hB;go_wp2_with fail
   refine (Ad4 b.bs _ _ (l2.up hB) (by omega) h8').mono ?_;rintro e w6 ⟨hh,hb6⟩;have hB6:=D6 hB hb6;clear hc hf;rcases hh with⟨hA,M,n,D,rfl,-,-,-⟩|⟨hA,rfl⟩
   ·have Hy:Hid (bookB b=true):=I7 ⟨Ho.out,by omega,Hn.out.1,Hn.out.2,Hq.out,hA⟩
    go_wp2_with fail
    go_ret
    exact⟨D7 Hy.out.symm,D6 hB0 hB6⟩
   ·have Hy:Hid (bookB b=false):=F3 λh=>hA h.2.2.2.2.2
    go_wp2_with fail
    go_ret
    exact⟨D7 Hy.out.symm,D6 hB0 hB6⟩
end Go.Proofs.YtebfdccbmmpceaaGreatDoor
namespace Go.Proofs.YtebfdccbmmpceaaGreatDoor
open Go.RowKit
def LsO (w:World) (base:Nat) (v:Value) (ss:List ByteArray):Prop:=∃b,v=.slice (some ⟨b,0,none⟩) ss.length ss.length/\StrsAt w b 0 ss/\w.there b 0 ss.length/\base<=b/\b<w.heap.size/\ss.length<=maxLen/\∀s∈ss,s.size<=maxLen
theorem LsO.ls {w:World} {base:Nat} {v:Value} {ss:List ByteArray} (h:LsO w base v ss):Ls w v ss:=by
 obtain⟨b,rfl,h1,-,-,h2,h3,h4⟩:=h;exact⟨_,_,rfl,h3,h4,λ_=>⟨b,0,rfl,h1,h2⟩⟩
theorem LsO.up {w w':World} {base:Nat} {v:Value} {ss:List ByteArray} (h:LsO w base v ss) (hb:Below w.heap.size w w'):LsO w' base v ss:=by
 obtain⟨b,rfl,h1,ht,h0,h2,h3⟩:=h;exact⟨b,rfl,h1.up hb h2,I8 ht hb h2,h0,A1 h2 hb.size,h3⟩
theorem Aes {w w':World} {b o n:Nat} {r:Option Nat} (h:w.there b o n) (hg:w.grownBy w' r) (hb:b<w.heap.size) (hne:some b≠r):w'.there b o n:=λj hj=>by
 have hk:=hg.block b hb hne;rw[C3 (w:=w) (a:=⟨b,o+j,none⟩) hk,World.frozen?_of_block (w:=w) (a:=⟨b,o+j,none⟩) hk];exact h j hj
theorem LsO.kept {w w':World} {base r:Nat} {v:Value} {ss:List ByteArray} (h:LsO w base v ss) (hg:w.grownBy w' (some r)) (hr:r<base):LsO w' base v ss:=by
 obtain⟨b,rfl,h1,ht,h0,h2,h3⟩:=h;exact⟨b,rfl,λi s hs=>hg.cell (h1 i s hs) (by simp;omega),Aes ht hg h2 (by simp;omega),h0,A1 h2 hg.size,h3⟩
theorem LsO.low {w:World} {base base':Nat} {v:Value} {ss:List ByteArray} (h:LsO w base v ss) (hb:base'<=base):LsO w base' v ss:=by
 obtain⟨b,rfl,h1,ht,h0,h2⟩:=h;exact⟨b,rfl,h1,ht,by omega,h2⟩
def BaO (w:World) (b o:Nat) (x:Ba):Prop:=∃hv nv,w.rangeAt b o [.string x.nm,hv,nv]/\LsO w (b+1) hv x.has/\LsO w (b+1) nv x.needs/\x.nm.size<=maxLen
theorem BaO.up {w w':World} {b o:Nat} {x:Ba} (h:BaO w b o x) (hb:Below w.heap.size w w') (hlt:b<w.heap.size):BaO w' b o x:=by
 obtain⟨hv,nv,hr,h1,h2,h3⟩:=h;exact⟨hv,nv,λj v hv=>(hb.cell (p:=⟨b,o+j,none⟩) hlt).trans (hr j v hv),h1.up hb,h2.up hb,h3⟩
theorem BaO.at {w:World} {b o:Nat} {x:Ba} (h:BaO w b o x):BaAt w b o x:=by
 obtain⟨hv,nv,hr,h1,h2,h3⟩:=h;exact⟨hv,nv,hr,h1.ls,h2.ls,h3⟩
def BsOAt (w:World) (b:Nat) (bs:List Ba):Prop:=∀(i:Nat) (x:Ba),bs[i]?=some x->BaO w b (i*3) x
theorem BsOAt.up {w w':World} {b:Nat} {bs:List Ba} (h:BsOAt w b bs) (hb:Below w.heap.size w w') (hlt:b<w.heap.size):BsOAt w' b bs:=λi x hx=>(h i x hx).up hb hlt
theorem Ak3 {w1:World} {b k:Nat} {bs:List Ba} {hv nv:Value} (hk:k<bs.length) (h:BsOAt w1 b (bs.take k)) (ht:w1.there b 0 (bs.length*3)) (h1:LsO w1 (b+1) hv (bs[k]).has) (h2:LsO w1 (b+1) nv (bs[k]).needs) (h3:(bs[k]).nm.size<=maxLen) :
  BsOAt (w1.setCells b (k*3) [.string (bs[k]).nm,hv,nv]) b (bs.take (k+1)):=by
 have hg:w1.grownBy (w1.setCells b (k*3) [.string (bs[k]).nm,hv,nv]) (some b):=AcO b _ _ w1 w1 (some b) (World.grownBy.refl' w1) rfl;intro i p hp;by_cases hi:i<k
 ·obtain⟨hv',nv',hr,g1,g2,g3⟩:=h i p (by rw[List.getElem?_take] at hp ⊢;rw[if_pos (by omega)] at hp;rw[if_pos hi];exact hp)
  refine⟨hv',nv',World.rangeAt_setCells_apart hr b (k*3) _ (.inr (.inl ?_)),g1.kept hg (by omega),g2.kept hg (by omega),g3⟩;simp;omega
 ·have hik:i=k:=by
   rw[List.getElem?_take] at hp;split at hp
   ·omega
   ·cases hp
  subst hik;rw[List.getElem?_take,if_pos (by omega),A0 hk] at hp;obtain rfl:=A5 hp;refine⟨hv,nv,World.rangeAt_setCells_same _ _ _ _ (λj hj=>?_),h1.kept hg (by omega),h2.kept hg (by omega),h3⟩;have:=ht (i*3+j) (by simp at hj;omega);simpa using this
def BsO (w:World) (base:Nat) (v:Value) (bs:List Ba):Prop:=∃b,v=.slice (some ⟨b,0,none⟩) bs.length bs.length/\BsOAt w b bs/\w.there b 0 (bs.length*3)/\base<=b/\b<w.heap.size/\bs.length<=maxLen
theorem BsO.bs {w:World} {base:Nat} {v:Value} {bs:List Ba} (h:BsO w base v bs):Bs w v bs:=by
 obtain⟨b,rfl,h1,-,-,h2,h3⟩:=h;exact⟨_,_,rfl,h3,λ_=>⟨b,0,rfl,λi x hx=>by rw[Nat.zero_add];exact (h1 i x hx).at,h2⟩⟩
theorem BsO.up {w w':World} {base:Nat} {v:Value} {bs:List Ba} (h:BsO w base v bs) (hb:Below w.heap.size w w'):BsO w' base v bs:=by
 obtain⟨b,rfl,h1,ht,h0,h2,h3⟩:=h;exact⟨b,rfl,h1.up hb h2,I8 ht hb h2,h0,A1 h2 hb.size,h3⟩
def BkO (w:World) (base:Nat) (v:Value) (b:Bk):Prop:=∃tv bv mid,v=.agg #[tv,bv]/\LsO w base tv b.things/\BsO w mid bv b.bs/\base<=mid/\∀g,tv.ownBlock=some g->g<mid
theorem S7 {P:Program} {w:World} (base:Nat) (t ty e:TypeId) (i:TypeInfo) (size:Nat) (ht:P.underlying t=some (.slice e)) (hi:P.info? e=some i)
  (v:Value) (n:Nat) (xs:List Value) (hown:w.ownsRow base e size v n xs) (a:Option Addr) (c:Nat):(Builtin.append_ #[t,t] ty #[v,.slice a 0 c]).run P w=.ok v w:=by
 rcases hown.2 with⟨rfl,rfl⟩|⟨g,cap,cur,rfl,_,_,hnc,_⟩
 ·cases a<;>simp[Builtin.append_,run_underlying ht,sizeOf,typeInfo,hi,Builtin.lenOf,Builtin.firstCells,loadCells,loadCellsFrom,Result.andThen]
 ·cases a<;>simp[Builtin.append_,run_underlying ht,sizeOf,typeInfo,hi,Builtin.lenOf,Builtin.firstCells,hnc,storeCells,loadCells,loadCellsFrom,Result.andThen]
theorem AcR {P:Program} (w:World) {ops:Array Oper} {rest:List Oper} {o:Oper} {ac:Act} {Q:Exit->Act->World->Prop} (hg:o.guard=none) (s x:Operand) (t:TypeId) (hop:o.op=.call {callee:=.builtin .append,args:=#[s,x],argTypes:=#[t,t]})
  (base:Nat) (e:TypeId) (i:TypeInfo) (size:Nat) (ht:P.underlying t=some (.slice e)) (hi:P.info? e=some i) (v:Value) (n:Nat) (xs:List Value) (hs:ac.eval s=v) (hown:w.ownsRow base e size v n xs) (a:Option Addr) (c:Nat) (hx:ac.eval x=.slice a 0 c)
  (h:wpList P ops Q rest (ac.put o.dst v) w):wpList P ops Q (o::rest) ac w:=by
 refine wpList_plain hg λK hK=>?_;have hr:=S7 (P:=P) base t o.type e i size ht hi v n xs hown a c;unfold Oper.wp;simp[execOp,hop,resolve,invoke,builtin,hs,hx,hr,Result.andThen];exact hK _ _ h
def NN (u:Value):Prop:=∃g n c,u=.slice (some ⟨g,0,none⟩) n c
theorem Abx (w:World):OwnT (w.alloc (.cells #[] 9)) w.heap.size (.slice (some ⟨w.heap.size,0,none⟩) 0 0) []:=B9 w #[] 0 (A3 _) (by unfold maxLen;omega) rfl
theorem Ai4 {P:Program} {fn:Func} {q:Tmp} {T:TypeId} (h:fn.results=#[.cell q T]) {d:TypeDesc} (hu:P.underlying T=some d) (hd:d.isRow=true) (hi:(P.info? T).map (·.size)=some 3) {R:Ending->World->Prop} {tmps:Array Value} {w:World} {rk:Nat} {y0 y1 y2 x0 x1 x2:Value}
  (k:CB w rk [y0,y1,y2]) (ht:tmps.getD q undef=.pointer (some ⟨rk,0,none⟩)) (hR:R (.returned (.agg #[x0,x1,x2])) (((w.setCell ⟨rk,0,none⟩ x0).setCell ⟨rk,1,none⟩ x1).setCell ⟨rk,2,none⟩ x2)) :
  bodyPost P fn R .ret {tmps:=tmps,defers:=[]} (((w.setCell ⟨rk,0,none⟩ x0).setCell ⟨rk,1,none⟩ x1).setCell ⟨rk,2,none⟩ x2) :=
 bodyPost_ret (Aer (cs:=[x0,x1,x2]) h hu hd hi ht (k.copy3 x0 x1 x2)) rfl hR
theorem AaW {P:Program} {fn:Func} {q:Tmp} {T:TypeId} (h:fn.results=#[.cell q T]) {d:TypeDesc} (hu:P.underlying T=some d) (hd:d.isRow=true) (hi:(P.info? T).map (·.size)=some 2) {R:Ending->World->Prop} {tmps:Array Value} {w:World} {rk:Nat} {y0 y1 x0 x1:Value}
  (k:CB w rk [y0,y1]) (ht:tmps.getD q undef=.pointer (some ⟨rk,0,none⟩)) (hR:R (.returned (.agg #[x0,x1])) ((w.setCell ⟨rk,0,none⟩ x0).setCell ⟨rk,1,none⟩ x1)) :
  bodyPost P fn R .ret {tmps:=tmps,defers:=[]} ((w.setCell ⟨rk,0,none⟩ x0).setCell ⟨rk,1,none⟩ x1) :=
 bodyPost_ret (Aer (cs:=[x0,x1]) h hu hd hi ht (k.copy2 x0 x1)) rfl hR
theorem Aat:(Tryz.prog.info? 128).map (λi=>(i.zero,i.size,i.bytes))=some (some (.agg #[.string ⟨#[]⟩,.slice none 0 0,.slice none 0 0]),3,64):=by kernel_rfl
abbrev Bv:=Ba×Value×Value
def rowB (p:Bv):List Value:=[.string p.1.nm,p.2.1,p.2.2]
def rowsB:List Bv->List Value
 | []=>[]
 | p::r=>rowB p++rowsB r
theorem R3:∀ps:List Bv,(rowsB ps).length=ps.length*3
 | []=>rfl
 | p::r=>by rw[rowsB,A9,R3 r,List.length_cons];simp[rowB];omega
theorem Acg (p:Bv):∀ps:List Bv,rowsB (ps++[p])=rowsB ps++rowB p
 | []=>by simp[rowsB]
 | q::r=>by rw[List.cons_append,rowsB,rowsB,Acg p r,List.append_assoc]
def BsW (w:World) (base:Nat) (v:Value) (ps:List Bv):Prop:=w.ownsRow base 128 3 v ps.length (rowsB ps)/\∀p∈ps,OwnT w base p.2.1 p.1.has/\OwnT w base p.2.2 p.1.needs/\p.1.nm.size<=maxLen
theorem BsW.up {w w':World} {base:Nat} {v:Value} {ps:List Bv} (h:BsW w base v ps) (hb:Below w.heap.size w w'):BsW w' base v ps :=
 ⟨E1 h.1 hb,λp hp=>⟨(h.2 p hp).1.up hb,(h.2 p hp).2.1.up hb,(h.2 p hp).2.2⟩⟩
theorem E5 {w:World} {base base' e e' s s' n n':Nat} {v v':Value} {xs xs':List Value} (h:w.ownsRow base e s v n xs) (h':w.ownsRow base' e' s' v' n' xs') (hne:e≠e'):∀g,v.ownBlock=some g->some g≠v'.ownBlock:=λg hg hg'=>by
 rcases h.2 with⟨rfl,_⟩|⟨g1,cap,cur,rfl,_,hh,_⟩
 ·simp[Value.ownBlock] at hg
 ·rcases h'.2 with⟨rfl,_⟩|⟨g2,cap',cur',rfl,_,hh',_⟩
  ·simp[Value.ownBlock] at hg'
  ·simp[Value.ownBlock] at hg hg'
   subst hg hg';rw[hh] at hh';simp at hh';exact hne hh'.2
theorem E2 {w w':World} {base e s n:Nat} {v:Value} {xs:List Value} {r:Option Nat} (h:w.ownsRow base e s v n xs) (hg:w.grownBy w' r) (hne:∀g,v.ownBlock=some g->some g≠r):w'.ownsRow base e s v n xs:=by
 refine⟨h.1,?_⟩;rcases h.2 with h0|⟨g,cap,cur,hv,hb,hh,q⟩
 ·exact .inl h0
 ·refine .inr ⟨g,cap,cur,hv,hb,?_,q⟩
  rw[hg.block g (D4.1 hh).1 (hne g (by rw[hv];rfl))];exact hh
theorem An6 {wr Wl w':World} {base:Nat} {xv v' hu nu:Value} {ps:List Bv} {x:Ba} {o':Obj} (hW:BsW wr base xv ps) (hb:Below wr.heap.size wr Wl) (hoh:OwnT Wl base hu x.has) (hon:OwnT Wl base nu x.needs) (hz:x.nm.size<=maxLen)
  (hgr:(Wl.alloc o').grownBy w' xv.ownBlock) (hown:w'.ownsRow base 128 3 v' (ps.length+1) (rowsB ps++[.string x.nm,hu,nu])):BsW w' base v' (ps++[(x,hu,nu)]):=by
 have ha:Below Wl.heap.size Wl (Wl.alloc o'):=(A4 _ _).alloc (A3 _) _;have hrow:=E1 (E1 hW.1 hb) ha;refine⟨by rw[A9,Acg];exact hown,λp hp=>?_⟩;rcases D1.1 hp with h|h
 ·obtain⟨q1,q2,q3⟩:=hW.2 p h
  have r1:=(q1.up hb).up ha;have r2:=(q2.up hb).up ha;exact⟨E2 r1 hgr (E5 r1 hrow (by decide)),E2 r2 hgr (E5 r2 hrow (by decide)),q3⟩
 ·obtain rfl:p=(x,hu,nu):=by simpa using h
  have r1:=hoh.up ha;have r2:=hon.up ha;exact⟨E2 r1 hgr (E5 r1 hrow (by decide)),E2 r2 hgr (E5 r2 hrow (by decide)),hz⟩
theorem Aja (w:World) (x y z:Value) (ty:TypeId) {j:Nat} {v:Value} (h:[x,y,z][j]?=some v):(w.alloc (.cells #[x,y,z] ty)).cell? ((⟨w.heap.size,0,none⟩:Addr).add j)=some v:=by
 have:=(E7 w [x,y,z] ty).1 j v h;rw[Addr.add_mid];exact this
end Go.Proofs.YtebfdccbmmpceaaGreatDoor
