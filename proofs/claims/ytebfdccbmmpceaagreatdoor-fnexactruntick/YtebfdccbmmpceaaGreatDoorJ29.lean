/- The specification's walks of l12Next and ShareOrder (chapter 12). -/
import Derived.Test.YtebfdccbmmpceaaGreatDoorJ28
import Derived.Test.YtebfdccbmmpceaaGreatDoorJ4
import Derived.Test.YtebfdccbmmpceaaGreatDoorJ2
import Derived.Test.YtebfdccbmmpceaaGreatDoorJ27
import Derived.Laws.OwnMore
import Derived.Test.YtebfdccbmmpceaaGreatDoorJ19
set_option maxRecDepth 20000
set_option maxHeartbeats 4000000
namespace Go.Proofs.YtebfdccbmmpceaaGreatDoor
open Go.RowKit
theorem AjR (b:Bk) (v gv:Value) (gone:List ByteArray) (w:World) (h:BkV w v b) (hg:Ls w gv gone) :
  Calls Tryz.prog 116 #[v,gv] w λe w'=>(∃n:Int,e=.returned (.int .i64 n)/\NextIs b.bs gone n)/\Below w.heap.size w w':=by
 obtain⟨a1,c1,a2,c2,rfl,h1,h2⟩:=h.parts;obtain⟨ag,cg,rfl,-⟩:=id hg;have hC:CB (w.alloc (.cells #[.slice a1 (b).things.length c1,.slice a2 (b).bs.length c2] 33)) w.heap.size [.slice a1 b.things.length c1,.slice a2 b.bs.length c2]:=E7 w _ _;have hB0:=(A4 w.heap.size w).alloc (A3 _) (.cells #[.slice a1 (b).things.length c1,.slice a2 (b).bs.length c2] 33);have g2:=h2.at.1;unfold maxLen at g2;go_enter Tryz.func116,Tryz.ntmps116
 go_upto_region 1 with fail
 generalize w.alloc (.cells #[.slice a1 (b).things.length c1,.slice a2 (b).bs.length c2] 33)=W1 at *;have l2:=h2.up hB0;have hk:=h.up hB0;have lg:=hg.up hB0;clear h h1 h2 hg;obtain⟨e0,e1⟩:=hC.c2';have hlt:=hC.2.2;obtain⟨-,hpos⟩:=l2.at;have hB:Below W1.heap.size W1 W1:=A4 _ _;go_wp2_with fail
 go_loopw [5] (λi w'=>∃k:Nat,k<=b.bs.length/\i=.int .i64 k/\(∀j,j<k->¬Good b.bs gone j)/\Below W1.heap.size W1 w') (λi _=>b.bs.length-(intOf i).toNat)
 case atStart=>exact⟨0,by omega,rfl,λj hj=>by omega,hB⟩
 case round =>
  clear hB;obtain⟨k,hkl,rfl,hal,hB⟩:=hrel;have Hal:Hid (∀j,j<k->¬Good b.bs gone j):=hal;clear hal;have f0:=(hB.cell (p:=⟨w.heap.size,0,none⟩) hlt).trans e0;have f1:=(hB.cell (p:=⟨w.heap.size,1,none⟩) hlt).trans e1;by_cases hp:k<b.bs.length
  ·obtain⟨bb,o,rfl,hS,hb⟩:=hpos (by omega)
   obtain⟨a3,d3,a4,d4,c3,c4,c5,-,-,-⟩:=((hS.at hp).up hB hb).cells;have HI:Hid (Good b.bs gone k↔memS gone (b.bs[k]).nm=false/\Can b.bs k gone):=Amm hp;generalize b.bs[k]=x0 at *;clear hS;go_wp2_with fail
   refine (N6 gone _ x0.nm _ (lg.up hB)).mono ?_;rintro e w' ⟨rfl,hw⟩;obtain rfl:=hw.symm;clear hw;cases hm:memS gone x0.nm
   case true =>
    have Hs:Hid (∀j,j<k+1->¬Good b.bs gone j):=AbD Hal.out λh=>by rw[(HI.out.1 h).1] at hm;cases hm
    clear HI;go_wp2_with fail
    go_roundw
    case rel=>exact⟨k+1,by omega,by go_num,Hs.out,hB⟩
    case measure=>simp[intOf];omega
   go_wp2_with fail
   refine (Al1 b _ _ k gone _ (hk.up hB) (lg.up hB) hp).mono ?_;rintro e w2 ⟨rfl,hb2⟩;have hB2:=D6 hB hb2;clear f0 f1 hB hb2 c3 c4 c5;cases hcn:pB (Can b.bs k gone)
   ·have Hs:Hid (∀j,j<k+1->¬Good b.bs gone j):=AbD Hal.out λh=>J4.1 hcn (HI.out.1 h).2
    clear HI;go_wp2_with fail
    go_roundw
    case rel=>exact⟨k+1,by omega,by go_num,Hs.out,hB2⟩
    case measure=>simp[intOf];omega
   ·have Hs:Hid (NextIs b.bs gone (k:Int)):=.inr ⟨k,rfl,hp,HI.out.2 ⟨hm,F8.1 hcn⟩,Hal.out⟩
    clear HI;go_wp2_with fail
    go_ret
    exact⟨⟨_,rfl,Hs.out⟩,D6 hB0 hB2⟩
  ·have Hs:Hid (NextIs b.bs gone (-1)):=.inl ⟨rfl,λj hj=>Hal.out j (by omega)⟩
   go_wp2_with fail
   go_ret
   exact⟨⟨_,rfl,Hs.out⟩,D6 hB0 hB⟩
def lenV:Value->Nat
 | .slice _ n _=>n
 | _=>0
theorem AfP (b:Bk) (v:Value) (w:World) (h:BkV w v b) :
  Calls Tryz.prog 75 #[v] w λe w'=>(∃u ss ok,e=.returned (.tuple #[u,.bool ok])/\OrderIs b ss ok/\OwnT w' w.heap.size u ss/\∀s∈ss,s.size<=maxLen)/\Below w.heap.size w w':=by
 obtain⟨a1,c1,a2,c2,rfl,h1,h2⟩:=h.parts;obtain⟨W1,hW1,kA,hB1,hs1⟩:=K9 w [.slice a1 (b).things.length c1,.slice a2 (b).bs.length c2] 33;have hz1:=hB1.size;clear hs1;obtain⟨ii,hi,iz0,iz1,iz2⟩:=info_parts M1;go_enter Tryz.func75,Tryz.ntmps75
 go_upto_region 1 with fail
 try rw[hW1]
 clear hW1;have hk:=h.up hB1;have l2:=h2.up hB1;obtain⟨e0,e1⟩:=kA.c2';have hlt:=kA.2.2;obtain⟨-,hpos⟩:=l2.at;clear h h1 h2;have ho2:=Abx W1;have hb2:=(A4 W1.heap.size W1).alloc (A3 _) (.cells #[] 9);go_upto_region 2 with fail
 generalize W1.alloc (.cells #[] 9)=W2 at *;have f0:=(hb2.cell (p:=⟨w.heap.size,0,none⟩) hlt).trans e0;have f1:=(hb2.cell (p:=⟨w.heap.size,1,none⟩) hlt).trans e1;go_wp2_with fail
 refine (Aan b _ _ (hk.up hb2)).mono ?_;rintro e w3 ⟨rfl,hb3⟩;have hB3:=D6 hb2 hb3;have ho3:=ho2.up hb3;clear f0 f1 hb3 ho2 hb2;cases hq:bookB b
 ·have Hq:Hid (OrderIs b [] false):=.inr ⟨rfl,rfl,.inl (J4.1 hq)⟩
  go_wp2_with fail
  go_returns
  exact⟨⟨_,[],false,rfl,Hq.out,G4 ho3 (by omega),λs hs=>by simp at hs⟩,D6 hB1 hB3⟩
 have Hok:Hid (BookOk b):=F8.1 hq;have h5:b.bs.length<=5:=Hok.out.2.1;clear hq;go_wp2_with fail
 go_loopw [4,5] (λu _ w'=>∃(n:Nat) (gone:List ByteArray),n<=b.bs.length/\Goes b.bs n gone/\OwnT w' W1.heap.size u gone/\(∀s∈gone,s.size<=maxLen)/\Below W1.heap.size W1 w') (λu _ _=>b.bs.length-lenV u)
 case atStart=>exact⟨0,[],by omega,.none,ho3,λs hs=>by simp at hs,hB3⟩
 case round =>
  clear hB3 ho3;obtain⟨n,gone,hnl,hgo,hown,hsz,hB⟩:=hrel;have Hgo:Hid (Goes b.bs n gone):=hgo;have Hlen:Hid (gone.length=n):=hgo.length;have lgo:=hown.lst.ls hsz;obtain⟨ag,cg,rfl⟩:=hown.lst.shape;have Hsz:Hid (∀s∈gone,s.size<=maxLen):=hsz;clear hgo hsz;have hgl:gone.length<=b.bs.length:=by rw[Hlen.out];exact hnl
  have f0:=(hB.cell (p:=⟨w.heap.size,0,none⟩) hlt).trans e0;have f1:=(hB.cell (p:=⟨w.heap.size,1,none⟩) hlt).trans e1;by_cases hp:gone.length<b.bs.length
  ·go_wp2_with fail
   refine (AjR b _ _ gone _ (hk.up hB) lgo).mono ?_;rintro e w4 ⟨⟨nx,rfl,hnx⟩,hb4⟩;have hB4:=D6 hB hb4;have hown4:=hown.up hb4;have Hnx:Hid (NextIs b.bs gone nx):=hnx;clear f0 f1 hB hb4 hown lgo;rcases hnx with⟨rfl,-⟩|⟨k,rfl,hkl,-,-⟩
   ·have Hs:Hid (OrderIs b [] false):=.inr ⟨rfl,rfl,.inr ⟨n,gone,by have:=Hlen.out;omega,Hgo.out,Hnx.out⟩⟩
    have ho5:=Abx w4;have hb5:=(A4 w4.heap.size w4).alloc (A3 _) (.cells #[] 9);have hz4:=hB4.size;go_wp2_with fail
    go_returns
    exact⟨⟨_,[],false,rfl,Hs.out,G4 ho5 (by omega),λs hs=>by simp at hs⟩,D6 hB1 (D6 hB4 hb5)⟩
   ·obtain⟨bb,o,rfl,hS,hb⟩:=hpos (by omega)
    have f1:=(hB4.cell (p:=⟨w.heap.size,1,none⟩) hlt).trans e1;obtain⟨a3,d3,a4,d4,c3,-,-,-,-,z0⟩:=((hS.at hkl).up hB4 hb).cells;have Hs:Hid (Goes b.bs (n+1) (gone++[(b.bs[k]).nm])):=.more Hgo.out Hnx.out (A0 hkl);generalize b.bs[k]=x0 at *;have hnb:decide ((k:Int)<0)=false:=by simp
    have hownA:=E1 hown4 ((A4 w4.heap.size w4).alloc (A3 _) (.cells #[.string x0.nm] 9));have hBA:=hB4.alloc hB4.size (.cells #[.string x0.nm] 9);clear hS;go_wp2_with (at_builtin;refine wpList_append_own _ rfl _ _ 22 rfl W1.heap.size 9 ii _ 1 16 Tryz.underlying22 hi iz0 iz1 iz2 rfl (by decide) _ _ _ rfl hownA ⟨w4.heap.size,0,none⟩ 1 1 [.string x0.nm] rfl rfl (Q8 _ _ _) (AaY _) (by unfold maxLen;omega) (by omega) hBA.size ?_)
    intro v1 w5 hown5 hgr5 _;have hB5:=I3 hBA hownA hgr5 (A3 _);have ho5:OwnT w5 W1.heap.size v1 (gone++[x0.nm]):=by unfold OwnT;rw[A9,List.map_append];exact hown5
    have hl5:∃a c,v1=.slice a (gone.length+1) c:=by
     have:=ho5.lst.shape;simpa using this
    obtain⟨a5,c5,rfl⟩:=hl5;clear hownA hBA hown5 hgr5 hown4 hB4 f1 c3;go_wp2_with fail
    go_roundw
    case rel =>
     refine⟨n+1,_,by have:=Hlen.out;omega,Hs.out,ho5,λs hs=>?_,hB5⟩;rcases D1.1 hs with h|h
     ·exact Hsz.out s h
     ·obtain rfl:s=x0.nm:=by simpa using h
      exact z0
    case measure=>simp[lenV];omega
  ·have Hs:Hid (OrderIs b gone true):=.inl ⟨rfl,Hok.out,by
    have e:b.bs.length=n:=by have:=Hlen.out;omega
    rw[e];exact Hgo.out⟩
   go_wp2_with fail
   go_returns
   exact⟨⟨_,gone,true,rfl,Hs.out,G4 hown (by omega),Hsz.out⟩,D6 hB1 hB⟩
theorem Abo (b:Bk) (v:Value) (w:World) (h:BkV w v b) :
  Calls Tryz.prog 37 #[v] w λe w'=>(∃ss ok,e=.returned (.bool ok)/\OrderIs b ss ok)/\Below w.heap.size w w':=by
 obtain⟨a1,c1,a2,c2,rfl,-,-⟩:=h.parts;have hC:CB (w.alloc (.cells #[.slice a1 (b).things.length c1,.slice a2 (b).bs.length c2] 33)) w.heap.size [.slice a1 b.things.length c1,.slice a2 b.bs.length c2]:=E7 w _ _;have hB0:=(A4 w.heap.size w).alloc (A3 _) (.cells #[.slice a1 (b).things.length c1,.slice a2 (b).bs.length c2] 33);go_enter Tryz.func37,Tryz.ntmps37
 go_upto_region 1 with fail
 generalize w.alloc (.cells #[.slice a1 (b).things.length c1,.slice a2 (b).bs.length c2] 33)=W1 at *;have hk:=h.up hB0;obtain⟨e0,e1⟩:=hC.c2';go_wp2_with fail
 refine (AfP b _ _ hk).mono ?_;rintro e w2 ⟨⟨u,ss,ok,rfl,hord,-,-⟩,hb2⟩;clear e0 e1;go_wp2_with fail
 go_ret
 exact⟨⟨ss,ok,rfl,hord⟩,D6 hB0 hb2⟩
def takenTo (bs:List Ba) (at':Int) (things:List ByteArray) (k:Nat):Prop:=∀(i:Nat) (x:Ba),i<k->(i:Int)≠at'->bs[i]?=some x->shareB x.has things=false
def Taken (bs:List Ba) (at':Int) (things:List ByteArray):Prop:=∃(i:Nat) (x:Ba),(i:Int)≠at'/\bs[i]?=some x/\shareB x.has things=true
theorem takenTo.step {bs:List Ba} {a:Int} {things:List ByteArray} {k:Nat} (h:takenTo bs a things k) (hk:k<bs.length) (h1:(k:Int)=a∨shareB (bs[k]).has things=false):takenTo bs a things (k+1):=λi x hi hne hx=>by
 by_cases e:i=k
 ·subst e
  rw[A0 hk] at hx;obtain rfl:=A5 hx;exact h1.resolve_left hne
 ·exact h i x (by omega) hne hx
theorem AmQ {bs:List Ba} {a:Int} {things:List ByteArray} {k:Nat} (h:takenTo bs a things k) (hk:¬k<bs.length):¬Taken bs a things:=λ⟨i,x,hne,hx,hs⟩=>by
 rw[h i x (by have:=(A2.1 hx).1;omega) hne hx] at hs;cases hs
theorem Aid (b:Bk) (v tv:Value) (at':Int) (things:List ByteArray) (w:World) (h:BkV w v b) (ht:Ls w tv things) :
  Calls Tryz.prog 86 #[v,.int .i64 at',tv] w λe w'=>e=.returned (.bool (pB (Taken b.bs at' things)))/\Below w.heap.size w w':=by
 obtain⟨a1,c1,a2,c2,rfl,h1,h2⟩:=h.parts;obtain⟨at1,ct1,rfl,-⟩:=id ht;have hC:CB (w.alloc (.cells #[.slice a1 (b).things.length c1,.slice a2 (b).bs.length c2] 33)) w.heap.size [.slice a1 b.things.length c1,.slice a2 b.bs.length c2]:=E7 w _ _;have hB0:=(A4 w.heap.size w).alloc (A3 _) (.cells #[.slice a1 (b).things.length c1,.slice a2 (b).bs.length c2] 33);have g2:=h2.at.1;unfold maxLen at g2;go_enter Tryz.func86,Tryz.ntmps86
 go_upto_region 1 with fail
 generalize w.alloc (.cells #[.slice a1 (b).things.length c1,.slice a2 (b).bs.length c2] 33)=W1 at *;have l2:=h2.up hB0;have lt:=ht.up hB0;clear h h1 h2 ht;obtain⟨e0,e1⟩:=hC.c2';obtain⟨-,hpos⟩:=l2.at;go_wp2_with fail
 go_loop [7] (λi=>∃k:Nat,k<=b.bs.length/\i=.int .i64 k/\takenTo b.bs at' things k) (λi=>b.bs.length-(intOf i).toNat)
 case atStart=>exact⟨0,by omega,rfl,λi _ hi=>by omega⟩
 case round =>
  obtain⟨k,hk,rfl,hal⟩:=hrel;have Hal:Hid (takenTo b.bs at' things k):=hal;clear hal;by_cases hp:k<b.bs.length
  ·obtain⟨bb,o,rfl,hS,hb⟩:=hpos (by omega)
   by_cases hka:(k:Int)=at'
   ·have hkb:((k:Int) != at')=false:=by rw[bne_eq_false_iff_eq];exact hka
    have Hs:Hid (takenTo b.bs at' things (k+1)):=Hal.out.step hp (.inl hka);clear hka;go_wp2_with fail
    go_round
    case rel=>exact⟨k+1,by omega,by go_num,Hs.out⟩
    case measure=>simp[intOf];omega
   have hkb:((k:Int) != at')=true:=by rw[bne_iff_ne];exact hka
   obtain⟨a3,d3,a4,d4,-,c4,-,l3,-,-⟩:=(hS.at hp).cells;have HY:Hid (shareB (b.bs[k]).has things=false->takenTo b.bs at' things (k+1)):=λh=>Hal.out.step hp (.inr h);have HN:Hid (shareB (b.bs[k]).has things=true->Taken b.bs at' things):=λh=>⟨k,_,hka,A0 hp,h⟩;clear hka;generalize b.bs[k]=x0 at *;go_wp2_with fail
   refine (Aa3 x0.has things _ _ _ l3 lt).mono ?_;rintro e w' ⟨rfl,hw⟩;obtain rfl:=hw.symm;clear hw;cases hs:shareB x0.has things
   ·have Hs:Hid (takenTo b.bs at' things (k+1)):=HY.out hs
    clear HY HN;go_wp2_with fail
    go_round
    case rel=>exact⟨k+1,by omega,by go_num,Hs.out⟩
    case measure=>simp[intOf];omega
   ·have Hs:Hid (Taken b.bs at' things):=HN.out hs
    clear HY HN;go_wp2_with fail
    go_ret
    exact⟨D7 (I7 Hs.out).symm,hB0⟩
  ·have Hs:Hid (¬Taken b.bs at' things):=AmQ Hal.out hp
   go_wp2_with fail
   go_ret
   exact⟨D7 (F3 Hs.out).symm,hB0⟩
theorem OwnT.txt {w:World} {base:Nat} {u:Value} {ss:List ByteArray} (h:OwnT w base u ss) (hn:NN u):Txt w u ss:=by
 rcases h.lst with⟨h0,_⟩|h1
 ·obtain⟨g,n,c,rfl⟩:=hn;cases h0
 ·exact h1
def AskIs (b:Bk) (nm:ByteArray) (things:List ByteArray) (cd:Int) (b':Bk):Prop :=
 (bookB b=false/\cd=1/\b'=nobody)∨
 (bookB b=true/\memS (nms b.bs) nm=false/\cd=3/\b'=b)∨
 (bookB b=true/\memS (nms b.bs) nm=true/\pB (PartOk things (needsAt b nm))=false/\cd=2/\b'=b)∨
 (bookB b=true/\memS (nms b.bs) nm=true/\pB (PartOk things (needsAt b nm))=true/\Taken b.bs (plN b nm:Int) things/\cd=5/\b'=b)∨
 (bookB b=true/\memS (nms b.bs) nm=true/\pB (PartOk things (needsAt b nm))=true/\¬Taken b.bs (plN b nm:Int) things/\(∃ss,OrderIs b ss true)/\(∃ss,OrderIs (chg b (plN b nm) (askF things)) ss false)/\cd=6/\b'=b)∨
 (bookB b=true/\memS (nms b.bs) nm=true/\pB (PartOk things (needsAt b nm))=true/\¬Taken b.bs (plN b nm:Int) things/\((∃ss,OrderIs b ss false)∨∃ss,OrderIs (chg b (plN b nm) (askF things)) ss true)/\cd=0/\b'=chg b (plN b nm) (askF things))
theorem AbM (b:Bk) (v nv:Value) (nm:ByteArray) (things:List ByteArray) (w:World) (h:BkV w v b) (hN:Ls w nv things) (hnn:things.length<=1048576) :
  Calls Tryz.prog 44 #[v,.string nm,nv] w λe w'=>(∃v' cd b',e=.returned (.tuple #[v',.int .i64 cd])/\AskIs b nm things cd b'/\BkW w' w.heap.size v' b')/\Below w.heap.size w w':=by
 have hsz:=h.szb;obtain⟨a1,c1,a2,c2,rfl,t1,-⟩:=h.parts;obtain⟨a9,c9,rfl,-,hNz,-⟩:=id hN;obtain⟨ii,hi,iz0,iz1,iz2⟩:=info_parts Aat;obtain⟨W1,hW1,kA,kR,hB1,hs1⟩:=L1 w [.slice a1 (b).things.length c1,.slice a2 (b).bs.length c2] 33 [.slice none 0 0,.slice none 0 0] 33;go_enter Tryz.func44,Tryz.ntmps44
 go_upto_region 1 with fail
 try rw[hW1]
 clear hW1;have hk:=h.up hB1;have hN:=hN.up hB1;have t1:=t1.up hB1;clear h;obtain⟨e0,e1⟩:=kA.c2';go_wp2_with fail
 refine (Aan b _ _ hk).mono ?_;rintro e w2 ⟨rfl,hb2⟩;have hz2:=hb2.size;have kA:=kA.up hb2 (by omega);have kR:=kR.up hb2 (by omega);have hk:=hk.up hb2;have hN:=hN.up hb2;have t1:=t1.up hb2;have hB:=D6 hB1 hb2;clear e0 e1 hB1 hb2;cases hok:bookB b
 ·obtain⟨⟨y0,y1⟩,f0,f1⟩:=kR.c2
  have HA:Hid (AskIs b nm things 1 nobody):=.inl ⟨hok,rfl,rfl⟩;go_wp2_with fail
  refine J3 Tryz.results44 Tryz.underlying33 rfl J0 kR rfl rfl ?_;exact⟨⟨_,_,_,rfl,HA.out,AdL _ _⟩,F9 hB (Nat.le_succ _) _ _⟩
 obtain⟨e0,e1⟩:=kA.c2';go_wp2_with fail
 refine (Adj b _ _ hk (O4 hok)).mono ?_;rintro e w3 ⟨⟨xv,rfl,hX⟩,hb3⟩;obtain⟨a3,c3,a4,c4,ps,rfl,x1,x2,x3⟩:=hX.parts;have hz3:=hb3.size;have kA:=kA.up hb3 (by omega);have kR:=kR.up hb3 (by omega);have hk:=hk.up hb3;have hN:=hN.up hb3;have t1:=t1.up hb3;have hB:=D6 hB hb3;clear e0 e1 hb3 hX;go_upto_region 4 with fail
 obtain⟨W4,hW4,kX,hb4,hs4⟩:=K9 w3 [.slice a3 b.things.length c3,.slice a4 b.bs.length c4] 33;rw[hW4];clear hW4;have kA:=kA.up hb4 (by omega);have kR:=kR.up hb4 (by omega);have hk:=hk.up hb4;have hN:=hN.up hb4;have t1:=t1.up hb4;have hB:=D6 hB hb4;have X1:=x1;have X2:=x2;have hL:=hb4;clear hb4 x1 x2;obtain⟨e0,e1⟩:=kA.c2';go_wp2_with fail
 refine (Abn b _ nm _ hk).mono ?_;rintro e w5 ⟨rfl,hb5⟩;have hz5:=hb5.size;have kA:=kA.up hb5 (by omega);have kR:=kR.up hb5 (by omega);have kX:=kX.up hb5 (by omega);have hk:=hk.up hb5;have hN:=hN.up hb5;have hB:=D6 hB hb5;have hL:=D6 hL hb5;have HOK:Hid (bookB b=true):=hok;clear e0 e1 hb5 t1
 have back:∀(W:World),Below w5.heap.size w5 W->BkW ((W.setCell ⟨w.heap.size+1,0,none⟩ (.slice a3 b.things.length c3)).setCell ⟨w.heap.size+1,1,none⟩ (.slice a4 b.bs.length c4)) w.heap.size (.agg #[.slice a3 b.things.length c3,.slice a4 b.bs.length c4]) b:=λW hb=>by
  have hl:=D6 hL hb;exact ((BkW.set (BkW.set ⟨_,_,ps,rfl,X1.up hl,X2.up hl,x3⟩ (by omega)) (by omega)).low (by omega))
 have Hback:Hid (∀(W:World),Below w5.heap.size w5 W->BkW ((W.setCell ⟨w.heap.size+1,0,none⟩ (.slice a3 b.things.length c3)).setCell ⟨w.heap.size+1,1,none⟩ (.slice a4 b.bs.length c4)) w.heap.size (.agg #[.slice a3 b.things.length c3,.slice a4 b.bs.length c4]) b):=back;clear back;cases hm:memS (nms b.bs) nm
 ·have HA:Hid (AskIs b nm things 3 b):=.inr (.inl ⟨hok,hm,rfl,rfl⟩)
  rw[O5 hm];obtain⟨⟨y0,y1⟩,f0,f1⟩:=kR.c2;obtain⟨⟨z0,z1⟩,-⟩:=kX.c2;go_wp2_with fail
  refine J3 Tryz.results44 Tryz.underlying33 rfl J0 kR rfl rfl ?_;exact⟨⟨_,_,_,rfl,HA.out,Hback.out _ (A4 _ _)⟩,F9 hB (Nat.le_succ _) _ _⟩
 obtain⟨hidx,hlt⟩:=T8 hm;rw[hidx];have HA2:Hid (pB (PartOk things (needsAt b nm))=false->AskIs b nm things 2 b):=λh=>.inr (.inr (.inl ⟨hok,hm,h,rfl,rfl⟩));have HA5:Hid (pB (PartOk things (needsAt b nm))=true->Taken b.bs (plN b nm:Int) things->AskIs b nm things 5 b):=λh h2=>.inr (.inr (.inr (.inl ⟨hok,hm,h,h2,rfl,rfl⟩)));have HA6:Hid (pB (PartOk things (needsAt b nm))=true->¬Taken b.bs (plN b nm:Int) things->(∃ss,OrderIs b ss true)->(∃ss,OrderIs (chg b (plN b nm) (askF things)) ss false)->AskIs b nm things 6 b):=λh h2 h3 h4=>.inr (.inr (.inr (.inr (.inl ⟨hok,hm,h,h2,h3,h4,rfl,rfl⟩))));have HA0:Hid (pB (PartOk things (needsAt b nm))=true->¬Taken b.bs (plN b nm:Int) things->((∃ss,OrderIs b ss false)∨∃ss,OrderIs (chg b (plN b nm) (askF things)) ss true)->AskIs b nm things 0 (chg b (plN b nm) (askF things))):=λh h2 h3=>.inr (.inr (.inr (.inr (.inr ⟨hok,hm,h,h2,h3,rfl,rfl⟩))));have Hna:Hid (needsAt b nm=(b.bs[plN b nm]).needs):=V7 (A0 hlt);generalize plN b nm=p at *;obtain⟨s1,s2,s3⟩:=O0 (O4 hok);obtain⟨s4,s5⟩:=s3 b.bs[p] (by simp);have hsx:=hsz.2 b.bs[p] (by simp);obtain⟨-,hpos⟩:=hk.bsOf.at;obtain⟨bb,o,rfl,hS,hbl⟩:=hpos (by omega);obtain⟨a5,d5,a6,d6,-,-,q5,-,l6,-⟩:=(hS.at hlt).cells;have HX0:Hid (b.bs[p]?=some b.bs[p]):=A0 hlt;generalize b.bs[p]=x0 at *;obtain⟨e0,e1⟩:=kA.c2';go_wp2_with fail
 refine (Y6 things x0.needs _ _ _ hN l6).mono ?_;rintro e w6 ⟨rfl,md,hmd⟩;have hb6:Below w5.heap.size w5 w6:=by rw[hmd];exact E8 (A4 _ _) md
 have hz6:=hb6.size;have kA:=kA.up hb6 (by omega);have kR:=kR.up hb6 (by omega);have kX:=kX.up hb6 (by omega);have hN:=hN.up hb6;have hk:=hk.up hb6;have hB:=D6 hB hb6;clear hmd e0 e1 q5 l6 hS hpos;cases hpt:pB (PartOk things x0.needs)
 ·have HA:Hid (AskIs b nm things 2 b):=HA2.out (by rw[Hna.out];exact hpt)
  obtain⟨⟨y0,y1⟩,f0,f1⟩:=kR.c2;obtain⟨⟨z0,z1⟩,-⟩:=kX.c2;go_wp2_with fail
  refine J3 Tryz.results44 Tryz.underlying33 rfl J0 kR rfl rfl ?_;exact⟨⟨_,_,_,rfl,HA.out,Hback.out _ hb6⟩,F9 hB (Nat.le_succ _) _ _⟩
 have Hpt:Hid (pB (PartOk things (needsAt b nm))=true):=by show _=_;rw[Hna.out];exact hpt
 have Hpart:Hid (PartOk things x0.needs):=F8.1 hpt;clear hpt HA2;obtain⟨e0,e1⟩:=kA.c2';go_wp2_with fail
 refine (Aid b _ _ p things _ hk hN).mono ?_;rintro e w7 ⟨rfl,hb7⟩;have hz7:=hb7.size;have kA:=kA.up hb7 (by omega);have kR:=kR.up hb7 (by omega);have kX:=kX.up hb7 (by omega);have hN:=hN.up hb7;have hk:=hk.up hb7;have hB:=D6 hB hb7;have hb57:=D6 hb6 hb7;clear e0 e1 hb6 hb7;cases htk:pB (Taken b.bs (p:Int) things)
 case true =>
  have HA:Hid (AskIs b nm things 5 b):=HA5.out Hpt.out (F8.1 htk);obtain⟨⟨y0,y1⟩,f0,f1⟩:=kR.c2;obtain⟨⟨z0,z1⟩,-⟩:=kX.c2;go_wp2_with fail
  refine J3 Tryz.results44 Tryz.underlying33 rfl J0 kR rfl rfl ?_;exact⟨⟨_,_,_,rfl,HA.out,Hback.out _ hb57⟩,F9 hB (Nat.le_succ _) _ _⟩
 have Htk:Hid (¬Taken b.bs (p:Int) things):=J4.1 htk;clear htk HA5;obtain⟨e0,e1⟩:=kA.c2';go_wp2_with fail
 refine (Ac8 b _ _ hk (by omega) (by omega) (λy hy=>by have:=s3 y hy;omega)).mono ?_;rintro e w8 ⟨⟨tu,bu,qs,rfl,y1,y2,y3,-,ynn⟩,hb8⟩;have kA0:=kA;have kR0:=kR;have kX0:=kX;have hk0:=hk;have hN0:=hN;have hB0:=hB;obtain⟨a7,c7,rfl⟩:=y1.lst.shape;have hqs:qs.length=b.bs.length:=by rw[← y3,B4]
 obtain⟨g,c8,hgp⟩:=F4 y2.1 (by omega);rw[hqs] at hgp;subst hgp;have hz8:=hb8.size;have kA:=kA.up hb8 (by omega);have kR:=kR.up hb8 (by omega);have kX:=kX.up hb8 (by omega);have hN:=hN.up hb8;have hk:=hk.up hb8;have hB:=D6 hB hb8;have hb58:=D6 hb57 hb8;have hb78:=hb8;have kA7:=kA0;have kR7:=kR0;have kX7:=kX0;have hk7:=hk0;have hN7:=hN0;have hB7:=hB0;have hg8:=y2.1.lt g rfl;have hb57k:=hb57;clear e0 e1 hb57 hb8;go_upto_region 12 with fail
 obtain⟨W9,hW9,kY,hb9,hs9⟩:=K9 w8 [.slice a7 b.things.length c7,.slice (some ⟨g,0,none⟩) b.bs.length c8] 33;rw[hW9];clear hW9
 obtain⟨⟨x0',hv0,nv0⟩,hpv,hpx⟩:∃pv:Bv,qs[p]?=some pv/\pv.1=x0:=by
  have h:=HX0.out;rw[← y3,B0,B5] at h;exact h
 obtain rfl:x0'=x0:=hpx;have hx8:=y2.2 _ (A6 hpv);have Hnn0:Hid (NN hv0):=ynn _ (A6 hpv);have Hqv:Hid (qs[p]?=some (x0',hv0,nv0)):=hpv;have row8:=y2.1;rw[hqs] at row8
 have hset0:qs.set p (x0',hv0,nv0)=qs:=List.ext_getElem? λj=>by
  rw[List.getElem?_set];by_cases e:p=j
  ·subst e;rw[if_pos rfl,if_pos (by omega),hpv]
  ·rw[if_neg e]
 have hb79:Below w7.heap.size w7 W9:=hb78.trans (hb9.mono hz8);have hgo:(Value.slice (some ⟨g,0,none⟩) b.bs.length c8).ownBlock=some g:=rfl;have hpn:=N8 Hpart.out;obtain⟨-,-,hposN⟩:=hN7.inv;have Hxn:Hid (x0'.nm.size<=maxLen):=hx8.2.2;clear kA kR kX hN hk hB hpv ynn;go_wp2_with fail
 go_loopw [11] (λi w'=>∃(k:Nat) (hv:Value),k<=things.length/\i=.int .i64 k/\w'.ownsRow w7.heap.size 128 3 (.slice (some ⟨g,0,none⟩) b.bs.length c8) b.bs.length (rowsB (qs.set p ((⟨x0'.nm,insAll x0'.has (things.take k),x0'.needs⟩,hv,nv0):Bv)))/\OwnT w' w7.heap.size hv (insAll x0'.has (things.take k))/\NN hv/\
   (∀q∈qs,OwnT w' w7.heap.size q.2.1 q.1.has/\OwnT w' w7.heap.size q.2.2 q.1.needs/\q.1.nm.size<=maxLen)/\CB w' w8.heap.size [.slice a7 b.things.length c7,.slice (some ⟨g,0,none⟩) b.bs.length c8]/\OwnT w' w7.heap.size (.slice a7 b.things.length c7) b.things/\Below w7.heap.size w7 w') (λi _=>things.length-(intOf i).toNat)
 case atStart=>exact⟨0,hv0,by omega,rfl,by rw[show (⟨x0'.nm,insAll x0'.has (things.take 0),x0'.needs⟩:Ba)=x0' from rfl,hset0];exact E1 row8 hb9,hx8.1.up hb9,Hnn0.out,λq hq=>by
   obtain⟨q1,q2,q3⟩:=y2.2 q hq;exact⟨q1.up hb9,q2.up hb9,q3⟩,kY,y1.up hb9,hb79⟩
 case round =>
  clear kY hb9 hb79 row8 hx8 y1 y2 hset0 hs9;obtain⟨k,hv,hk,rfl,row,hoh,hnn,hlists,kY,hot,hBk⟩:=hrel;obtain⟨gh,nh,ch,rfl⟩:=hnn;by_cases hp:k<things.length
  ·obtain⟨tb,tof,rfl,hST,htl⟩:=hposN (by omega)
   have cT:=(hBk.cell (p:=⟨tb,tof+k,none⟩) htl).trans (hST.cell hp);have HI:Hid (insAll x0'.has (things.take (k+1))=insL (insAll x0'.has (things.take k)) things[k]):=Ah0 _ _ _ hp;have hil:(insAll x0'.has (things.take k)).length<=1000:=B1 (Ack _ _) (by rw[B7];omega);generalize things[k]=s0 at *;have hT:=hoh.txt ⟨_,_,_,rfl⟩;generalize insAll x0'.has (things.take k)=is at *;have hset:(qs.set p ((⟨x0'.nm,is,x0'.needs⟩,.slice (some ⟨gh,0,none⟩) nh ch,nv0):Bv))[p]?=some (⟨x0'.nm,is,x0'.needs⟩,.slice (some ⟨gh,0,none⟩) nh ch,nv0):=by rw[List.getElem?_set,if_pos rfl,if_pos (by omega)]
   have r1:=(row.cellAt (p*3+1) (by omega)).trans (K5 _ p _ hset 1 _ rfl);obtain⟨⟨z0,z1⟩,-⟩:=kY.c2;have hyl:=kY.2.2;have hgl:=(row.lt g rfl).2;have htl2:=A1 htl hBk.size;have mk:∀W,Below wr.heap.size wr W->World.cell? W ⟨w8.heap.size,1,none⟩=some (.slice (some ⟨g,0,none⟩) b.bs.length c8)/\World.cell? W ⟨g,p*3+1,none⟩=some (.slice (some ⟨gh,0,none⟩) nh ch)/\World.cell? W ⟨tb,tof+k,none⟩=some (.string s0):=λW hb=>⟨(hb.cell (p:=⟨w8.heap.size,1,none⟩) hyl).trans z1,(hb.cell (p:=⟨g,p*3+1,none⟩) hgl).trans r1,(hb.cell (p:=⟨tb,tof+k,none⟩) htl2).trans cT⟩;have Mk:Hid (∀W,Below wr.heap.size wr W->World.cell? W ⟨w8.heap.size,1,none⟩=some (.slice (some ⟨g,0,none⟩) b.bs.length c8)/\World.cell? W ⟨g,p*3+1,none⟩=some (.slice (some ⟨gh,0,none⟩) nh ch)/\World.cell? W ⟨tb,tof+k,none⟩=some (.string s0)):=mk;have hbd:Below wr.heap.size wr wr.drew:=(A4 _ _).drew;have hS1:=mk _ hbd;clear mk z0 z1 r1 cT;go_wp2_with fail
   refine F5 16 (λw'=>World.cell? w' ⟨w8.heap.size,1,none⟩=some (.slice (some ⟨g,0,none⟩) b.bs.length c8)/\World.cell? w' ⟨g,p*3+1,none⟩=some (.slice (some ⟨gh,0,none⟩) nh ch)/\World.cell? w' ⟨tb,tof+k,none⟩=some (.string s0)) (by kernel_rfl) ?_;refine tkx 0 rfl hS1 ?_;refine tkx 1 rfl hS1 ?_;refine tkx 2 rfl hS1 ?_;refine tkx 3 rfl hS1 ?_;refine tkx 4 rfl hS1 ?_;refine tkx 5 rfl hS1 ?_;refine tkx 6 rfl hS1 ?_;refine tkx 7 rfl hS1 ?_;refine tkx 8 rfl hS1 ?_;refine tkx 9 rfl hS1 ?_;refine tkx 10 rfl hS1 ?_;refine tkx 11 rfl hS1 ?_;refine tkx 12 rfl hS1 ?_;refine D8 (i:=13) (by kernel_rfl) rfl (λK hK=>?_);go_simp
   go_wp2_with (go_at_call 87;refine (AgW is _ s0 _ (hT.up hbd) hil).mono ?_;rintro e wi ⟨⟨u,rfl,hTu,hor⟩,hbi⟩;have hbi:=D6 hbd hbi;have hSi:=Mk.out _ hbi)
   obtain⟨gu,cu,hgu,-⟩:=id hTu;subst hgu
   have hou:OwnT wi w7.heap.size (.slice (some ⟨gu,0,none⟩) (insL is s0).length cu) (insL is s0):=by
    rcases hor with⟨h1,h2⟩|h
    ·rw[h1,h2];exact hoh.up hbi
    ·exact G4 h (by have:=hBk.size;simpa using this)
   have rowi:=E1 row hbi;have f1:=rowi.frozenAt (p*3+1);have r1:=hSi.2.1;clear hor hTu hT hoh;refine hK.out _ _ (λ_=>hSi) ?_;clear hK K;refine D8 (i:=14) (by kernel_rfl) rfl (λK hK=>?_);go_simp
   refine hK.out _ _ (λ_=>hSi) ?_;clear hK K;refine tkx 15 rfl hSi ?_;refine D8 (i:=16) (by kernel_rfl) rfl (λK hK=>?_);go_simp
   refine hK.out _ _ (λh=>absurd rfl h) ?_;clear hK K;refine F0 (by kernel_rfl) ?_ _;have st:=rowi.stored (p*3+1) (.slice (some ⟨gu,0,none⟩) (insL is s0).length cu);rw[Ac9 _ p _ _ ⟨x0'.nm,insL is s0,x0'.needs⟩ hset rfl,List.set_set] at st;have gr:=st.2;have Hst:=st.1
   have HL:Hid (∀q∈qs,OwnT (wi.setCell ⟨g,p*3+1,none⟩ (.slice (some ⟨gu,0,none⟩) (insL is s0).length cu)) w7.heap.size q.2.1 q.1.has/\OwnT (wi.setCell ⟨g,p*3+1,none⟩ (.slice (some ⟨gu,0,none⟩) (insL is s0).length cu)) w7.heap.size q.2.2 q.1.needs/\q.1.nm.size<=maxLen):=λq hq=>by
    obtain⟨q1,q2,q3⟩:=hlists q hq;exact⟨M0 (q1.up hbi) rowi (hgo ▸ gr),M0 (q2.up hbi) rowi (hgo ▸ gr),q3⟩
   have hou2:=M0 hou rowi (hgo ▸ gr);have hot2:=M0 (hot.up hbi) rowi (hgo ▸ gr);have kY2:=(kY.up hbi hyl).kept gr (by simp;omega);have hB2:Below w7.heap.size w7 (wi.setCell ⟨g,p*3+1,none⟩ (.slice (some ⟨gu,0,none⟩) (insL is s0).length cu)):=(hBk.trans (hbi.mono hBk.size)).setCell (p:=⟨g,p*3+1,none⟩) hg8.1 _;clear st gr rowi row hou hot kY hlists hS1 hSi r1 f1 Mk hset hbd hbi hBk;go_wp2_with fail
   go_roundw
   case rel=>exact⟨k+1,.slice (some ⟨gu,0,none⟩) (insL is s0).length cu,by omega,by go_num,by rw[HI.out];exact Hst,by rw[HI.out];exact hou2,⟨_,_,_,rfl⟩,HL.out,kY2,hot2,hB2⟩
   case measure=>simp[intOf];omega
  ·obtain rfl:k=things.length:=by omega
   rw[List.take_length] at row hoh
   have hW:BsW wr w7.heap.size (.slice (some ⟨g,0,none⟩) b.bs.length c8) (qs.set p ((askF things x0',.slice (some ⟨gh,0,none⟩) nh ch,nv0):Bv)):=Ago row rfl (by rw[List.length_set,hqs]) (λq hq=>by
    rcases List.mem_or_eq_of_mem_set hq with h|rfl
    ·exact hlists q h
    ·exact⟨hoh,(hlists _ (A6 Hqv.out)).2.1,Hxn.out⟩)
   have hmap:(qs.set p ((askF things x0',.slice (some ⟨gh,0,none⟩) nh ch,nv0):Bv)).map (·.1)=b.bs.set p (askF things x0'):=by rw[List.map_set,y3]
   have hmem':∀y∈b.bs.set p (askF things x0'),y∈b.bs∨y=askF things x0':=λy hy=>List.mem_or_eq_of_mem_set hy;have hbk':BkW wr w7.heap.size (.agg #[.slice a7 b.things.length c7,.slice (some ⟨g,0,none⟩) b.bs.length c8]) ⟨b.things,b.bs.set p (askF things x0')⟩:=⟨_,_,_,rfl,hot,hW,hmap⟩
   have hbv:=hbk'.bk ⟨hsz.1,λy hy=>by
    rcases hmem' y hy with h|rfl
    ·exact hsz.2 y h
    ·exact⟨λs hs=>by
      rcases Acl _ _ s hs with h|h
      ·exact hsx.1 s h
      ·exact hNz s h,hsx.2⟩⟩
   have Hcopy:Hid (∀(v:Value) (w:World),BkV w v ⟨b.things,b.bs.set p (askF things x0')⟩->Calls Tryz.prog 42 #[v] w λe w'=>(∃v',e=.returned v'/\BkW w' w.heap.size v' ⟨b.things,b.bs.set p (askF things x0')⟩)/\Below w.heap.size w w'):=λv w h=>U7 _ v w h (by show b.things.length<=100;omega) (by show (b.bs.set p (askF things x0')).length<=100;rw[List.length_set];omega) (λy hy=>by
    rcases hmem' y hy with h|rfl
    ·have:=s3 y h;omega
    ·have h1:=Ack x0'.has things
     show (insAll x0'.has things).length<=100/\x0'.needs.length<=100
     omega)
   have Hch:Hid (chg b p (askF things)=⟨b.things,b.bs.set p (askF things x0')⟩):=Abb HX0.out;rw[Hch.out] at HA6 HA0;clear hmem' hmap hW hbk' hot hoh hlists row Hqv HX0;generalize (⟨b.things,b.bs.set p (askF things x0')⟩:Bk)=b' at *;have kA:=kA7.up hBk (by omega);have kR:=kR7.up hBk (by omega);have kX:=kX7.up hBk (by omega);have hk:=hk7.up hBk;have hB:=D6 hB7 hBk;have hb5r:Below w5.heap.size w5 wr:=D6 hb57k hBk;clear kA7 kR7 kX7 hk7 hB7;obtain⟨e0,e1⟩:=kA.c2';go_wp2_with fail
   refine (Abo b _ _ hk).mono ?_;rintro e wa ⟨⟨ss,ok,rfl,hord⟩,hba⟩;have kR:=kR.up hba kR.2.2;have kX:=kX.up hba kX.2.2;have kY:=kY.up hba kY.2.2;have hbv:=hbv.up hba;have hB:=D6 hB hba;have hb5r:=D6 hb5r hba;clear e0 e1 hba kA hk;cases ok
   ·have HA:Hid (AskIs b nm things 0 b'):=HA0.out Hpt.out Htk.out (.inl ⟨ss,hord⟩)
    obtain⟨⟨z0,z1⟩,-⟩:=kY.c2;go_wp2_with fail
    refine (Hcopy.out _ _ hbv).mono ?_;rintro e w12 ⟨⟨v',rfl,hV⟩,hb12⟩;obtain⟨a10,c10,a11,c11,qs',rfl,-⟩:=hV.parts;have kR12:=kR.up hb12 kR.2.2;have hrl:=kR.2.2;have hB12:=D6 hB hb12;clear z0 z1;obtain⟨⟨y0,y1⟩,f0,f1⟩:=kR12.c2;go_wp2_with fail
    refine J3 Tryz.results44 Tryz.underlying33 rfl J0 kR12 rfl rfl ?_;exact⟨⟨_,_,_,rfl,HA.out,((BkW.set (BkW.set hV hrl) hrl).low (by have:=hB.size;omega))⟩,F9 hB12 (Nat.le_succ _) _ _⟩
   ·obtain⟨⟨z0,z1⟩,-⟩:=kY.c2
    go_wp2_with fail
    refine (Abo b' _ _ hbv).mono ?_;rintro e wb ⟨⟨ss2,ok2,rfl,hord2⟩,hbb⟩;have kR:=kR.up hbb kR.2.2;have kX:=kX.up hbb kX.2.2;have kY:=kY.up hbb kY.2.2;have hbv:=hbv.up hbb;have hB:=D6 hB hbb;have hb5r:=D6 hb5r hbb;clear z0 z1 hbb;cases ok2
    ·have HA:Hid (AskIs b nm things 6 b):=HA6.out Hpt.out Htk.out ⟨ss,hord⟩ ⟨ss2,hord2⟩
     obtain⟨⟨y0,y1⟩,f0,f1⟩:=kR.c2;obtain⟨⟨z0,z1⟩,-⟩:=kX.c2;go_wp2_with fail
     refine J3 Tryz.results44 Tryz.underlying33 rfl J0 kR rfl rfl ?_;exact⟨⟨_,_,_,rfl,HA.out,Hback.out _ hb5r⟩,F9 hB (Nat.le_succ _) _ _⟩
    ·have HA:Hid (AskIs b nm things 0 b'):=HA0.out Hpt.out Htk.out (.inr ⟨ss2,hord2⟩)
     obtain⟨⟨z0,z1⟩,-⟩:=kY.c2;go_wp2_with fail
     refine (Hcopy.out _ _ hbv).mono ?_;rintro e w12 ⟨⟨v',rfl,hV⟩,hb12⟩;obtain⟨a10,c10,a11,c11,qs',rfl,-⟩:=hV.parts;have kR12:=kR.up hb12 kR.2.2;have hrl:=kR.2.2;have hB12:=D6 hB hb12;clear z0 z1;obtain⟨⟨y0,y1⟩,f0,f1⟩:=kR12.c2;go_wp2_with fail
     refine J3 Tryz.results44 Tryz.underlying33 rfl J0 kR12 rfl rfl ?_;exact⟨⟨_,_,_,rfl,HA.out,((BkW.set (BkW.set hV hrl) hrl).low (by have:=hB.size;omega))⟩,F9 hB12 (Nat.le_succ _) _ _⟩
def Tiny (b:Bk):Prop:=b.things.length<=40/\b.bs.length<=40/\∀x∈b.bs,x.has.length<=40/\x.needs.length<=40
theorem Ab9:Tiny nobody:=⟨by simp[nobody],by simp[nobody],λx hx=>by simp[nobody] at hx⟩
theorem AmR {b:Bk} {nm:ByteArray} (hz:Szb b) (ht:Tiny b):Szb (leaveB b nm)/\Tiny (leaveB b nm):=by
 cases hok:bookB b
 ·rw[(Ach hok).2];exact⟨Aau,Ab9⟩
 ·cases h3:memS (nms b.bs) nm
  ·rw[(AaK hok h3).2];exact⟨hz,ht⟩
  ·rw[(Abz hok h3).2]
   have hm:∀y∈b.bs.take (plN b nm)++b.bs.drop (plN b nm+1),y∈b.bs:=λy hy=>by
    rcases D1.1 hy with h|h
    ·exact List.mem_of_mem_take h
    ·exact List.mem_of_mem_drop h
   have h2:=ht.2.1;exact⟨⟨hz.1,λy hy=>hz.2 y (hm y hy)⟩,ht.1,by simp;omega,λy hy=>ht.2.2 y (hm y hy)⟩
theorem Al2 {b:Bk} {p:Nat} {f:Ba->Ba} (hz:Szb b) (ht:Tiny b) (hf:∀x∈b.bs,((∀s∈(f x).has,s.size<=maxLen)/\∀s∈(f x).needs,s.size<=maxLen)/\(f x).has.length<=40/\(f x).needs.length<=40):Szb (chg b p f)/\Tiny (chg b p f):=by
 cases hx:b.bs[p]? with
 | none=>simp only[chg,hx];exact⟨hz,ht⟩
 | some x =>
  rw[Abb hx];have hm:=A6 hx;refine⟨⟨hz.1,λy hy=>?_⟩,ht.1,by rw[List.length_set];exact ht.2.1,λy hy=>?_⟩
  ·rcases List.mem_or_eq_of_mem_set hy with h|rfl
   ·exact hz.2 y h
   ·exact (hf x hm).1
  ·rcases List.mem_or_eq_of_mem_set hy with h|rfl
   ·exact ht.2.2 y h
   ·exact (hf x hm).2
theorem Ad9 {b:Bk} {nm:ByteArray} (h:bookB b=true):(needsAt b nm).length<=8:=by
 obtain⟨s1,s2,s3⟩:=O0 (O4 h);cases hx:b.bs[plN b nm]? with
 | none=>simp[needsAt,hx]
 | some x=>rw[V7 hx];exact (s3 x (A6 hx)).2
theorem Aod {b:Bk} {nm:ByteArray} {needs:List ByteArray} (hz:Szb b) (ht:Tiny b) (hn:∀s∈needs,s.size<=maxLen):Szb (lsnB b nm needs)/\Tiny (lsnB b nm needs):=by
 cases hok:bookB b
 ·rw[(AbO hok).2];exact⟨Aau,Ab9⟩
 ·cases h3:memS (nms b.bs) nm
  ·rw[(Aa9 hok h3).2];exact⟨hz,ht⟩
  ·cases h2:pB (PartOk needs (needsAt b nm))
   ·rw[(Abc hok h3 h2).2];exact⟨hz,ht⟩
   ·rw[(Abd hok h3 h2).2]
    exact Al2 hz ht λx hx=>⟨⟨λs hs=>(hz.2 x hx).1 s (List.mem_filter.1 hs).1,hn⟩,B1 (List.length_filter_le _ _) (ht.2.2 x hx).1,by have:=N8 (F8.1 h2);have:=Ad9 (nm:=nm) hok;show needs.length<=40;omega⟩
theorem ask_dk {b b':Bk} {nm:ByteArray} {things:List ByteArray} {cd:Int} (h:AskIs b nm things cd b') (hz:Szb b) (ht:Tiny b) (hn:∀s∈things,s.size<=maxLen):Szb b'/\Tiny b':=by
 have hlast:bookB b=true->pB (PartOk things (needsAt b nm))=true->Szb (chg b (plN b nm) (askF things))/\Tiny (chg b (plN b nm) (askF things)):=λhok hp=>by
  obtain⟨s1,s2,s3⟩:=O0 (O4 hok);have hl1:=N8 (F8.1 hp);have hl2:=Ad9 (nm:=nm) hok
  exact Al2 hz ht λx hx=>⟨⟨λs hs=>by
   rcases Acl _ _ s hs with h|h
   ·exact (hz.2 x hx).1 s h
   ·exact hn s h,(hz.2 x hx).2⟩,B1 (Ack x.has things) (by have:=s3 x hx;omega),(ht.2.2 x hx).2⟩
 rcases h with⟨_,_,rfl⟩|⟨_,_,_,rfl⟩|⟨_,_,_,_,rfl⟩|⟨_,_,_,_,_,rfl⟩|⟨_,_,_,_,_,_,_,rfl⟩|⟨hok,_,hp,_,_,_,rfl⟩
 ·exact⟨Aau,Ab9⟩
 ·exact⟨hz,ht⟩
 ·exact⟨hz,ht⟩
 ·exact⟨hz,ht⟩
 ·exact⟨hz,ht⟩
 ·exact hlast hok hp
def AskAt (h:House) (k:Nat) (h':House):Prop:=∃x,h.bs[k]?=some x/\((0<=x.si/\h'=h)∨(x.si<0/\∃cd b',AskIs h.sh x.nm (rbOwn x) cd b'/\((cd≠0/\h'=h)∨(cd=0/\h'={h with sh:=b',bs:=h.bs.set k {x with si:=0}}))))
def AsksTo (h:House):Nat->House->Prop
 | 0,h'=>h'=h
 | k+1,h'=>∃m,AsksTo h k m/\AskAt m k h'
theorem AskAt.same {h h':House} {k:Nat} (H:AskAt h k h'):h'.now=h.now/\h'.last=h.last/\h'.ds=h.ds/\h'.bs.length=h.bs.length:=by
 obtain⟨x,hx,⟨-,rfl⟩|⟨-,cd,b',-,⟨-,rfl⟩|⟨-,rfl⟩⟩⟩:=H
 ·exact⟨rfl,rfl,rfl,rfl⟩
 ·exact⟨rfl,rfl,rfl,rfl⟩
 ·exact⟨rfl,rfl,rfl,by simp⟩
theorem AsksTo.same {h:House}:∀{k:Nat} {h':House},AsksTo h k h'->h'.now=h.now/\h'.last=h.last/\h'.ds=h.ds/\h'.bs.length=h.bs.length
 | 0,_,e=>by cases e;exact⟨rfl,rfl,rfl,rfl⟩
 | k+1,_,⟨m,hm,ha⟩=>by
  obtain⟨a1,a2,a3,a4⟩:=ha.same;obtain⟨b1,b2,b3,b4⟩:=AsksTo.same hm;exact⟨a1.trans b1,a2.trans b2,a3.trans b3,a4.trans b4⟩
theorem Adk (x:Rb):(rbOwn x).length<=100:=by
 by_cases hk:RbOk x
 ·rw[Ac2 hk]
  have:=AaX x.sl (ofL (phOf x.ps x.ad));have:=AiM (phOf x.ps x.ad);omega
 ·rw[Ac3 hk];simp
theorem U8 {ps:List Ph} (h:recB ps=true) (nm:ByteArray):(slE ps nm).length<=24:=by
 have:=Aay ps nm;have:=((J8 ps).1 h).2.1;omega
def cut20 (l:List Done):List Done:=if 20<l.length then l.drop 1 else l
noncomputable def onH (h:House) (k:Nat) (nm:ByteArray):House:=match h.bs[k]? with
 | none=>h
 | some x=>if endN nm=0 then {h with sh:=lsnB h.sh x.nm (thE x.sl (slE x.ps nm)),bs:=h.bs.set k {x with ad:=nm,si:=-1}}
  else {h with sh:=leaveB h.sh x.nm,bs:=h.bs.take k++h.bs.drop (k+1),ds:=cut20 (h.ds++[⟨x.nm,endN nm,h.now⟩])}
noncomputable def lateAt (h:House) (k:Nat):House:=match h.bs[k]? with
 | none=>h
 | some x=>if (phOf x.ps x.ad).wi<=x.si then onH h k (phOf x.ps x.ad).e else h
noncomputable def lateTo (h:House):Nat->House
 | 0=>h
 | k+1=>lateTo (lateAt h k) k
def tickB (x:Rb):Rb:=if 0<=x.si then {x with si:=x.si+1} else x
def tickH (h:House):House:={h with now:=h.now+1,bs:=h.bs.map tickB}
end Go.Proofs.YtebfdccbmmpceaaGreatDoor
