/- slices.Sort at names, slices.Equal (the program's chapter 22). -/
import Derived.Test.YtebfdccbmmpceaaGreatDoorJ1
import Derived.Test.YtebfdccbmmpceaaGreatDoorJ15
import Derived.Shelf.Sort.AssemblysIn
import Derived.Sort.EveryDepth
import Derived.Test.YtebfdccbmmpceaaGreatDoorJ23
import Derived.Test.YtebfdccbmmpceaaGreatDoorJ2
set_option maxRecDepth 20000
set_option maxHeartbeats 4000000
namespace Go.Proofs.YtebfdccbmmpceaaGreatDoor
open Go.RowKit Go.Shelf
theorem Alp (sa sb:List ByteArray) (n m:Nat) (a1 a2:Option Addr) (c1 c2:Nat) (w:World) (Hn:Hid (sa.length=n)) (Hm:Hid (sb.length=m)) (hn9:n<=maxLen) (hpa:0<n->∃b o,a1=some ⟨b,o,none⟩/\StrsAt w b o sa/\b<w.heap.size) (hpb:0<m->∃b o,a2=some ⟨b,o,none⟩/\StrsAt w b o sb/\b<w.heap.size) :
  Calls Tryz.prog 158 #[.slice a1 n c1,.slice a2 m c2] w λe w'=>e=.returned (.bool (pB (sa=sb)))/\Below w.heap.size w w':=by
 unfold maxLen at hn9;by_cases hll:n=m
 case neg =>
  have HN:Hid (pB (sa=sb)=false):=F3 λe=>hll (by rw[← Hn.out,← Hm.out,e]);go_enter Tryz.func158,Tryz.ntmps158
  go_wp2_with fail
  go_ret
  exact⟨D7 HN.out.symm,A4 _ _⟩
 subst hll;go_enter Tryz.func158,Tryz.ntmps158
 go_wp2_with fail
 go_loopw [5,13] (λ_ i w'=>∃k:Nat,k<=n/\i=.int .i64 k/\(∀i,i<k->sa[i]?=sb[i]?)/\Below w.heap.size w w') (λ_ i _=>n-(intOf i).toNat)
 case atStart=>exact⟨0,by omega,rfl,λi hi=>by omega,A4 _ _⟩
 case round =>
  obtain⟨k,hk,rfl,hal,hB⟩:=hrel;have Hal:Hid (∀i,i<k->sa[i]?=sb[i]?):=hal;clear hal;by_cases hp:k<n
  ·obtain⟨b1,o1,rfl,hS1,hb1⟩:=hpa (by omega)
   obtain⟨b2,o2,rfl,hS2,hb2⟩:=hpb (by omega);have h1:k<sa.length:=by have:=Hn.out;omega
   have h2:k<sb.length:=by have:=Hm.out;omega
   have e1:=(hB.cell (p:=⟨b1,o1+k,none⟩) hb1).trans (hS1 k sa[k] (A0 h1));have e2:=(hB.cell (p:=⟨b2,o2+k,none⟩) hb2).trans (hS2 k sb[k] (A0 h2))
   have N1:Hid (((sa[k]).toList==(sb[k]).toList)=false->¬sa=sb):=λhq e=>by
    subst e;simp at hq
   have N2:Hid (((sa[k]).toList==(sb[k]).toList)=true->∀i,i<k+1->sa[i]?=sb[i]?):=λhq i hi=>by
    rcases Nat.lt_or_ge i k with h'|h'
    ·exact Hal.out i h'
    ·obtain rfl:i=k:=by omega
     have e:sa[i]=sb[i]:=Aac (by simpa using hq);rw[A0 h1,A0 h2,e]
   generalize sa[k]=s1 at *;generalize sb[k]=s2 at *;clear hS1 hS2;cases hq:(s1.toList==s2.toList)
   ·have HN:Hid (pB (sa=sb)=false):=F3 (N1.out hq)
    go_wp2_with fail
    go_quiet (fail)
    go_wp2_with fail
    go_ret
    exact⟨D7 HN.out.symm,E8 hB _⟩
   ·have HY:Hid (∀i,i<k+1->sa[i]?=sb[i]?):=N2.out hq
    go_wp2_with fail
    go_quiet (fail)
    go_wp2_with fail
    go_roundw
    case rel=>exact⟨k+1,by omega,by go_num,HY.out,E8 hB _⟩
    case measure=>simp[intOf];omega
  ·have HY:Hid (pB (sa=sb)=true):=I7 (List.ext_getElem? λi=>by
    by_cases hi:i<k
    ·exact Hal.out i hi
    ·rw[C7 (by have:=Hn.out;omega),C7 (by have:=Hm.out;omega)])
   go_wp2_with fail
   go_ret
   exact⟨D7 HY.out.symm,hB⟩
theorem Ae9 (sa sb:List ByteArray) (va vb:Value) (w:World) (ha:Ls w va sa) (hb:Ls w vb sb) :
  Calls Tryz.prog 158 #[va,vb] w λe w'=>e=.returned (.bool (pB (sa=sb)))/\Below w.heap.size w w':=by
 obtain⟨a1,c1,rfl,hn1,-,hp1⟩:=ha;obtain⟨a2,c2,rfl,-,-,hp2⟩:=hb;exact Alp sa sb _ _ a1 a2 c1 c2 w rfl rfl hn1 hp1 hp2
theorem Alq (sa sb:List ByteArray) (n m:Nat) (a1 a2:Option Addr) (c1 c2:Nat) (w:World) (Hn:Hid (sa.length=n)) (Hm:Hid (sb.length=m)) (hn9:n<=maxLen) (hpa:0<n->∃b o,a1=some ⟨b,o,none⟩/\StrsAt w b o sa/\b<w.heap.size) (hpb:0<m->∃b o,a2=some ⟨b,o,none⟩/\StrsAt w b o sb/\b<w.heap.size) :
  Calls Tryz.prog 160 #[.slice a1 n c1,.slice a2 m c2] w λe w'=>e=.returned (.bool (pB (sa=sb)))/\Below w.heap.size w w':=by
 unfold maxLen at hn9;by_cases hll:n=m
 case neg =>
  have HN:Hid (pB (sa=sb)=false):=F3 λe=>hll (by rw[← Hn.out,← Hm.out,e]);go_enter Tryz.func160,Tryz.ntmps160
  go_wp2_with fail
  go_ret
  exact⟨D7 HN.out.symm,A4 _ _⟩
 subst hll;go_enter Tryz.func160,Tryz.ntmps160
 go_wp2_with fail
 go_loopw [5,13] (λ_ i w'=>∃k:Nat,k<=n/\i=.int .i64 k/\(∀i,i<k->sa[i]?=sb[i]?)/\Below w.heap.size w w') (λ_ i _=>n-(intOf i).toNat)
 case atStart=>exact⟨0,by omega,rfl,λi hi=>by omega,A4 _ _⟩
 case round =>
  obtain⟨k,hk,rfl,hal,hB⟩:=hrel;have Hal:Hid (∀i,i<k->sa[i]?=sb[i]?):=hal;clear hal;by_cases hp:k<n
  ·obtain⟨b1,o1,rfl,hS1,hb1⟩:=hpa (by omega)
   obtain⟨b2,o2,rfl,hS2,hb2⟩:=hpb (by omega);have h1:k<sa.length:=by have:=Hn.out;omega
   have h2:k<sb.length:=by have:=Hm.out;omega
   have e1:=(hB.cell (p:=⟨b1,o1+k,none⟩) hb1).trans (hS1 k sa[k] (A0 h1));have e2:=(hB.cell (p:=⟨b2,o2+k,none⟩) hb2).trans (hS2 k sb[k] (A0 h2))
   have N1:Hid (((sa[k]).toList==(sb[k]).toList)=false->¬sa=sb):=λhq e=>by
    subst e;simp at hq
   have N2:Hid (((sa[k]).toList==(sb[k]).toList)=true->∀i,i<k+1->sa[i]?=sb[i]?):=λhq i hi=>by
    rcases Nat.lt_or_ge i k with h'|h'
    ·exact Hal.out i h'
    ·obtain rfl:i=k:=by omega
     have e:sa[i]=sb[i]:=Aac (by simpa using hq);rw[A0 h1,A0 h2,e]
   generalize sa[k]=s1 at *;generalize sb[k]=s2 at *;clear hS1 hS2;cases hq:(s1.toList==s2.toList)
   ·have HN:Hid (pB (sa=sb)=false):=F3 (N1.out hq)
    go_wp2_with fail
    go_quiet (fail)
    go_wp2_with fail
    go_ret
    exact⟨D7 HN.out.symm,E8 hB _⟩
   ·have HY:Hid (∀i,i<k+1->sa[i]?=sb[i]?):=N2.out hq
    go_wp2_with fail
    go_quiet (fail)
    go_wp2_with fail
    go_roundw
    case rel=>exact⟨k+1,by omega,by go_num,HY.out,E8 hB _⟩
    case measure=>simp[intOf];omega
  ·have HY:Hid (pB (sa=sb)=true):=I7 (List.ext_getElem? λi=>by
    by_cases hi:i<k
    ·exact Hal.out i hi
    ·rw[C7 (by have:=Hn.out;omega),C7 (by have:=Hm.out;omega)])
   go_wp2_with fail
   go_ret
   exact⟨D7 HY.out.symm,hB⟩
theorem AjB (sa sb:List ByteArray) (va vb:Value) (w:World) (ha:Ls w va sa) (hb:Ls w vb sb) :
  Calls Tryz.prog 160 #[va,vb] w λe w'=>e=.returned (.bool (pB (sa=sb)))/\Below w.heap.size w w':=by
 obtain⟨a1,c1,rfl,hn1,-,hp1⟩:=ha;obtain⟨a2,c2,rfl,-,-,hp2⟩:=hb;exact Alq sa sb _ _ a1 a2 c1 c2 w rfl rfl hn1 hp1 hp2
section
open Go.Sort
theorem AgP (n:Nat) (w:World) (hn:n<4611686018427387904):Calls Tryz.prog 179 #[.int .u64 (n:Int)] w λe w'=>e=.returned (.int .i64 (bitsLen n:Nat))/\w'=w :=
 calls_of_every_depth λD=>Any.lenWalkInSAll (ρ:=Tryz.lays190_ren) {Tryz.lays190 with} D n w hn
theorem AmI (g cap:Nat) (ks:List Key) (w:World) (hH:Holds encStr w g 0 ks.toArray) (hg:g<w.heap.size) (hn:ks.length<=1000) :
  Calls Tryz.prog 178 #[.slice (some ⟨g,0,none⟩) ks.length cap,.int .i64 0,.int .i64 (ks.length:Nat),.int .i64 (bitsLen ks.length:Nat)] w λe w'=>e=.returned (.tuple #[])/\∃n os,w'=grow (putRow encStr (Sort.ahead w n) g 0 (ks.mergeSort λx y=>decide (x<=y)).toArray) os:=by
 have hk:bitsLen ks.length<=62:=(bitsLen_le_iff ks.length 62).2 (by omega);have hdp:=pdqDepth_le_59 ltStr ks.toArray 0 ks.length (bitsLen ks.length) true true (by omega);have h:=calls_of_every_depth λD=>(Any.pdqWalkInStr (ρ:=Tryz.lays190_ren) {Tryz.lays190 with} D) 65 g 0 cap 0 ks.length (bitsLen ks.length) ks.toArray w (by omega) hH hg (Nat.zero_le _) (by simp) (by simp;omega) (by omega) (Or.inl rfl)
 have e:Sort.pdq ltStr ks.toArray 0 ks.length (bitsLen ks.length) true true=(ks.mergeSort λx y=>decide (x<=y)).toArray:=by
  rw[← Any.sort_str_eqD];simp[Sort.sort]
 rw[e] at h;have h3:Calls Tryz.prog 178 _ _ _:=h;simpa using h3
theorem Alr (g cap:Nat) (ks:List Key) (w:World) (hH:Holds encStr w g 0 ks.toArray) (hg:g<w.heap.size) (hn:ks.length<=1000) :
  Calls Tryz.prog 157 #[.slice (some ⟨g,0,none⟩) ks.length cap] w λe w'=>e=.returned (.tuple #[])/\∃n os,w'=grow (putRow encStr (Sort.ahead w n) g 0 (ks.mergeSort λx y=>decide (x<=y)).toArray) os:=by
 have HH:Hid (Holds encStr w g 0 ks.toArray):=hH;clear hH;go_enter Tryz.func157,Tryz.ntmps157
 go_wp2_with (first
  | (go_at_call 179;refine (AgP ks.length _ (by omega)).mono ?_;rintro e w' ⟨rfl,hw⟩;obtain rfl:=hw.symm;clear hw)
  | (go_at_call 178;refine (AmI g cap ks _ HH.out hg hn).mono ?_;rintro e w' ⟨rfl,n,os,rfl⟩))
 go_end0
 exact⟨rfl,n,os,rfl⟩
theorem AjC (p:Option Addr) (cap:Nat) (w:World) :
  Calls Tryz.prog 157 #[.slice p 0 cap] w λe w'=>e=.returned (.tuple #[])/\w'=w:=by
 have hl:=λw=>AgP 0 w (by omega);have e0:bitsLen 0=0:=by decide
 rw[e0] at hl;go_enter Tryz.func157,Tryz.ntmps157
 go_wp2_with (first
  | (go_at_call 179;refine (hl _).mono ?_;rintro e w' ⟨rfl,hw⟩;obtain rfl:=hw.symm;clear hw)
  | (go_at_call 178;refine (calls_of_every_depth λD=>AnyS.pdqsort_string_none_in (ρ:=Tryz.lays190_ren) {Tryz.lays190 with} D p cap w).mono ?_;rintro e w' ⟨rfl,hw⟩;obtain rfl:=hw.symm;clear hw))
 go_end0
 exact⟨rfl,rfl⟩
end
end Go.Proofs.YtebfdccbmmpceaaGreatDoor
namespace Go.Proofs.YtebfdccbmmpceaaGreatDoor
open Go.RowKit
section
open Go.Shelf Go.Sort
theorem AjD {w w1:World} {g cap n nn:Nat} {os:Array Obj} {ks:List Key} (hown:w1.ownsRow w.heap.size 9 1 (.slice (some ⟨g,0,none⟩) n cap) n (ks.map encStr)) (hbel:RowKit.Below w.heap.size w w1) (hlen:ks.length=n) :
  (grow (putRow encStr (Sort.ahead w1 nn) g 0 (ks.mergeSort λx y=>decide (x<=y)).toArray) os).ownsRow w.heap.size 9 1 (.slice (some ⟨g,0,none⟩) n cap) n ((ks.mergeSort λx y=>decide (x<=y)).map encStr)/\
   RowKit.Below w.heap.size w (grow (putRow encStr (Sort.ahead w1 nn) g 0 (ks.mergeSort λx y=>decide (x<=y)).toArray) os):=by
 have hl2:(ks.mergeSort λx y=>decide (x<=y)).length=ks.length:=List.length_mergeSort ks;subst hlen;rcases hown.2 with⟨h0,_⟩|⟨g',cap',cur,hv,hbase,hb,h1,h2,h3,h4⟩
 ·cases h0
 cases hv
 exact⟨ownsRow_sorted (n:=nn) (os:=os) (ts:=ks.mergeSort λx y=>decide (x<=y)) hl2 hbase hb h1 h2 h3,hbel.grown (grownBy_sorted _) hbel.size (λj hj=>by cases hj;exact hbase)⟩
end
theorem AjE (h:House) (tv bv xv dv:Value) (w:World) (H:HV w h tv bv xv dv) (hok:BookOk h.sh) :
  Calls Tryz.prog 130 #[.agg #[.int .i64 h.now,.int .i64 h.last,tv,bv,xv,dv]] w λe w'=>e=.returned (.bool (pB (NamesOk h)))/\Below w.heap.size w w':=by
 obtain⟨a1,c1,a2,c2,a3,c3,a4,c4,rfl,rfl,rfl,rfl⟩:=H.shapes;obtain⟨-,hpos⟩:=H.x.inv rfl;have hb5:h.sh.bs.length<=5:=hok.2.1;have Ha:Hid (Asc (nms h.sh.bs)):=hok.2.2.2.1;have HB:=H.b;clear H hok;obtain⟨ii,hi,iz0,iz1,iz2⟩:=info_parts M1;have hB0:=(A4 w.heap.size w).alloc (A3 _) (.cells #[.int .i64 h.now,.int .i64 h.last,.slice a1 h.sh.things.length c1,.slice a2 h.sh.bs.length c2,.slice a3 h.bs.length c3,.slice a4 h.ds.length c4] 37);have hC:CB (w.alloc (.cells #[.int .i64 h.now,.int .i64 h.last,.slice a1 h.sh.things.length c1,.slice a2 h.sh.bs.length c2,.slice a3 h.bs.length c3,.slice a4 h.ds.length c4] 37)) w.heap.size [.int .i64 h.now,.int .i64 h.last,.slice a1 h.sh.things.length c1,.slice a2 h.sh.bs.length c2,.slice a3 h.bs.length c3,.slice a4 h.ds.length c4]:=E7 w _ _;go_enter Tryz.func130,Tryz.ntmps130
 go_upto_region 1 with fail
 generalize w.alloc (.cells #[.int .i64 h.now,.int .i64 h.last,.slice a1 h.sh.things.length c1,.slice a2 h.sh.bs.length c2,.slice a3 h.bs.length c3,.slice a4 h.ds.length c4] 37)=W1 at *;have hlt:=hC.2.2;obtain⟨d0,d1,d2,d3,d4,d5⟩:=hC.c6;by_cases hll:h.bs.length=h.sh.bs.length
 case neg =>
  have HN:Hid (pB (NamesOk h)=false):=F3 λt=>hll t.1;go_wp2_with fail
  go_ret
  exact⟨D7 HN.out.symm,hB0⟩
 have Hll:Hid (h.bs.length=h.sh.bs.length):=hll;have hx5:h.bs.length<=5:=by omega
 go_upto_region 3 with fail
 clear hll;go_wp2_with fail
 go_loopw [3,5,17] (λu _ i w'=>∃k:Nat,k<=h.bs.length/\i=.int .i64 k/\w'.ownsRow W1.heap.size 9 1 u k ((rnms (h.bs.take k)).map Value.string)/\Below W1.heap.size W1 w') (λ_ _ i _=>h.bs.length-(intOf i).toNat)
 case atStart=>exact⟨0,by omega,rfl,⟨by simp[rnms],.inl ⟨rfl,rfl⟩⟩,A4 _ _⟩
 case round =>
  obtain⟨k,hk,rfl,hown,hB⟩:=hrel;clear d0 d1 d2 d3 d4 d5;by_cases hp:k<h.bs.length
  ·obtain⟨b,o,ha3,hS,hb⟩:=hpos (by omega)
   subst ha3;have hB01:=D6 hB0 hB;obtain⟨p,q,c,g,r,d,⟨e0,e1,e2,e3,e4,e5⟩,-⟩:=((hS.at hp).up hB01 hb).open
   have Hs:Hid ((rnms (h.bs.take (k+1))).map Value.string=(rnms (h.bs.take k)).map Value.string++[.string (h.bs[k]).nm]):=by
    show _=_
    rw[Alg h.bs k hp,List.map_append];rfl
   generalize h.bs[k]=x0 at *;clear hS;have hB1:=hB.alloc hB.size (.cells #[.string x0.nm,.slice (some ⟨p,q,none⟩) x0.ps.length c,.slice (some ⟨g,r,none⟩) x0.sl.length d,.string x0.ad,.int .i64 x0.si,.int .i64 x0.st] 52);have hown1:=E1 hown ((A4 wr.heap.size wr).alloc (A3 _) (.cells #[.string x0.nm,.slice (some ⟨p,q,none⟩) x0.ps.length c,.slice (some ⟨g,r,none⟩) x0.sl.length d,.string x0.ad,.int .i64 x0.si,.int .i64 x0.st] 52));have hX:CB (wr.alloc (.cells #[.string x0.nm,.slice (some ⟨p,q,none⟩) x0.ps.length c,.slice (some ⟨g,r,none⟩) x0.sl.length d,.string x0.ad,.int .i64 x0.si,.int .i64 x0.st] 52)) wr.heap.size [.string x0.nm,.slice (some ⟨p,q,none⟩) x0.ps.length c,.slice (some ⟨g,r,none⟩) x0.sl.length d,.string x0.ad,.int .i64 x0.si,.int .i64 x0.st]:=E7 wr _ _;have hz:=hB.size;go_upto_region 7 with fail
   generalize wr.alloc (.cells #[.string x0.nm,.slice (some ⟨p,q,none⟩) x0.ps.length c,.slice (some ⟨g,r,none⟩) x0.sl.length d,.string x0.ad,.int .i64 x0.si,.int .i64 x0.st] 52)=W2 at *;obtain⟨f0,-⟩:=hX.c6;clear e0 e1 e2 e3 e4 e5 hown hB;have hown2:=E1 hown1 ((A4 W2.heap.size W2).alloc (A3 _) (.cells #[.string x0.nm] 9));have hB2:=hB1.alloc hB1.size (.cells #[.string x0.nm] 9);go_wp2_with (at_builtin;refine wpList_append_own _ rfl _ _ 201 rfl W1.heap.size 9 ii _ 1 16 Tryz.underlying201 hi iz0 iz1 iz2 rfl (by decide) _ _ _ rfl hown2 ⟨W2.heap.size,0,none⟩ 1 1 [.string x0.nm] rfl rfl (Q8 _ _ _) (AaY _) (by unfold maxLen;omega) (by omega) hB2.size ?_)
   intro v1 w1 hown3 hgrow3 _;rw[← Hs.out] at hown3;have hB3:=I3 hB2 hown2 hgrow3 (A3 _);clear hown1 hown2 hgrow3 hB1 hB2 hX f0;go_wp2_with fail
   go_roundw
   case rel=>exact⟨k+1,by omega,by go_num,hown3,hB3⟩
   case measure=>simp[intOf];omega
  ·have hkl:k=h.bs.length:=by omega
   rw[hkl,List.take_length] at hown;clear hkl;have hB01:=D6 hB0 hB
   have hz:∀s∈rnms h.bs,s.size<=maxLen:=λs hs=>by
    obtain⟨x,hx,rfl⟩:=List.mem_map.1 hs;obtain⟨i,hi,rfl⟩:=B6 hx;obtain⟨b,o,rfl,hS,hb⟩:=hpos (by omega);obtain⟨rv,sv,-,hv⟩:=hS.at hi;exact hv.zn
   have HS:=AgA (h:=h) Ha.out Hll.out;have Hsrt:Hid (sorted (keys (rnms h.bs))=keys (nms h.sh.bs)↔NamesOk h):=HS;have Hkl:Hid ((keys (rnms h.bs)).length=h.bs.length):=by show _=_;simp[keys,rnms]
   have Hz:Hid (∀s∈namesOf (sorted (keys (rnms h.bs))),s.size<=maxLen):=λs hs=>by
    have h1:s.toList∈keys (namesOf (sorted (keys (rnms h.bs)))):=U6.2 hs;rw[Aai] at h1;have h2:s.toList∈keys (rnms h.bs):=List.mem_mergeSort.1 h1;exact hz s (U6.1 h2)
   have Hfin:Hid (∀W,Below W1.heap.size W1 W->∀u,Ls W u (namesOf (sorted (keys (rnms h.bs))))->∃x,True):=λ_ _ _ _=>⟨(),trivial⟩
   have Hans:Hid (pB (namesOf (sorted (keys (rnms h.bs)))=nms h.sh.bs)=pB (NamesOk h)):=by
    show _=_
    rw[Bool.eq_iff_iff,F8,F8,← Hsrt.out];constructor
    ·intro e;rw[← e,Aai]
    ·intro e;rw[e];exact Acz _
   clear HS hz Hfin Hsrt;rw[Acy] at hown;obtain⟨d0,d1,d2,d3,d4,d5⟩:=(hC.up hB hlt).c6;by_cases h0:h.bs.length=0
   ·rw[h0] at hown
    obtain⟨ua,uc,hu⟩:=Ae4 hown;subst hu
    have HL:Hid (Ls wr (.slice ua 0 uc) (namesOf (sorted (keys (rnms h.bs))))):=by
     have e:h.bs=[]:=C5.1 h0;show Ls _ _ _
     rw[e];have e2:namesOf (sorted (keys (rnms ([]:List Rb))))=[]:=by simp[rnms,keys,sorted,namesOf]
     rw[e2];exact Ls.nil _ _ _
    have H0:Hid (h.bs.length=0):=h0;clear hown h0;go_wp2_with fail
    refine (AjC _ _ _).mono ?_;rintro e w' ⟨rfl,hw⟩;obtain rfl:=hw.symm;clear hw;go_wp2_with fail
    refine (V6 h.sh.bs _ _ (HB.up hB01) (by omega)).mono ?_;rintro e w3 ⟨⟨u3,rfl,-,hL3⟩,hB3⟩;have hL4:=HL.out.up hB3;clear d0 d1 d2 d3 d4 d5;go_wp2_with fail
    refine (Ae9 _ _ _ _ _ hL4 hL3).mono ?_;rintro e w4 ⟨rfl,hB4⟩;have hB04:=D6 (D6 hB01 hB3) hB4;go_wp2_with fail
    go_ret
    exact⟨D7 Hans.out,hB04⟩
   ·obtain⟨n',hN⟩:∃n,n=h.bs.length:=⟨_,rfl⟩
    have hlen:(keys (rnms h.bs)).length=n':=by rw[Hkl.out,hN]
    rw[← hN] at hown;have hnp:0<n':=by omega
    have hn9:n'<=5:=by omega
    clear hN;obtain⟨g,cap,hug⟩:=F4 hown hnp;subst hug;obtain⟨g',cap',hv,hbg,hgl,hncap,hcm,_,hH⟩:=Lib.holds_of_ownsRow hown (by simp);cases hv
    unfold maxLen at hcm;have hsort:=Alr g cap (keys (rnms h.bs)) wr hH hgl (by omega);rw[hlen] at hsort;go_wp2_with fail
    refine hsort.mono ?_;rintro e w2 ⟨rfl,nn,os,rfl⟩;clear hsort;obtain⟨ho2,hB2⟩:=AjD (nn:=nn) (os:=os) hown hB hlen
    have hL2:Ls (Sort.grow (Sort.putRow encStr (Sort.ahead wr nn) g 0 ((keys (rnms h.bs)).mergeSort λx y=>decide (x<=y)).toArray) os) (.slice (some ⟨g,0,none⟩) n' cap) (namesOf (sorted (keys (rnms h.bs)))):=by
     have hll:(namesOf (sorted (keys (rnms h.bs)))).length=n':=by simp[namesOf,sorted,List.length_mergeSort,hlen]
     rw[Add] at ho2
     have:OwnT (Sort.grow (Sort.putRow encStr (Sort.ahead wr nn) g 0 ((keys (rnms h.bs)).mergeSort λx y=>decide (x<=y)).toArray) os) W1.heap.size (.slice (some ⟨g,0,none⟩) n' cap) (namesOf (sorted (keys (rnms h.bs)))):=by
      unfold OwnT;rw[hll];exact ho2
     exact this.lst.ls Hz.out
    clear ho2 hH;generalize Sort.grow (Sort.putRow encStr (Sort.ahead wr nn) g 0 ((keys (rnms h.bs)).mergeSort λx y=>decide (x<=y)).toArray) os=W2 at *;have hB02:=D6 hB0 hB2;clear d0 d1 d2 d3 d4 d5;obtain⟨d0,d1,d2,d3,d4,d5⟩:=(hC.up hB2 hlt).c6;go_wp2_with fail
    refine (V6 h.sh.bs _ _ (HB.up hB02) (by omega)).mono ?_;rintro e w3 ⟨⟨u3,rfl,-,hL3⟩,hB3⟩;have hL4:=hL2.up hB3;clear d0 d1 d2 d3 d4 d5;go_wp2_with fail
    refine (Ae9 _ _ _ _ _ hL4 hL3).mono ?_;rintro e w4 ⟨rfl,hB4⟩;have hB04:=D6 (D6 hB02 hB3) hB4;go_wp2_with fail
    go_ret
    exact⟨D7 Hans.out,hB04⟩
theorem Als (h:House) (tv bv xv dv:Value) (w:World) (hE:Ends w) (H:HV w h tv bv xv dv) :
  Calls Tryz.prog 131 #[.agg #[.int .i64 h.now,.int .i64 h.last,tv,bv,xv,dv]] w λe w'=>e=.returned (.bool (pB (BatsOk h)))/\Below w.heap.size w w':=by
 obtain⟨a1,c1,a2,c2,a3,c3,a4,c4,rfl,rfl,rfl,rfl⟩:=H.shapes;obtain⟨hmax,hpos⟩:=H.x.inv rfl;unfold maxLen at hmax;clear H;have HE:Hid (Ends w):=hE;clear hE;have hB0:=(A4 w.heap.size w).alloc (A3 _) (.cells #[.int .i64 h.now,.int .i64 h.last,.slice a1 h.sh.things.length c1,.slice a2 h.sh.bs.length c2,.slice a3 h.bs.length c3,.slice a4 h.ds.length c4] 37);have hC:CB (w.alloc (.cells #[.int .i64 h.now,.int .i64 h.last,.slice a1 h.sh.things.length c1,.slice a2 h.sh.bs.length c2,.slice a3 h.bs.length c3,.slice a4 h.ds.length c4] 37)) w.heap.size [.int .i64 h.now,.int .i64 h.last,.slice a1 h.sh.things.length c1,.slice a2 h.sh.bs.length c2,.slice a3 h.bs.length c3,.slice a4 h.ds.length c4]:=E7 w _ _;go_enter Tryz.func131,Tryz.ntmps131
 go_upto_region 1 with fail
 generalize w.alloc (.cells #[.int .i64 h.now,.int .i64 h.last,.slice a1 h.sh.things.length c1,.slice a2 h.sh.bs.length c2,.slice a3 h.bs.length c3,.slice a4 h.ds.length c4] 37)=W1 at *;have hlt:=hC.2.2;obtain⟨d0,d1,d2,d3,d4,d5⟩:=hC.c6;go_wp2_with fail
 go_loopw [3,5,9] (λah _ i w'=>∃(k:Nat) (a:Int),k<=h.bs.length/\i=.int .i64 k/\ah=.int .i64 a/\((k=0->a=0)/\(∀(j:Nat) (p:Rb),j+1=k->h.bs[j]?=some p->a=p.st)/\BatsTo h.bs h.last k)/\Below W1.heap.size W1 w') (λ_ _ i _=>h.bs.length-(intOf i).toNat)
 case atStart=>exact⟨0,0,by omega,rfl,rfl,⟨λ_=>rfl,λj p hj=>by omega,λi d hi=>by omega⟩,A4 _ _⟩
 case round =>
  obtain⟨k,a,hk,rfl,rfl,hinv,hB⟩:=hrel;have HI:Hid ((k=0->a=0)/\(∀(j:Nat) (p:Rb),j+1=k->h.bs[j]?=some p->a=p.st)/\BatsTo h.bs h.last k):=hinv;clear hinv d0 d1 d2 d3 d4 d5;by_cases hp:k<h.bs.length
  ·obtain⟨b,o,ha3,hS,hb⟩:=hpos (by omega)
   subst ha3;have hB01:=D6 hB0 hB;obtain⟨p,q,c,g,r,d,⟨e0,e1,e2,e3,e4,e5⟩,hv⟩:=((hS.at hp).up hB01 hb).open;obtain⟨-,d1,-⟩:=(hC.up hB hlt).c6;have NO:Hid (¬BatOk h.bs h.last k h.bs[k]->pB (BatsOk h)=false):=λhn=>F3 λt=>hn (t k _ hp (A0 hp));have YES:Hid (BatOk h.bs h.last k h.bs[k]->BatsTo h.bs h.last (k+1)):=λhy=>Z7 (P:=BatOk h.bs h.last) HI.out.2.2 hp hy
   have HT:Hid (∀(j:Nat) (p:Rb),j+1=k+1->h.bs[j]?=some p->(h.bs[k]).st=p.st):=λj p hj hp'=>by
    obtain rfl:j=k:=by omega
    rw[A0 hp] at hp';obtain rfl:=A5 hp';rfl
   have HP:Hid (a<(h.bs[k]).st->∀(j:Nat) (p:Rb),j+1=k->h.bs[j]?=some p->p.st<(h.bs[k]).st):=λht j p hj hp'=>by
    rw[← HI.out.2.1 j p hj hp'];exact ht
   have HQ:Hid ((h.bs[k]).st<=a->¬BatOk h.bs h.last k h.bs[k]):=λht hd=>by
    obtain⟨i1,i2,-⟩:=HI.out;obtain⟨k0,-,k2⟩:=hd;have:=k0.2.2.2.1;rcases C4 k with e|e
    ·have:=i1 e;omega
    ·obtain⟨j,rfl⟩:∃j,k=j+1:=⟨k-1,by omega⟩
     have hj:=A0 (l:=h.bs) (i:=j) (by omega);have:=k2 j _ rfl hj;have:=i2 j _ rfl hj;omega
   generalize h.bs[k]=x0 at *;clear hS;have hB1:=hB.alloc hB.size (.cells #[.string x0.nm,.slice (some ⟨p,q,none⟩) x0.ps.length c,.slice (some ⟨g,r,none⟩) x0.sl.length d,.string x0.ad,.int .i64 x0.si,.int .i64 x0.st] 52);have hX:CB (wr.alloc (.cells #[.string x0.nm,.slice (some ⟨p,q,none⟩) x0.ps.length c,.slice (some ⟨g,r,none⟩) x0.sl.length d,.string x0.ad,.int .i64 x0.si,.int .i64 x0.st] 52)) wr.heap.size [.string x0.nm,.slice (some ⟨p,q,none⟩) x0.ps.length c,.slice (some ⟨g,r,none⟩) x0.sl.length d,.string x0.ad,.int .i64 x0.si,.int .i64 x0.st]:=E7 wr _ _;have hv2:=hv.up ((A4 wr.heap.size wr).alloc (A3 _) (.cells #[.string x0.nm,.slice (some ⟨p,q,none⟩) x0.ps.length c,.slice (some ⟨g,r,none⟩) x0.sl.length d,.string x0.ad,.int .i64 x0.si,.int .i64 x0.st] 52));have d1':=((A4 wr.heap.size wr).alloc (A3 _) (.cells #[.string x0.nm,.slice (some ⟨p,q,none⟩) x0.ps.length c,.slice (some ⟨g,r,none⟩) x0.sl.length d,.string x0.ad,.int .i64 x0.si,.int .i64 x0.st] 52)).cell (p:=⟨w.heap.size,1,none⟩) (A1 hlt hB.size) |>.trans d1
   go_upto_region 5 with fail
   generalize wr.alloc (.cells #[.string x0.nm,.slice (some ⟨p,q,none⟩) x0.ps.length c,.slice (some ⟨g,r,none⟩) x0.sl.length d,.string x0.ad,.int .i64 x0.si,.int .i64 x0.st] 52)=W2 at *;obtain⟨f0,f1,f2,f3,f4,f5⟩:=hX.c6;have hXlt:=hX.2.2;have hqlt:w.heap.size<W2.heap.size:=A1 hlt hB1.size;have hB02:=D6 hB0 hB1;clear e0 e1 e2 e3 e4 e5 d1 hv;go_wp2_with fail
   refine (Abi x0 _ _ _ (HE.out.up hB02) hv2).mono ?_;rintro e w3 ⟨rfl,hB3⟩;have g5:=(hB3.cell (p:=⟨wr.heap.size,5,none⟩) hXlt).trans f5;have g1:=(hB3.cell (p:=⟨w.heap.size,1,none⟩) hqlt).trans d1';have hB13:=D6 hB1 hB3;have hB03:=D6 hB0 hB13;clear f0 f1 f2 f3 f4 f5 d1' hB3 hv2;cases q1:pB (RbOk x0)
   ·have HN:Hid (pB (BatsOk h)=false):=NO.out λt=>J4.1 q1 t.1
    go_wp2_with fail
    go_ret
    exact⟨D7 HN.out.symm,hB03⟩
   by_cases q2:a<x0.st
   case neg =>
    have HN:Hid (pB (BatsOk h)=false):=NO.out (HQ.out (by omega));go_wp2_with fail
    go_ret
    exact⟨D7 HN.out.symm,hB03⟩
   by_cases q3:x0.st<=h.last
   case neg =>
    have HN:Hid (pB (BatsOk h)=false):=NO.out λt=>q3 t.2.1;go_wp2_with fail
    go_ret
    exact⟨D7 HN.out.symm,hB03⟩
   have HY:Hid (BatsTo h.bs h.last (k+1)):=YES.out ⟨F8.1 q1,q3,HP.out q2⟩;go_wp2_with fail
   go_roundw
   case rel=>exact⟨k+1,x0.st,by omega,by go_num,rfl,⟨λe=>by omega,HT.out,HY.out⟩,hB13⟩
   case measure=>simp[intOf];omega
  ·have HY:Hid (pB (BatsOk h)=true):=I7 (by
    have:=HI.out.2.2;rwa [show k=h.bs.length by omega] at this)
   go_wp2_with fail
   go_ret
   exact⟨D7 HY.out.symm,D6 hB0 hB⟩
theorem AmJ:(Tryz.prog.info? 90).map (λi=>(i.zero,i.size,i.bytes))=some (some (.agg #[.string ⟨#[]⟩,.int .i64 0,.int .i64 0]),3,32):=by kernel_rfl
theorem AmK:(Tryz.prog.info? 90).map (·.size)=some 3:=by kernel_rfl
theorem AfO (n:Nat) (hn:n<=1048576):∃C:Array Value,C.size=n*3/\∀w,(Instr.makeSlice 35 (.int .i64 (n:Int)) (.int .i64 (n:Int))).run Tryz.prog w=.ok (.slice (some ⟨w.heap.size,0,none⟩) n n) (w.alloc (.cells C 90)):=by
 obtain⟨i,hi,hz⟩:=B5.1 AmJ;simp only[Prod.mk.injEq] at hz;obtain⟨hz,hs,hb⟩:=hz;refine⟨madeCells (Value.agg #[.string ⟨#[]⟩,.int .i64 0,.int .i64 0]).cells (n*3),size_madeCells _ _,λw=>?_⟩;have:=run_make (P:=Tryz.prog) w 35 90 i _ Tryz.underlying35 hi hz .i64 .i64 (n:Int) (n:Int) (by omega) (by omega) (by rw[hb];omega) (by omega);simp only[Int.toNat_natCast,hs] at this;exact this
def DnR (w:World) (b:Nat) (l:List Done):Prop:=∀(i:Nat) (x:Done),l[i]?=some x->w.rangeAt b (i*3) x.cellsL
theorem Alt {w1:World} {b k:Nat} {l:List Done} (hk:k<l.length) (h:DnR w1 b (l.take k)) (ht:w1.there b 0 (l.length*3)):DnR (w1.setCells b (k*3) (l[k]).cellsL) b (l.take (k+1)):=by
 intro i p hp;by_cases hi:i<k
 ·refine World.rangeAt_setCells_apart (h i p ?_) b (k*3) _ (.inr (.inl ?_))
  ·rw[List.getElem?_take] at hp ⊢;rw[if_pos (by omega)] at hp;rw[if_pos hi];exact hp
  ·simp[Done.cellsL];omega
 ·have hik:i=k:=by
   rw[List.getElem?_take] at hp;split at hp
   ·omega
   ·cases hp
  subst hik;rw[List.getElem?_take,if_pos (by omega),A0 hk] at hp;obtain rfl:=A5 hp;refine World.rangeAt_setCells_same _ _ _ _ (λj hj=>?_);have:=ht (i*3+j) (by simp[Done.cellsL] at hj;omega);simpa using this
theorem DnR.up {w w':World} {b B:Nat} {l:List Done} (h:DnR w b l) (hb:Below B w w') (hB:b<B):DnR w' b l:=λi x hx=>Abk (h i x hx) hb hB
theorem AhV (l:List Done) (v:Value) (w:World) (h:Dns w v l) (hn:l.length<=1048576) :
  Calls Tryz.prog 20 #[v] w λe w'=>(∃b,e=.returned (.slice (some ⟨b,0,none⟩) l.length l.length)/\Dns w' (.slice (some ⟨b,0,none⟩) l.length l.length) l/\w.heap.size<=b/\b<w'.heap.size/\w'.there b 0 (l.length*3))/\Below w.heap.size w w':=by
 have Hz:Hid (∀x∈l,x.nm.size<=maxLen):=λx hx=>by
  obtain⟨i,hi,rfl⟩:=B6 hx;obtain⟨_,_,_,_,hpos⟩:=h;obtain⟨b,o,-,hr,-⟩:=hpos (by omega);exact (hr i _ (A0 hi)).2
 obtain⟨a,c,rfl,hmax,hpos⟩:=h;have Hmax:Hid (l.length<=maxLen):=hmax;clear hmax;obtain⟨C,hC,hmk⟩:=AfO l.length hn;have HC:Hid (C.size=l.length*3):=hC;clear hC;go_enter Tryz.func20,Tryz.ntmps20
 go_wp2
 go_loopw [4] (λi w'=>∃k:Nat,k<=l.length/\i=.int .i64 k/\DnR w' w.heap.size (l.take k)/\w'.there w.heap.size 0 (l.length*3)/\w.heap.size<w'.heap.size/\Below w.heap.size w w') (λi _=>l.length-(intOf i).toNat)
 case atStart=>exact⟨0,by omega,rfl,λi p hp=>by simp at hp,by rw[← HC.out];exact S2 _ _ _,by simp,by go_grown⟩
 case round =>
  obtain⟨k,hk,rfl,hra,hth,hlt,hB⟩:=hrel;have Hra:Hid (DnR wr w.heap.size (l.take k)):=hra;have Hth:Hid (wr.there w.heap.size 0 (l.length*3)):=hth;clear hra hth;by_cases hp:k<l.length
  ·obtain⟨b,o,ha,hr,hb⟩:=hpos (by omega)
   subst ha;obtain⟨c0,c1,c2⟩:=hr.cells k hp;obtain⟨hc,hf⟩:=E6 hB;have Hst:Hid (∀w1,Below wr.heap.size wr w1->DnR (w1.setCells w.heap.size (k*3) (l[k]).cellsL) w.heap.size (l.take (k+1))):=λw1 hb1=>Alt hp (Hra.out.up hb1 hlt) (I8 Hth.out hb1 hlt);generalize l[k]=s0 at *;go_wp2_with fail
   refine (Aj9 s0 _).mono ?_;rintro e' w1 ⟨rfl,hb1⟩;clear hc hf c0 c1 c2
   go_wp2_with (refine wpList_store_mid rfl 90 _ _ rfl w.heap.size (k*3) _ rfl rfl (λj hj=>by
     have:=I8 Hth.out hb1 hlt (k*3+j) (by simp at hj;omega);simpa using this) AmK (by simp[Value.oneCell']) ?_)
   go_roundw
   case rel=>exact⟨k+1,by omega,by go_num,Hst.out w1 hb1,World.there_setCells (I8 Hth.out hb1 hlt) _ _ _,A1 (A1 hlt hb1.size) (R9 _ _ _ _),M4 _ _ _ _ _ _ (D6 hB hb1) (A3 _)⟩
   case measure=>simp[intOf];omega
  ·have HD:Hid (DnR wr w.heap.size l):=by have:=Hra.out;rwa [D3 (by omega)] at this
   go_wp2_with fail
   go_ret
   exact⟨⟨_,rfl,⟨_,_,rfl,Hmax.out,λ_=>⟨w.heap.size,0,rfl,λi x hx=>⟨by rw[Nat.zero_add];exact HD.out i x hx,Hz.out x (A6 hx)⟩,hlt⟩⟩,A3 _,hlt,Hth.out⟩,hB⟩
theorem AhW (l:List Done) (va vb:Value) (w:World) (ha:Dns w va l) (hb:Dns w vb l) :
  Calls Tryz.prog 25 #[va,vb] w λe w'=>e=.returned (.bool true)/\Below w.heap.size w w':=by
 obtain⟨a1,k1,rfl,hmax,hp1⟩:=ha;obtain⟨a2,k2,rfl,-,hp2⟩:=hb;unfold maxLen at hmax;go_enter Tryz.func25,Tryz.ntmps25
 go_wp2
 go_loopw [5] (λi w'=>∃k:Nat,k<=l.length/\i=.int .i64 k/\Below w.heap.size w w') (λi _=>l.length-(intOf i).toNat)
 case atStart=>exact⟨0,by omega,rfl,A4 _ _⟩
 case round =>
  obtain⟨k,hk,rfl,hB⟩:=hrel;by_cases hp:k<l.length
  ·obtain⟨b1,o1,e1,hr1,hb1⟩:=hp1 (by omega)
   obtain⟨b2,o2,e2,hr2,hb2⟩:=hp2 (by omega);subst e1 e2;obtain⟨c0,c1,c2⟩:=hr1.cells k hp;obtain⟨d0,d1,d2⟩:=hr2.cells k hp;obtain⟨hc,hf⟩:=E6 hB;generalize l[k]=s0 at *;go_wp2_with fail
   go_region_with (go_at_call 62;refine (AjA s0 _).mono ?_;rintro e w1 ⟨rfl,hbx⟩)
   all_goals
    have hB1:=D6 hB.drew hbx;clear hc hf c0 c1 c2 d0 d1 d2;go_wp2_with fail
    go_roundw
    case rel=>exact⟨k+1,by omega,by go_num,hB1⟩
    case measure=>simp[intOf];omega
  ·go_wp2_with fail
   go_ret
   exact⟨rfl,hB⟩
def RsAt (w:World) (b o:Nat) (bs:List Rb):Prop:=∀(i:Nat) (x:Rb),bs[i]?=some x->∃rv sv,w.rangeAt b (o+i*6) [.string x.nm,rv,sv,.string x.ad,.int .i64 x.si,.int .i64 x.st]/\RbSrc w x rv sv
def RsSrc (w:World) (v:Value) (bs:List Rb):Prop:=∃a c,v=.slice a bs.length c/\bs.length<=maxLen/\(0<bs.length->∃b o,a=some ⟨b,o,none⟩/\RsAt w b o bs/\b<w.heap.size)
theorem RsAt.up {w w':World} {b o:Nat} {bs:List Rb} (h:RsAt w b o bs) (hb:Below w.heap.size w w') (hB:b<w.heap.size):RsAt w' b o bs:=λi x hx=>by
 obtain⟨rv,sv,h1,h2⟩:=h i x hx;exact⟨rv,sv,Abk h1 hb hB,h2.up hb⟩
theorem RsSrc.up {w w':World} {v:Value} {bs:List Rb} (h:RsSrc w v bs) (hb:Below w.heap.size w w'):RsSrc w' v bs:=by
 obtain⟨a,c,rfl,h1,h2⟩:=h;exact⟨a,c,rfl,h1,λhp=>by obtain⟨b,o,e,hr,hlt⟩:=h2 hp;exact⟨b,o,e,hr.up hb hlt,A1 hlt hb.size⟩⟩
theorem RsAt.open {w:World} {b o:Nat} {bs:List Rb} (h:RsAt w b o bs) {k:Nat} (hk:k<bs.length):∃a1 c1 a2 c2,(w.cell? ⟨b,o+k*6,none⟩=some (.string (bs[k]).nm)/\w.cell? ⟨b,o+k*6+1,none⟩=some (.slice a1 (bs[k]).ps.length c1)/\w.cell? ⟨b,o+k*6+2,none⟩=some (.slice a2 (bs[k]).sl.length c2)/\w.cell? ⟨b,o+k*6+3,none⟩=some (.string (bs[k]).ad)/\w.cell? ⟨b,o+k*6+4,none⟩=some (.int .i64 (bs[k]).si)/\w.cell? ⟨b,o+k*6+5,none⟩=some (.int .i64 (bs[k]).st))/\RbSrc w bs[k] (.slice a1 (bs[k]).ps.length c1) (.slice a2 (bs[k]).sl.length c2):=by
 obtain⟨rv,sv,hr,hv⟩:=h k _ (A0 hk);obtain⟨a1,c1,rfl⟩:=hv.r.shape;obtain⟨a2,c2,rfl⟩:=hv.s.shape;exact⟨a1,c1,a2,c2,⟨hr 0 _ rfl,hr 1 _ rfl,hr 2 _ rfl,hr 3 _ rfl,hr 4 _ rfl,hr 5 _ rfl⟩,hv⟩
def RsSmall (bs:List Rb) (k:Nat):Prop:=∀(i:Nat) (x:Rb),i<k->bs[i]?=some x->x.ps.length<=1048576/\x.sl.length<=1048576
theorem Alu (bs:List Rb) (v:Value) (l:Int) (w:World) (hl:0<=l) (hl':l<=1048576) (h:RsSrc w v bs) :
  Calls Tryz.prog 12 #[v,.int .i64 l] w
   λe' w'=>(∃x:Int,e'=.returned (.int .i64 x)/\(0<=x->(bs.length:Int)<=l/\RsSmall bs bs.length)/\x<=1048576)/\Below w.heap.size w w':=by
 obtain⟨a,c,rfl,hn,hpos⟩:=h;unfold maxLen at hn;by_cases h0:l-bs.length<0
 ·go_enter Tryz.func12,Tryz.ntmps12
  go_wp2
  go_ret
  exact⟨⟨_,rfl,by omega,by omega⟩,A4 _ _⟩
 have H0:Hid ((bs.length:Int)<=l):=by show _<=_;omega
 go_enter Tryz.func12,Tryz.ntmps12
 go_wp2
 go_loopw [1,5] (λx i w'=>∃(k:Nat) (y:Int),k<=bs.length/\i=.int .i64 k/\x=.int .i64 y/\0<=y/\y<=1048576/\RsSmall bs k/\Below w.heap.size w w') (λ_ i _=>bs.length-(intOf i).toNat)
 case atStart=>exact⟨0,_,by omega,rfl,rfl,by omega,by omega,λi x hi=>by omega,A4 _ _⟩
 case round =>
  obtain⟨k,y,hk,rfl,rfl,hy,hy',hsm,hB⟩:=hrel;have Hsm:Hid (RsSmall bs k):=hsm;clear hsm;by_cases hp:k<bs.length
  ·obtain⟨b,o,ha,hr,hb⟩:=hpos (by omega)
   subst ha;obtain⟨a1,c1,a2,c2,⟨e0,e1,e2,e3,e4,e5⟩,hv⟩:=(hr.up hB hb).open hp;have YES:Hid ((bs[k]).ps.length<=1048576/\(bs[k]).sl.length<=1048576->RsSmall bs (k+1)):=λhy=>Z7 (P:=λ_ (x:Rb)=>x.ps.length<=1048576/\x.sl.length<=1048576) Hsm.out hp hy;generalize bs[k]=x0 at *;clear hr;go_wp2_with fail
   refine (AmF x0 _ _ _ hv _ hy hy').mono ?_;rintro e' w1 ⟨⟨x,rfl,hx1,hx2⟩,hb1⟩;have hB1:=D6 hB hb1;clear e0 e1 e2 e3 e4 e5;by_cases hx:x<0
   ·go_wp2_with fail
    go_ret
    exact⟨⟨_,rfl,by omega,by omega⟩,hB1⟩
   ·have HY:Hid (RsSmall bs (k+1)):=YES.out ⟨(hx1 (by omega)).1,(hx1 (by omega)).2.1⟩
    clear hx1;go_wp2_with fail
    go_roundw
    case rel=>exact⟨k+1,x,by omega,by go_num,rfl,by omega,by omega,HY.out,hB1⟩
    case measure=>simp[intOf];omega
  ·have HY:Hid (RsSmall bs bs.length):=by
    have:=Hsm.out;rwa [show k=bs.length by omega] at this
   go_wp2_with fail
   go_ret
   exact⟨⟨_,rfl,λ_=>⟨H0.out,HY.out⟩,hy'⟩,hB⟩
theorem infoRb:(Tryz.prog.info? 52).map (λi=>(i.zero,i.size,i.bytes))=some (some (.agg #[.string ⟨#[]⟩,.slice none 0 0,.slice none 0 0,.string ⟨#[]⟩,.int .i64 0,.int .i64 0]),6,96):=by kernel_rfl
theorem AhX (n:Nat) (hn:n<=1048576):∃C:Array Value,C.size=n*6/\∀w,(Instr.makeSlice 34 (.int .i64 (n:Int)) (.int .i64 (n:Int))).run Tryz.prog w=.ok (.slice (some ⟨w.heap.size,0,none⟩) n n) (w.alloc (.cells C 52)):=by
 obtain⟨i,hi,hz⟩:=B5.1 infoRb;simp only[Prod.mk.injEq] at hz;obtain⟨hz,hs,hb⟩:=hz;refine⟨madeCells (Value.agg #[.string ⟨#[]⟩,.slice none 0 0,.slice none 0 0,.string ⟨#[]⟩,.int .i64 0,.int .i64 0]).cells (n*6),size_madeCells _ _,λw=>?_⟩;have:=run_make (P:=Tryz.prog) w 34 52 i _ Tryz.underlying34 hi hz .i64 .i64 (n:Int) (n:Int) (by omega) (by omega) (by rw[hb];omega) (by omega);simp only[Int.toNat_natCast,hs] at this;exact this
def rbCells (x:Rb) (b1 b2:Nat):List Value:=[.string x.nm,.slice (some ⟨b1,0,none⟩) x.ps.length x.ps.length,.slice (some ⟨b2,0,none⟩) x.sl.length x.sl.length,.string x.ad,.int .i64 x.si,.int .i64 x.st]
def RsO (w:World) (b:Nat) (bs:List Rb):Prop:=∀(i:Nat) (x:Rb),bs[i]?=some x->∃b1 b2,w.rangeAt b (i*6) (rbCells x b1 b2)/\RbO w (b+1) x b1 b2
theorem RsO.up {w w':World} {b:Nat} {bs:List Rb} (h:RsO w b bs) (hb:Below w.heap.size w w') (hB:b<w.heap.size):RsO w' b bs:=λi x hx=>by
 obtain⟨b1,b2,h1,h2⟩:=h i x hx;exact⟨b1,b2,Abk h1 hb hB,h2.up hb⟩
theorem RbO.setCells {base b1 b2 r:Nat} {x:Rb} (hr:r<base):∀(vs:List Value) (o:Nat) {w:World},RbO w base x b1 b2->RbO (w.setCells r o vs) base x b1 b2
 | [],_,_,h=>h
 | _::vs,o,_,h=>RbO.setCells hr vs (o+1) (h.set hr)
theorem Alv {w1:World} {b k b1 b2:Nat} {bs:List Rb} (hk:k<bs.length) (h:RsO w1 b (bs.take k)) (ht:w1.there b 0 (bs.length*6)) (ho:RbO w1 (b+1) bs[k] b1 b2):RsO (w1.setCells b (k*6) (rbCells bs[k] b1 b2)) b (bs.take (k+1)):=by
 intro i p hp;by_cases hi:i<k
 ·obtain⟨x1,x2,h1,h2⟩:=h i p (by
   rw[List.getElem?_take] at hp ⊢;rw[if_pos (by omega)] at hp;rw[if_pos hi];exact hp)
  exact⟨x1,x2,World.rangeAt_setCells_apart h1 b (k*6) _ (.inr (.inl (by simp[rbCells];omega))),RbO.setCells (by omega) _ _ h2⟩
 ·have hik:i=k:=by
   rw[List.getElem?_take] at hp;split at hp
   ·omega
   ·cases hp
  subst hik;rw[List.getElem?_take,if_pos (by omega),A0 hk] at hp;obtain rfl:=A5 hp;refine⟨b1,b2,World.rangeAt_setCells_same _ _ _ _ (λj hj=>?_),RbO.setCells (by omega) _ _ ho⟩;have:=ht (i*6+j) (by simp[rbCells] at hj;omega);simpa using this
theorem Alw (bs:List Rb) (v:Value) (w:World) (h:RsSrc w v bs) (hn:bs.length<=1048576) (hsm:RsSmall bs bs.length) :
  Calls Tryz.prog 19 #[v] w λe w'=>(∃b,e=.returned (.slice (some ⟨b,0,none⟩) bs.length bs.length)/\RsO w' b bs/\w.heap.size<=b/\b<w'.heap.size/\w'.there b 0 (bs.length*6))/\Below w.heap.size w w':=by
 obtain⟨a,c,rfl,hmax,hpos⟩:=h;obtain⟨C,hC,hmk⟩:=AhX bs.length hn;have HC:Hid (C.size=bs.length*6):=hC;have Hsm:Hid (RsSmall bs bs.length):=hsm;clear hC hsm;go_enter Tryz.func19,Tryz.ntmps19
 go_wp2
 go_loopw [4] (λi w'=>∃k:Nat,k<=bs.length/\i=.int .i64 k/\RsO w' w.heap.size (bs.take k)/\w'.there w.heap.size 0 (bs.length*6)/\w.heap.size<w'.heap.size/\Below w.heap.size w w') (λi _=>bs.length-(intOf i).toNat)
 case atStart=>exact⟨0,by omega,rfl,λi p hp=>by simp at hp,by rw[← HC.out];exact S2 _ _ _,by simp,by go_grown⟩
 case round =>
  obtain⟨k,hk,rfl,hra,hth,hlt,hB⟩:=hrel;have Hra:Hid (RsO wr w.heap.size (bs.take k)):=hra;have Hth:Hid (wr.there w.heap.size 0 (bs.length*6)):=hth;clear hra hth;by_cases hp:k<bs.length
  ·obtain⟨b,o,ha,hr,hb⟩:=hpos (by omega)
   subst ha;obtain⟨a1,c1,a2,c2,⟨e0,e1,e2,e3,e4,e5⟩,hv⟩:=(hr.up hB hb).open hp;obtain⟨np,ns⟩:=Hsm.out k _ hp (A0 hp);have Hst:Hid (∀w1 b1 b2,Below wr.heap.size wr w1->RbO w1 (w.heap.size+1) bs[k] b1 b2->RsO (w1.setCells w.heap.size (k*6) (rbCells bs[k] b1 b2)) w.heap.size (bs.take (k+1))):=λw1 b1 b2 hb1 ho=>Alv hp (Hra.out.up hb1 hlt) (I8 Hth.out hb1 hlt) ho;generalize bs[k]=x0 at *;clear hr;go_wp2_with fail
   refine (AmG x0 _ _ _ hv np ns).mono ?_;rintro e' w1 ⟨⟨b1,b2,rfl,ho⟩,hb1⟩;have ho':=ho.low (base':=w.heap.size+1) (by omega);clear e0 e1 e2 e3 e4 e5
   go_wp2_with (refine wpList_store_mid rfl 52 _ _ rfl w.heap.size (k*6) _ rfl rfl (λj hj=>by
     have:=I8 Hth.out hb1 hlt (k*6+j) (by simp at hj;omega);simpa using this) Alo (by simp[Value.oneCell']) ?_)
   go_roundw
   case rel=>exact⟨k+1,by omega,by go_num,Hst.out w1 b1 b2 hb1 ho',World.there_setCells (I8 Hth.out hb1 hlt) _ _ _,A1 (A1 hlt hb1.size) (R9 _ _ _ _),M4 _ _ _ _ _ _ (D6 hB hb1) (A3 _)⟩
   case measure=>simp[intOf];omega
  ·have HD:Hid (RsO wr w.heap.size bs):=by have:=Hra.out;rwa [D3 (by omega)] at this
   go_wp2_with fail
   go_ret
   exact⟨⟨_,rfl,HD.out,A3 _,hlt,Hth.out⟩,hB⟩
theorem Adh (ss:List ByteArray) (v:Value) (l:Int) (w:World) (h:Ls w v ss) (hl:0<=l) (hl':l<=1048576) :
  Calls Tryz.prog 32 #[v,.int .i64 l] w λe w'=>(∃x:Int,e=.returned (.int .i64 x)/\x<=l/\(0<=x->(ss.length:Int)<=l))/\w'=w:=by
 obtain⟨a,c,rfl,hn,hz,hpos⟩:=h;unfold maxLen at hn hz;by_cases h0:l-ss.length<0
 ·go_enter Tryz.func32,Tryz.ntmps32
  go_wp2
  go_ret
  exact⟨⟨_,rfl,by omega,by omega⟩,rfl⟩
 have H0:Hid ((ss.length:Int)<=l):=by show _<=_;omega
 go_enter Tryz.func32,Tryz.ntmps32
 go_wp2
 go_loop [1,5] (λx i=>∃(k:Nat) (y:Int),k<=ss.length/\i=.int .i64 k/\x=.int .i64 y/\0<=y/\y<=l) (λ_ i=>ss.length-(intOf i).toNat)
 case atStart=>exact⟨0,_,by omega,rfl,rfl,by omega,by omega⟩
 case round =>
  obtain⟨k,y,hk,rfl,rfl,hy,hy'⟩:=hrel;by_cases hp:k<ss.length
  ·obtain⟨b,o,rfl,hS,hb⟩:=hpos (by omega)
   have c0:=hS.cell hp;have z0:=hz ss[k] (by simp);generalize ss[k]=s0 at *;by_cases hq:y-s0.size<0
   ·go_wp2
    go_ret
    exact⟨⟨_,rfl,by omega,by omega⟩,rfl⟩
   ·go_wp2
    go_round
    case rel=>exact⟨k+1,_,by omega,by go_num,rfl,by omega,by omega⟩
    case measure=>simp[intOf];omega
  ·go_wp2
   go_ret
   exact⟨⟨_,rfl,by omega,λ_=>H0.out⟩,rfl⟩
theorem AgQ (n:Nat) (hn:n<=1048576):∃C:Array Value,C.size=n/\∀w,(Instr.makeSlice 22 (.int .i64 (n:Int)) (.int .i64 (n:Int))).run Tryz.prog w=.ok (.slice (some ⟨w.heap.size,0,none⟩) n n) (w.alloc (.cells C 9)):=by
 obtain⟨i,hi,hz⟩:=B5.1 M1;simp only[Prod.mk.injEq] at hz;obtain⟨hz,hs,hb⟩:=hz;refine⟨madeCells (Value.string ⟨#[]⟩).cells (n*1),by rw[size_madeCells,Nat.mul_one],λw=>?_⟩;have:=run_make (P:=Tryz.prog) w 22 9 i _ Tryz.underlying22 hi hz .i64 .i64 (n:Int) (n:Int) (by omega) (by omega) (by rw[hb];omega) (by omega);simp only[Int.toNat_natCast,hs] at this;exact this
theorem AjF {w1:World} {b k:Nat} {ss:List ByteArray} (hk:k<ss.length) (h:StrsAt w1 b 0 (ss.take k)) (ht:w1.there b 0 ss.length):StrsAt (w1.setCell ⟨b,k,none⟩ (.string ss[k])) b 0 (ss.take (k+1)):=by
 intro i s hs;rw[Nat.zero_add];by_cases hi:i=k
 ·subst hi
  rw[List.getElem?_take,if_pos (by omega),A0 hk] at hs;obtain rfl:=A5 hs;have h1:=(ht i hk).1;rw[Nat.zero_add] at h1;obtain⟨x,hx⟩:=Option.isSome_iff_exists.1 h1;exact World.cell?_setCell_same _ _ _ hx
 ·rw[C0 _ _ _ _ (by simp<;>omega)]
  have:=h i s (by
   rw[List.getElem?_take] at hs ⊢
   split at hs
   ·rw[if_pos (by omega)];exact hs
   ·cases hs)
  rwa [Nat.zero_add] at this
theorem AjG {w:World} {b n j:Nat} {u:Value} (h:w.there b 0 n):(w.setCell ⟨b,j,none⟩ u).there b 0 n:=by
 have:=World.there_setCells h b j [u];simpa [World.setCells] using this
theorem J1 {B:Nat} {a w:World} {b j:Nat} (h:Below B a w) (hb:B<=b) (u:Value):Below B a (w.setCell ⟨b,j,none⟩ u):=h.setCell (p:=⟨b,j,none⟩) hb u
theorem Adi (ss:List ByteArray) (v:Value) (w:World) (h:Ls w v ss) (hn:ss.length<=1048576) :
  Calls Tryz.prog 48 #[v] w λe w'=>(∃u,e=.returned u/\LsO w' w.heap.size u ss)/\Below w.heap.size w w':=by
 obtain⟨a,c,rfl,hm,hz,hpos⟩:=h;have Hz:Hid (ss.length<=maxLen/\∀s∈ss,s.size<=maxLen):=⟨hm,hz⟩;clear hm hz;obtain⟨C,hC,hmk⟩:=AgQ ss.length hn;have HC:Hid (C.size=ss.length):=hC;clear hC;go_enter Tryz.func48,Tryz.ntmps48
 go_wp2
 go_loopw [4] (λi w'=>∃k:Nat,k<=ss.length/\i=.int .i64 k/\StrsAt w' w.heap.size 0 (ss.take k)/\w'.there w.heap.size 0 ss.length/\w.heap.size<w'.heap.size/\Below w.heap.size w w') (λi _=>ss.length-(intOf i).toNat)
 case atStart=>exact⟨0,by omega,rfl,λi p hp=>by simp at hp,by rw[← HC.out];exact S2 _ _ _,by simp,by go_grown⟩
 case round =>
  obtain⟨k,hk,rfl,hra,hth,hlt,hB⟩:=hrel;by_cases hp:k<ss.length
  ·obtain⟨b,o,rfl,hS,hb⟩:=hpos (by omega)
   have c0:=(hB.cell (p:=⟨b,o+k,none⟩) hb).trans (hS.cell hp);have Hst:Hid (StrsAt (wr.setCell ⟨w.heap.size,k,none⟩ (.string ss[k])) w.heap.size 0 (ss.take (k+1))/\(wr.setCell ⟨w.heap.size,k,none⟩ (.string ss[k])).there w.heap.size 0 ss.length/\Below w.heap.size w (wr.setCell ⟨w.heap.size,k,none⟩ (.string ss[k]))):=⟨AjF hp hra hth,AjG hth,J1 hB (A3 _) _⟩
   obtain⟨⟨x0,d0⟩,f0⟩:(∃x,wr.cell? ⟨w.heap.size,k,none⟩=some x)/\wr.frozen? ⟨w.heap.size,k,none⟩=false:=by
    have:=hth k hp;rw[Nat.zero_add] at this;exact⟨Option.isSome_iff_exists.1 this.1,this.2⟩
   clear hra hth;generalize ss[k]=s0 at *;go_wp2_with fail
   go_roundw
   case rel=>exact⟨k+1,by omega,by go_num,Hst.out.1,Hst.out.2.1,by simpa using hlt,Hst.out.2.2⟩
   case measure=>simp[intOf];omega
  ·go_wp2_with fail
   go_ret
   exact⟨⟨_,rfl,w.heap.size,rfl,by rwa [D3 (by omega)] at hra,hth,A3 _,hlt,Hz.out⟩,hB⟩
theorem LsO.set {w:World} {base r j:Nat} {v u:Value} {ss:List ByteArray} (h:LsO w base v ss) (hr:r<base):LsO (w.setCell ⟨r,j,none⟩ u) base v ss:=h.kept (E0 (E4 _ _) _) hr
theorem LsO.shape {w:World} {base:Nat} {v:Value} {ss:List ByteArray} (h:LsO w base v ss):∃b,v=.slice (some ⟨b,0,none⟩) ss.length ss.length:=by
 obtain⟨b,rfl,-⟩:=h;exact⟨b,rfl⟩
theorem Aee (ss:List ByteArray) (va vb:Value) (w:World) (ha:Ls w va ss) (hb:Ls w vb ss) :
  Calls Tryz.prog 59 #[va,vb] w λe w'=>e=.returned (.bool true)/\Below w.heap.size w w':=by
 obtain⟨a1,c1,rfl,hn,-,hp1⟩:=ha;obtain⟨a2,c2,rfl,-,-,hp2⟩:=hb;unfold maxLen at hn;go_enter Tryz.func59,Tryz.ntmps59
 go_wp2
 go_loopw [5] (λi w'=>∃k:Nat,k<=ss.length/\i=.int .i64 k/\Below w.heap.size w w') (λi _=>ss.length-(intOf i).toNat)
 case atStart=>exact⟨0,by omega,rfl,A4 _ _⟩
 case round =>
  obtain⟨k,hk,rfl,hB⟩:=hrel;by_cases hp:k<ss.length
  ·obtain⟨g1,o1,rfl,hS1,hg1⟩:=hp1 (by omega)
   obtain⟨g2,o2,rfl,hS2,hg2⟩:=hp2 (by omega);have c1:=(hS1.up hB hg1).cell hp;have c2:=(hS2.up hB hg2).cell hp;go_wp2_with fail
   go_quiet (fail)
   go_wp2_with fail
   go_roundw
   case rel=>exact⟨k+1,by omega,by go_num,E8 hB nq⟩
   case measure=>simp[intOf];omega
  ·go_wp2_with fail
   go_ret
   exact⟨rfl,hB⟩
end Go.Proofs.YtebfdccbmmpceaaGreatDoor
