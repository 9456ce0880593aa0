/- slices.Sort at names, slices.Equal (the program's chapter 22). -/
import Derived.Test.YtmonodehegcfhaaGreatDoorJ2
import Derived.Test.YtmonodehegcfhaaGreatDoorJ11
import Derived.Shelf.Sort.AssemblysIn
import Derived.Sort.EveryDepth
import Derived.Test.YtmonodehegcfhaaGreatDoorJ40
import Derived.Test.YtmonodehegcfhaaGreatDoorJ6
import Derived.Test.YtmonodehegcfhaaGreatDoorJ13
import Derived.Test.YtmonodehegcfhaaGreatDoorJ8
import Derived.Test.YtmonodehegcfhaaGreatDoorJ37
import Derived.Defers
import Derived.Test.YtmonodehegcfhaaGreatDoorJ23
import Derived.Test.YtmonodehegcfhaaGreatDoorJ31
set_option maxRecDepth 20000
set_option maxHeartbeats 4000000
namespace Go.Proofs.YtmonodehegcfhaaGreatDoor
open Go.Proofs.Tryz
open Go.RowKit Go.Shelf
theorem Vo(sa sb:List BA)(n m:Nat)(a1 a2:Option Addr)(c1 c2:Nat)(w:World)(Hn:Hid (sa.length=n))(Hm:Hid (sb.length=m))(hn9:n<=maxLen)(hpa:0<n->∃b o,a1=some ⟨b,o,none⟩/\F9 w b o sa/\b<w.heap.size)(hpb:0<m->∃b o,a2=some ⟨b,o,none⟩/\F9 w b o sb/\b<w.heap.size):
  Calls prog 90 #[Vz a1 n c1,Vz a2 m c2] w λe w'=>e=.returned (.bool (pB (sa=sb)))/\Up w w':=by
 unfold maxLen at hn9;by_cases hll:n=m
 case neg =>
  have HN:Hid (pB (sa=sb)=false):=I5 λe=>hll (by rw[← Hn.out,← Hm.out,e]);go_in;go_wp2_with fail;go_ret;exact⟨D8 HN.out.symm,A5 _ _⟩
 subst hll;go_in;go_wp2_with fail;(try dsimp only[Iz,Sz,Sy,Nz,Vz,Tz,Ez,Pz]);go_loopw [5,13] (λ_ i w'=>∃k:Nat,k<=n/\i=.int .i64 k/\(∀i,i<k->sa[i]?=sb[i]?)/\Up w w') (λ_ i _=>n-(intOf i).toNat)
 case atStart=>exact⟨0,by omega,rfl,λi hi=>by omega,A5 _ _⟩
 case round =>
  obtain⟨k,hk,rfl,a0,hB⟩:=hrel;have Hal:Hid (∀i,i<k->sa[i]?=sb[i]?):=a0;clear a0;by_cases hp:k<n
  ·obtain⟨b1,o1,rfl,a3,a5⟩:=hpa (by omega);obtain⟨b2,o2,rfl,a4,a6⟩:=hpb (by omega);have h1:k<sa.length:=by have:=Hn.out;omega
   have h2:k<sb.length:=by have:=Hm.out;omega
   have e1:=(hB.cell (p:=⟨b1,o1+k,none⟩) a5).trans (a3 k sa[k] (A0 h1));have e2:=(hB.cell (p:=⟨b2,o2+k,none⟩) a6).trans (a4 k sb[k] (A0 h2))
   have N1:Hid (((sa[k]).toList==(sb[k]).toList)=false->¬sa=sb):=λhq e=>by
    subst e;simp at hq
   have N2:Hid (((sa[k]).toList==(sb[k]).toList)=true->∀i,i<k+1->sa[i]?=sb[i]?):=λhq i hi=>by
    rcases Nat.lt_or_ge i k with h'|h'
    ·exact Hal.out i h'
    ·obtain rfl:i=k:=by omega
     have e:sa[i]=sb[i]:=CL (by simpa using hq);rw[A0 h1,A0 h2,e]
   generalize sa[k]=s1 at *;generalize sb[k]=s2 at *;clear a3 a4;cases hq:(s1.toList==s2.toList)
   ·have HN:Hid (pB (sa=sb)=false):=I5 (N1.out hq);go_wp2_with fail;go_quiet (fail);go_wp2_with fail;go_ret;exact⟨D8 HN.out.symm,G4 hB _⟩
   ·have HY:Hid (∀i,i<k+1->sa[i]?=sb[i]?):=N2.out hq;go_wp2_with fail;go_quiet (fail);go_wp2_with fail;go_roundw
    case rel=>exact⟨k+1,by omega,by go_num,HY.out,G4 hB _⟩
    case measure=>simp[intOf];omega
  ·have HY:Hid (pB (sa=sb)=true):=L9 (List.ext_getElem? λi=>by
    by_cases hi:i<k
    ·exact Hal.out i hi
    ·rw[C6 (by have:=Hn.out;omega),C6 (by have:=Hm.out;omega)])
   go_wp2_with fail;go_ret;exact⟨D8 HY.out.symm,hB⟩
theorem Mr(sa sb:List BA)(va vb:Value)(w:World)(ha:Ls w va sa)(hb:Ls w vb sb):
  Calls prog 90 #[va,vb] w λe w'=>e=.returned (.bool (pB (sa=sb)))/\Up w w':=by
 obtain⟨a1,c1,rfl,a0,-,a3⟩:=ha;obtain⟨a2,c2,rfl,-,-,a4⟩:=hb;exact Vo sa sb _ _ a1 a2 c1 c2 w rfl rfl a0 a3 a4
theorem Vp(sa sb:List BA)(n m:Nat)(a1 a2:Option Addr)(c1 c2:Nat)(w:World)(Hn:Hid (sa.length=n))(Hm:Hid (sb.length=m))(hn9:n<=maxLen)(hpa:0<n->∃b o,a1=some ⟨b,o,none⟩/\F9 w b o sa/\b<w.heap.size)(hpb:0<m->∃b o,a2=some ⟨b,o,none⟩/\F9 w b o sb/\b<w.heap.size):
  Calls prog 92 #[Vz a1 n c1,Vz a2 m c2] w λe w'=>e=.returned (.bool (pB (sa=sb)))/\Up w w':=by
 unfold maxLen at hn9;by_cases hll:n=m
 case neg =>
  have HN:Hid (pB (sa=sb)=false):=I5 λe=>hll (by rw[← Hn.out,← Hm.out,e]);go_in;go_wp2_with fail;go_ret;exact⟨D8 HN.out.symm,A5 _ _⟩
 subst hll;go_in;go_wp2_with fail;(try dsimp only[Iz,Sz,Sy,Nz,Vz,Tz,Ez,Pz]);go_loopw [5,13] (λ_ i w'=>∃k:Nat,k<=n/\i=.int .i64 k/\(∀i,i<k->sa[i]?=sb[i]?)/\Up w w') (λ_ i _=>n-(intOf i).toNat)
 case atStart=>exact⟨0,by omega,rfl,λi hi=>by omega,A5 _ _⟩
 case round =>
  obtain⟨k,hk,rfl,a0,hB⟩:=hrel;have Hal:Hid (∀i,i<k->sa[i]?=sb[i]?):=a0;clear a0;by_cases hp:k<n
  ·obtain⟨b1,o1,rfl,a3,a5⟩:=hpa (by omega);obtain⟨b2,o2,rfl,a4,a6⟩:=hpb (by omega);have h1:k<sa.length:=by have:=Hn.out;omega
   have h2:k<sb.length:=by have:=Hm.out;omega
   have e1:=(hB.cell (p:=⟨b1,o1+k,none⟩) a5).trans (a3 k sa[k] (A0 h1));have e2:=(hB.cell (p:=⟨b2,o2+k,none⟩) a6).trans (a4 k sb[k] (A0 h2))
   have N1:Hid (((sa[k]).toList==(sb[k]).toList)=false->¬sa=sb):=λhq e=>by
    subst e;simp at hq
   have N2:Hid (((sa[k]).toList==(sb[k]).toList)=true->∀i,i<k+1->sa[i]?=sb[i]?):=λhq i hi=>by
    rcases Nat.lt_or_ge i k with h'|h'
    ·exact Hal.out i h'
    ·obtain rfl:i=k:=by omega
     have e:sa[i]=sb[i]:=CL (by simpa using hq);rw[A0 h1,A0 h2,e]
   generalize sa[k]=s1 at *;generalize sb[k]=s2 at *;clear a3 a4;cases hq:(s1.toList==s2.toList)
   ·have HN:Hid (pB (sa=sb)=false):=I5 (N1.out hq);go_wp2_with fail;go_quiet (fail);go_wp2_with fail;go_ret;exact⟨D8 HN.out.symm,G4 hB _⟩
   ·have HY:Hid (∀i,i<k+1->sa[i]?=sb[i]?):=N2.out hq;go_wp2_with fail;go_quiet (fail);go_wp2_with fail;go_roundw
    case rel=>exact⟨k+1,by omega,by go_num,HY.out,G4 hB _⟩
    case measure=>simp[intOf];omega
  ·have HY:Hid (pB (sa=sb)=true):=L9 (List.ext_getElem? λi=>by
    by_cases hi:i<k
    ·exact Hal.out i hi
    ·rw[C6 (by have:=Hn.out;omega),C6 (by have:=Hm.out;omega)])
   go_wp2_with fail;go_ret;exact⟨D8 HY.out.symm,hB⟩
theorem Tc(sa sb:List BA)(va vb:Value)(w:World)(ha:Ls w va sa)(hb:Ls w vb sb):
  Calls prog 92 #[va,vb] w λe w'=>e=.returned (.bool (pB (sa=sb)))/\Up w w':=by
 obtain⟨a1,c1,rfl,a0,-,a3⟩:=ha;obtain⟨a2,c2,rfl,-,-,a4⟩:=hb;exact Vp sa sb _ _ a1 a2 c1 c2 w rfl rfl a0 a3 a4
section
open Go.Sort
theorem PY(n:Nat)(w:World)(hn:n<4611686018427387904):Calls prog 145 #[.int .u64 (n:Int)] w λe w'=>e=.returned (Iz (bitsLen n:Nat))/\w'=w :=
 calls_of_every_depth λD=>Any.lenWalkInSAll (ρ:=Tryz.lays190_ren) {Tryz.lays190 with} D n w hn
theorem WZ(g cap:Nat)(ks:List Ae)(w:World)(hH:Holds encStr w g 0 ks.toArray)(hg:g<w.heap.size)(hn:ks.length<=1000):
  Calls prog 144 #[Sz g ks.length cap,Iz 0,Iz (ks.length:Nat),Iz (bitsLen ks.length:Nat)] w λe w'=>e=.returned (.tuple #[])/\∃n os,w'=grow (putRow encStr (Sort.ahead w n) g 0 (ks.mergeSort λx y=>decide (x<=y)).toArray) os:=by
 have hk:bitsLen ks.length<=62:=(bitsLen_le_iff ks.length 62).2 (by omega);have a0:=pdqDepth_le_59 ltStr ks.toArray 0 ks.length (bitsLen ks.length) true true (by omega);have h:=calls_of_every_depth λD=>(Any.pdqWalkInStr (ρ:=Tryz.lays190_ren) {Tryz.lays190 with} D) 65 g 0 cap 0 ks.length (bitsLen ks.length) ks.toArray w (by omega) hH hg (Nat.zero_le _) (by simp) (by simp;omega) (by omega) (Or.inl rfl)
 have e:Sort.pdq ltStr ks.toArray 0 ks.length (bitsLen ks.length) true true=(ks.mergeSort λx y=>decide (x<=y)).toArray:=by
  rw[← Any.sort_str_eqD];simp[Sort.sort]
 rw[e] at h;have h3:Calls prog 144 _ _ _:=h;simpa using h3
theorem Vq(g cap:Nat)(ks:List Ae)(w:World)(hH:Holds encStr w g 0 ks.toArray)(hg:g<w.heap.size)(hn:ks.length<=1000):
  Calls prog 89 #[Sz g ks.length cap] w λe w'=>e=.returned (.tuple #[])/\∃n os,w'=grow (putRow encStr (Sort.ahead w n) g 0 (ks.mergeSort λx y=>decide (x<=y)).toArray) os:=by
 have HH:Hid (Holds encStr w g 0 ks.toArray):=hH;clear hH;go_in
 go_wp2_with (first
  | (go_at_call 145;refine Sx (PY ks.length _ (by omega)) ?_)
  | (go_at_call 144;refine (WZ g cap ks _ HH.out hg hn).mono ?_;rintro e w' ⟨rfl,n,os,rfl⟩))
 go_end0
 exact⟨rfl,n,os,rfl⟩
theorem Td(p:Option Addr)(cap:Nat)(w:World):
  Calls prog 89 #[Vz p 0 cap] w λe w'=>e=.returned (.tuple #[])/\w'=w:=by
 have hl:=λw=>PY 0 w (by omega);have e0:bitsLen 0=0:=by decide
 rw[e0] at hl;go_in
 go_wp2_with (first
  | (go_at_call 145;refine Sx (hl _) ?_)
  | (go_at_call 144;refine Sx (calls_of_every_depth λD=>AnyS.pdqsort_string_none_in (ρ:=Tryz.lays190_ren) {Tryz.lays190 with} D p cap w) ?_))
 go_end0
 exact⟨rfl,rfl⟩
end
end Go.Proofs.YtmonodehegcfhaaGreatDoor
namespace Go.Proofs.YtmonodehegcfhaaGreatDoor
open Go.Proofs.Tryz
open Go.RowKit
section
open Go.Shelf Go.Sort
theorem Te{w w1:World}{g cap n nn:Nat}{os:Array Obj}{ks:List Ae}(hown:w1.ownsRow w.heap.size 9 1 (Sz g n cap) n (ks.map encStr))(hbel:RowKit.Below w.heap.size w w1)(hlen:ks.length=n):
  (grow (putRow encStr (Sort.ahead w1 nn) g 0 (ks.mergeSort λx y=>decide (x<=y)).toArray) os).ownsRow w.heap.size 9 1 (Sz g n cap) n ((ks.mergeSort λx y=>decide (x<=y)).map encStr)/\
   RowKit.Below w.heap.size w (grow (putRow encStr (Sort.ahead w1 nn) g 0 (ks.mergeSort λx y=>decide (x<=y)).toArray) os):=by
 have a0:(ks.mergeSort λx y=>decide (x<=y)).length=ks.length:=List.length_mergeSort ks;subst hlen;rcases hown.2 with⟨h0,_⟩|⟨g',cap',cur,hv,hbase,hb,h1,h2,h3,h4⟩
 ·cases h0
 cases hv
 exact⟨ownsRow_sorted (n:=nn) (os:=os) (ts:=ks.mergeSort λx y=>decide (x<=y)) a0 hbase hb h1 h2 h3,hbel.grown (grownBy_sorted _) hbel.size (λj hj=>by cases hj;exact hbase)⟩
end
theorem Tf(h:House)(tv bv xv dv:Value)(w:World)(H:HV w h tv bv xv dv)(hok:J1 h.sh):
  Calls prog 37 #[.agg #[Iz h.now,Iz h.last,tv,bv,xv,dv]] w λe w'=>e=.returned (.bool (pB (Cf h)))/\Up w w':=by
 obtain⟨a1,c1,a2,c2,a3,c3,a4,c4,rfl,rfl,rfl,rfl⟩:=H.shapes;obtain⟨-,b3⟩:=H.x.inv rfl;have f5:h.sh.bs.length<=5:=hok.2.1;have Ha:Hid (Ad (G7 h.sh.bs)):=hok.2.2.2.1;have HB:=H.b;clear H hok;obtain⟨ii,hi,d7,d8,d9⟩:=info_parts V7;have b6:=(A5 w.heap.size w).alloc (A4 _) (.cells (Hcz h a1 c1 a2 c2 a3 c3 a4 c4).toArray 30);have hC:CB (w.alloc (.cells (Hcz h a1 c1 a2 c2 a3 c3 a4 c4).toArray 30)) w.heap.size (Hcz h a1 c1 a2 c2 a3 c3 a4 c4):=F3 w _ _;go_in;go_upto_region 1 with fail;generalize w.alloc (.cells (Hcz h a1 c1 a2 c2 a3 c3 a4 c4).toArray 30)=W1 at *;have c9:=hC.2.2;obtain⟨d0,d1,d2,d3,d4,d5⟩:=hC.c6;by_cases b4:h.bs.length=h.sh.bs.length
 case neg =>
  have HN:Hid (pB (Cf h)=false):=I5 λt=>b4 t.1;go_wp2_with fail;go_ret;exact⟨D8 HN.out.symm,b6⟩
 have Hll:Hid (h.bs.length=h.sh.bs.length):=b4;have f6:h.bs.length<=5:=by omega
 go_upto_region 3 with fail;clear b4;go_wp2_with fail;(try dsimp only[Iz,Sz,Sy,Nz,Vz,Tz,Ez,Pz]);go_loopw [3,5,17] (λu _ i w'=>∃k:Nat,k<=h.bs.length/\i=.int .i64 k/\w'.ownsRow W1.heap.size 9 1 u k ((K1 (h.bs.take k)).map Value.string)/\Up W1 w') (λ_ _ i _=>h.bs.length-(intOf i).toNat)
 case atStart=>exact⟨0,by omega,rfl,⟨by simp[K1],.inl ⟨rfl,rfl⟩⟩,A5 _ _⟩
 case round =>
  obtain⟨k,hk,rfl,a0,hB⟩:=hrel;clear d0 d1 d2 d3 d4 d5;by_cases hp:k<h.bs.length
  ·obtain⟨b,o,e6,hS,hb⟩:=b3 (by omega);subst e6;have a7:=D5 b6 hB;obtain⟨p,q,c,g,r,d,⟨e0,e1,e2,e3,e4,e5⟩,-⟩:=((hS.at hp).up a7 hb).open
   have Hs:Hid ((K1 (h.bs.take (k+1))).map Value.string=(K1 (h.bs.take k)).map Value.string++[Tz (h.bs[k]).nm]):=by
    show _=_
    rw[Uy h.bs k hp,List.map_append];rfl
   generalize h.bs[k]=x0 at *;clear hS;have b9:=hB.alloc hB.size (Kz [Tz x0.nm,Sy p q x0.ps.length c,Sy g r x0.sl.length d,Tz x0.ad,Iz x0.si,Iz x0.st] 40);have a8:=E4 a0 ((A5 wr.heap.size wr).alloc (A4 _) (Kz [Tz x0.nm,Sy p q x0.ps.length c,Sy g r x0.sl.length d,Tz x0.ad,Iz x0.si,Iz x0.st] 40));have hX:CB (wr.alloc (Kz [Tz x0.nm,Sy p q x0.ps.length c,Sy g r x0.sl.length d,Tz x0.ad,Iz x0.si,Iz x0.st] 40)) wr.heap.size [Tz x0.nm,Sy p q x0.ps.length c,Sy g r x0.sl.length d,Tz x0.ad,Iz x0.si,Iz x0.st]:=F3 wr _ _;have hz:=hB.size;go_upto_region 7 with fail;generalize wr.alloc (Kz [Tz x0.nm,Sy p q x0.ps.length c,Sy g r x0.sl.length d,Tz x0.ad,Iz x0.si,Iz x0.st] 40)=W2 at *;obtain⟨f0,-⟩:=hX.c6;clear e0 e1 e2 e3 e4 e5 a0 hB;have a5:=E4 a8 ((A5 W2.heap.size W2).alloc (A4 _) (Kz [Tz x0.nm] 9));have b2:=b9.alloc b9.size (Kz [Tz x0.nm] 9);go_wp2_with (at_builtin;refine wpList_append_own _ rfl _ _ 118 rfl W1.heap.size 9 ii _ 1 16 underlying118 hi d7 d8 d9 rfl (by decide) _ _ _ rfl a5 ⟨W2.heap.size,0,none⟩ 1 1 [Tz x0.nm] rfl rfl (AD _ _ _) (DG _) (by unfold maxLen;omega) (by omega) b2.size ?_)
   intro v1 w1 hown3 hgrow3 _;rw[← Hs.out] at hown3;have a9:=M1 b2 a5 hgrow3 (A4 _);clear a8 a5 hgrow3 b9 b2 hX f0;go_wp2_with fail;go_roundw
   case rel=>exact⟨k+1,by omega,by go_num,hown3,a9⟩
   case measure=>simp[intOf];omega
  ·have d6:k=h.bs.length:=by omega
   rw[d6,List.take_length] at a0;clear d6;have a7:=D5 b6 hB
   have hz:∀s∈K1 h.bs,s.size<=maxLen:=λs hs=>by
    obtain⟨x,hx,rfl⟩:=List.mem_map.1 hs;obtain⟨i,hi,rfl⟩:=B7 hx;obtain⟨b,o,rfl,hS,hb⟩:=b3 (by omega);obtain⟨rv,sv,-,hv⟩:=hS.at hi;exact hv.zn
   have HS:=Pd (h:=h) Ha.out Hll.out;have Hsrt:Hid (Ao (F1 (K1 h.bs))=F1 (G7 h.sh.bs)↔Cf h):=HS;have Hkl:Hid ((F1 (K1 h.bs)).length=h.bs.length):=by show _=_;simp[F1,K1]
   have Hz:Hid (∀s∈L0 (Ao (F1 (K1 h.bs))),s.size<=maxLen):=λs hs=>by
    have h1:s.toList∈F1 (L0 (Ao (F1 (K1 h.bs)))):=CT.2 hs;rw[Eg] at h1;have h2:s.toList∈F1 (K1 h.bs):=List.mem_mergeSort.1 h1;exact hz s (CT.1 h2)
   have Hfin:Hid (∀W,Up W1 W->∀u,Ls W u (L0 (Ao (F1 (K1 h.bs))))->∃x,True):=λ_ _ _ _=>⟨(),trivial⟩
   have Hans:Hid (pB (L0 (Ao (F1 (K1 h.bs)))=G7 h.sh.bs)=pB (Cf h)):=by
    show _=_
    rw[Bool.eq_iff_iff,K5,K5,← Hsrt.out];constructor
    ·intro e;rw[← e,Eg]
    ·intro e;rw[e];exact IL _
   clear HS hz Hfin Hsrt;rw[IE] at a0;obtain⟨d0,d1,d2,d3,d4,d5⟩:=(hC.up hB c9).c6;by_cases h0:h.bs.length=0
   ·rw[h0] at a0;obtain⟨ua,uc,hu⟩:=LQ a0;subst hu
    have HL:Hid (Ls wr (Vz ua 0 uc) (L0 (Ao (F1 (K1 h.bs))))):=by
     have e:h.bs=[]:=C4.1 h0;show Ls _ _ _
     rw[e];have e2:L0 (Ao (F1 (K1 ([]:List Rb))))=[]:=by simp[K1,F1,Ao,L0]
     rw[e2];exact Ls.nil _ _ _
    have H0:Hid (h.bs.length=0):=h0;clear a0 h0;go_wp2_with fail;refine Sx (Td _ _ _) ?_;go_wp2_with fail;refine (Df h.sh.bs _ _ (HB.up a7) (by omega)).mono ?_;rintro e w3 ⟨⟨u3,rfl,-,c5⟩,a9⟩;have c0:=HL.out.up a9;clear d0 d1 d2 d3 d4 d5;go_wp2_with fail;refine (Mr _ _ _ _ _ c0 c5).mono ?_;rintro e w4 ⟨rfl,c7⟩;have b0:=D5 (D5 a7 a9) c7;go_wp2_with fail;go_ret;exact⟨D8 Hans.out,b0⟩
   ·obtain⟨n',hN⟩:∃n,n=h.bs.length:=⟨_,rfl⟩;have b1:(F1 (K1 h.bs)).length=n':=by rw[Hkl.out,hN]
    rw[← hN] at a0;have f2:0<n':=by omega
    have f7:n'<=5:=by omega
    clear hN;obtain⟨g,b7,e7⟩:=I6 a0 f2;subst e7;obtain⟨g',e8,hv,f4,e9,c8,f1,_,hH⟩:=Lib.holds_of_ownsRow a0 (by simp);cases hv
    unfold maxLen at f1;have a6:=Vq g b7 (F1 (K1 h.bs)) wr hH e9 (by omega);rw[b1] at a6;go_wp2_with fail;refine a6.mono ?_;rintro e w2 ⟨rfl,nn,os,rfl⟩;clear a6;obtain⟨b8,b2⟩:=Te (nn:=nn) (os:=os) a0 hB b1
    have f3:Ls (Sort.grow (Sort.putRow encStr (Sort.ahead wr nn) g 0 ((F1 (K1 h.bs)).mergeSort λx y=>decide (x<=y)).toArray) os) (Sz g n' b7) (L0 (Ao (F1 (K1 h.bs)))):=by
     have b4:(L0 (Ao (F1 (K1 h.bs)))).length=n':=by simp[L0,Ao,List.length_mergeSort,b1]
     rw[JQ] at b8
     have:F7 (Sort.grow (Sort.putRow encStr (Sort.ahead wr nn) g 0 ((F1 (K1 h.bs)).mergeSort λx y=>decide (x<=y)).toArray) os) W1.heap.size (Sz g n' b7) (L0 (Ao (F1 (K1 h.bs)))):=by
      unfold F7;rw[b4];exact b8
     exact this.lst.ls Hz.out
    clear b8 hH;generalize Sort.grow (Sort.putRow encStr (Sort.ahead wr nn) g 0 ((F1 (K1 h.bs)).mergeSort λx y=>decide (x<=y)).toArray) os=W2 at *;have b5:=D5 b6 b2;clear d0 d1 d2 d3 d4 d5;obtain⟨d0,d1,d2,d3,d4,d5⟩:=(hC.up b2 c9).c6;go_wp2_with fail;refine (Df h.sh.bs _ _ (HB.up b5) (by omega)).mono ?_;rintro e w3 ⟨⟨u3,rfl,-,c5⟩,a9⟩;have c0:=f3.up a9;clear d0 d1 d2 d3 d4 d5;go_wp2_with fail;refine (Mr _ _ _ _ _ c0 c5).mono ?_;rintro e w4 ⟨rfl,c7⟩;have b0:=D5 (D5 b5 a9) c7;go_wp2_with fail;go_ret;exact⟨D8 Hans.out,b0⟩
theorem Vr(h:House)(tv bv xv dv:Value)(w:World)(hE:P2 w)(H:HV w h tv bv xv dv):
  Calls prog 38 #[.agg #[Iz h.now,Iz h.last,tv,bv,xv,dv]] w λe w'=>e=.returned (.bool (pB (DA h)))/\Up w w':=by
 obtain⟨a1,c1,a2,c2,a3,c3,a4,c4,rfl,rfl,rfl,rfl⟩:=H.shapes;obtain⟨a8,a9⟩:=H.x.inv rfl;unfold maxLen at a8;clear H;have HE:Hid (P2 w):=hE;clear hE;have a6:=(A5 w.heap.size w).alloc (A4 _) (.cells (Hcz h a1 c1 a2 c2 a3 c3 a4 c4).toArray 30);have hC:CB (w.alloc (.cells (Hcz h a1 c1 a2 c2 a3 c3 a4 c4).toArray 30)) w.heap.size (Hcz h a1 c1 a2 c2 a3 c3 a4 c4):=F3 w _ _;go_in;go_upto_region 1 with fail;generalize w.alloc (.cells (Hcz h a1 c1 a2 c2 a3 c3 a4 c4).toArray 30)=W1 at *;have b0:=hC.2.2;obtain⟨d0,d1,d2,d3,d4,d5⟩:=hC.c6;go_wp2_with fail;(try dsimp only[Iz,Sz,Sy,Nz,Vz,Tz,Ez,Pz]);go_loopw [3,5,9] (λah _ i w'=>∃(k:Nat)(a:Int),k<=h.bs.length/\i=.int .i64 k/\ah=.int .i64 a/\((k=0->a=0)/\(∀(j:Nat)(p:Rb),j+1=k->h.bs[j]?=some p->a=p.st)/\JX h.bs h.last k)/\Up W1 w') (λ_ _ i _=>h.bs.length-(intOf i).toNat)
 case atStart=>exact⟨0,0,by omega,rfl,rfl,⟨λ_=>rfl,λj p hj=>by omega,λi d hi=>by omega⟩,A5 _ _⟩
 case round =>
  obtain⟨k,a,hk,rfl,rfl,hinv,hB⟩:=hrel;have HI:Hid ((k=0->a=0)/\(∀(j:Nat)(p:Rb),j+1=k->h.bs[j]?=some p->a=p.st)/\JX h.bs h.last k):=hinv;clear hinv d0 d1 d2 d3 d4 d5;by_cases hp:k<h.bs.length
  ·obtain⟨b,o,b8,hS,hb⟩:=a9 (by omega);subst b8;have b1:=D5 a6 hB;obtain⟨p,q,c,g,r,d,⟨e0,e1,e2,e3,e4,e5⟩,hv⟩:=((hS.at hp).up b1 hb).open;obtain⟨-,d1,-⟩:=(hC.up hB b0).c6;have NO:Hid (¬Ku h.bs h.last k h.bs[k]->pB (DA h)=false):=λhn=>I5 λt=>hn (t k _ hp (A0 hp));have YES:Hid (Ku h.bs h.last k h.bs[k]->JX h.bs h.last (k+1)):=λhy=>EG (P:=Ku h.bs h.last) HI.out.2.2 hp hy
   have HT:Hid (∀(j:Nat)(p:Rb),j+1=k+1->h.bs[j]?=some p->(h.bs[k]).st=p.st):=λj p hj hp'=>by
    obtain rfl:j=k:=by omega
    rw[A0 hp] at hp';obtain rfl:=A6 hp';rfl
   have HP:Hid (a<(h.bs[k]).st->∀(j:Nat)(p:Rb),j+1=k->h.bs[j]?=some p->p.st<(h.bs[k]).st):=λht j p hj hp'=>by
    rw[← HI.out.2.1 j p hj hp'];exact ht
   have HQ:Hid ((h.bs[k]).st<=a->¬Ku h.bs h.last k h.bs[k]):=λht hd=>by
    obtain⟨i1,i2,-⟩:=HI.out;obtain⟨k0,-,k2⟩:=hd;have:=k0.2.2.2.1;rcases C3 k with e|e
    ·have:=i1 e;omega
    ·obtain⟨j,rfl⟩:∃j,k=j+1:=⟨k-1,by omega⟩;have hj:=A0 (l:=h.bs) (i:=j) (by omega);have:=k2 j _ rfl hj;have:=i2 j _ rfl hj;omega
   generalize h.bs[k]=x0 at *;clear hS;have b2:=hB.alloc hB.size (Kz [Tz x0.nm,Sy p q x0.ps.length c,Sy g r x0.sl.length d,Tz x0.ad,Iz x0.si,Iz x0.st] 40);have hX:CB (wr.alloc (Kz [Tz x0.nm,Sy p q x0.ps.length c,Sy g r x0.sl.length d,Tz x0.ad,Iz x0.si,Iz x0.st] 40)) wr.heap.size [Tz x0.nm,Sy p q x0.ps.length c,Sy g r x0.sl.length d,Tz x0.ad,Iz x0.si,Iz x0.st]:=F3 wr _ _;have b6:=hv.up ((A5 wr.heap.size wr).alloc (A4 _) (Kz [Tz x0.nm,Sy p q x0.ps.length c,Sy g r x0.sl.length d,Tz x0.ad,Iz x0.si,Iz x0.st] 40));have b7:=((A5 wr.heap.size wr).alloc (A4 _) (Kz [Tz x0.nm,Sy p q x0.ps.length c,Sy g r x0.sl.length d,Tz x0.ad,Iz x0.si,Iz x0.st] 40)).cell (p:=⟨w.heap.size,1,none⟩) (A2 b0 hB.size) |>.trans d1
   go_upto_region 5 with fail;generalize wr.alloc (Kz [Tz x0.nm,Sy p q x0.ps.length c,Sy g r x0.sl.length d,Tz x0.ad,Iz x0.si,Iz x0.st] 40)=W2 at *;obtain⟨f0,f1,f2,f3,f4,f5⟩:=hX.c6;have b3:=hX.2.2;have b4:w.heap.size<W2.heap.size:=A2 b0 b2.size;have b5:=D5 a6 b2;clear e0 e1 e2 e3 e4 e5 d1 hv;go_wp2_with fail;refine (Ei x0 _ _ _ (HE.out.up b5) b6).mono ?_;rintro e w3 ⟨rfl,a7⟩;have g5:=(a7.cell (p:=⟨wr.heap.size,5,none⟩) b3).trans f5;have g1:=(a7.cell (p:=⟨w.heap.size,1,none⟩) b4).trans b7;have a5:=D5 b2 a7;have a0:=D5 a6 a5;clear f0 f1 f2 f3 f4 f5 b7 a7 b6;cases q1:pB (M0 x0)
   ·have HN:Hid (pB (DA h)=false):=NO.out λt=>S1.1 q1 t.1;go_wp2_with fail;go_ret;exact⟨D8 HN.out.symm,a0⟩
   by_cases q2:a<x0.st
   case neg =>
    have HN:Hid (pB (DA h)=false):=NO.out (HQ.out (by omega));go_wp2_with fail;go_ret;exact⟨D8 HN.out.symm,a0⟩
   by_cases q3:x0.st<=h.last
   case neg =>
    have HN:Hid (pB (DA h)=false):=NO.out λt=>q3 t.2.1;go_wp2_with fail;go_ret;exact⟨D8 HN.out.symm,a0⟩
   have HY:Hid (JX h.bs h.last (k+1)):=YES.out ⟨K5.1 q1,q3,HP.out q2⟩;go_wp2_with fail;go_roundw
   case rel=>exact⟨k+1,x0.st,by omega,by go_num,rfl,⟨λe=>by omega,HT.out,HY.out⟩,a5⟩
   case measure=>simp[intOf];omega
  ·have HY:Hid (pB (DA h)=true):=L9 (by
    have:=HI.out.2.2;rwa [show k=h.bs.length by omega] at this)
   go_wp2_with fail;go_ret;exact⟨D8 HY.out.symm,D5 a6 hB⟩
theorem Vs{l:List BA}{s:BA}{k:Nat}(ha:Ad l)(hk:k<l.length)(e:l[k]=s):Ga l s=k:=by
 subst e;refine MB (Nat.le_of_lt hk) (λj x hj hx=>?_) (λj x hj hx=>?_)
 ·exact Ca ha (k-j-1) j x _ hx (by rw[show j+1+(k-j-1)=k by omega];exact A0 hk)
 ·rcases Nat.eq_or_lt_of_le hj with e|e
  ·subst e;rw[A0 hk] at hx;obtain rfl:=A6 hx;exact BH _
  ·have h1:=Ca ha (j-k-1) k _ x (A0 hk) (by rw[show k+1+(j-k-1)=j by omega];exact hx);cases hq:T6 x l[k]
   ·rfl
   ·have:=DS h1 hq;rw[BH] at this;cases this
theorem Yk:(prog.info? 115).map (·.size)=some 3:=by kernel_rfl
theorem Tg(nm:BA)(a1 a2:Option Addr)(n1 c1 n2 c2:Nat)(w:World):(Instr.field 115 (.agg #[Tz nm,Vz a1 n1 c1,Vz a2 n2 c2]) 2).run prog w=.ok (Vz a2 n2 c2) w:=by kernel_rfl
theorem Th(nm:BA)(a1 a2:Option Addr)(n1 c1 n2 c2:Nat)(w:World):(Instr.field 115 (.agg #[Tz nm,Vz a1 n1 c1,Vz a2 n2 c2]) 1).run prog w=.ok (Vz a1 n1 c1) w:=by kernel_rfl
theorem KQ(h:House)(x0:Rb)(a1 a2 a3 a4:Option Addr)(c1 c2 c3 c4 p q c g r d:Nat)(w:World)(H:Q6 w (.agg #[Vz a1 h.sh.tg.length c1,Vz a2 h.sh.bs.length c2]) h.sh)(hok:J1 h.sh)(hm:x0.nm∈G7 h.sh.bs):
  Calls prog 93 #[.agg (Hcz h a1 c1 a2 c2 a3 c3 a4 c4).toArray,.agg #[Tz x0.nm,Sy p q x0.ps.length c,Sy g r x0.sl.length d,Tz x0.ad,Iz x0.si,Iz x0.st]] w λe w'=>(∃b1 k1 b2 k2,e=.returned (.agg #[Tz (P5 h.sh x0.nm).nm,Vz b1 (P5 h.sh x0.nm).has.length k1,Vz b2 (P5 h.sh x0.nm).nj.length k2])/\Ls w' (Vz b1 (P5 h.sh x0.nm).has.length k1) (P5 h.sh x0.nm).has/\Ls w' (Vz b2 (P5 h.sh x0.nm).nj.length k2) (P5 h.sh x0.nm).nj)/\Up w w':=by
 obtain⟨k,hk,a9⟩:=Uh hm;have ha:=hok.2.2.2.1;have b7:=Kv ha hk a9;have a7:Ga (G7 h.sh.bs) x0.nm=k:=Vs ha (by rw[L8];exact hk) (by rw[Au _ _ hk];exact a9);have a0:=λW (hB:Up w W)=>Gb h.sh _ x0.nm W (H.up hB) hok;rw[a7] at a0;rw[b7];have c7:h.sh.bs.length<=5:=hok.2.1;obtain⟨b9,c0,b3,-,a',c',b4,-,a6⟩:=H;simp only[Value.agg.injEq,Array.mk.injEq,List.cons.injEq] at b3;obtain⟨-,rfl,-⟩:=b3;simp only[Value.slice.injEq] at b4;obtain⟨rfl,-,rfl⟩:=b4;obtain⟨bb,oo,rfl,hS,b0⟩:=a6 (by omega);have Hf:Hid (∀W,Up w W->Calls prog 146 #[.agg #[Vz a1 h.sh.tg.length c1,Sy bb oo h.sh.bs.length c2],Tz x0.nm] W λe w'=>e=.returned (.tuple #[Iz (k:Int),.bool (E3 (G7 h.sh.bs) x0.nm)])/\Up W w'):=a0;clear a0 a7 b7 a9 hm ha hok a6;go_in;go_upto_region 1 with fail;obtain⟨W1,b5,kP,kR,kO,b6,c5⟩:=cbE3 w [Iz h.now,Iz h.last,Vz a1 h.sh.tg.length c1,Sy bb oo h.sh.bs.length c2,Vz a3 h.bs.length c3,Vz a4 h.ds.length c4] 30 [Tz x0.nm,Sy p q x0.ps.length c,Sy g r x0.sl.length d,Tz x0.ad,Iz x0.si,Iz x0.st] 40 [Ez,Nz,Nz] 115;rw[b5];clear b5;obtain⟨d0,d1,d2,d3,d4,d5⟩:=kP.c6;obtain⟨e0,-⟩:=kR.c6;go_wp2_with fail;refine (Hf.out _ b6).mono ?_;rintro e w2 ⟨rfl,a8⟩;have c8:=a8.size;have a5:=D5 b6 a8;clear d0 d1 d2 d3 d4 d5 e0;obtain⟨d0,d1,d2,d3,d4,d5⟩:=(kP.up a8 (by omega)).c6;have b8:=kO.up a8 (by omega);obtain⟨⟨o0,o1,o2⟩,f0,f1,f2⟩:=b8.c3;obtain⟨ah,dh,an,dn,s0,s1,s2,l1,l2,-⟩:=(hS.at hk).cells;have t0:=(a5.cell (p:=⟨bb,oo+k*3,none⟩) b0).trans s0;have t1:=(a5.cell (p:=⟨bb,oo+k*3+1,none⟩) b0).trans s1;have t2:=(a5.cell (p:=⟨bb,oo+k*3+2,none⟩) b0).trans s2;clear s0 s1 s2;go_wp2_with fail;refine Xx results93 underlying115 rfl Yk b8 rfl ?_;have hg:=RY a5 (b:=w.heap.size+2) (by omega) (Tz (h.sh.bs[k]).nm) (Vz ah (h.sh.bs[k]).has.length dh) (Vz an (h.sh.bs[k]).nj.length dn);exact⟨⟨ah,dh,an,dn,rfl,l1.up hg,l2.up hg⟩,hg⟩
theorem Jr(nm ad:BA)(a1 a2:Option Addr)(n1 n2 c1 c2:Nat)(st:Int)(w:World):
  Calls prog 94 #[.agg #[Tz nm,Vz a1 n1 c1,Vz a2 n2 c2,Tz ad,Iz (-1),Iz st]] w λe w'=>e=.returned (.tuple #[Iz 0,.bool false])/\Up w w':=by
 have ta:∀w,(Instr.typeAssert (.iface 201 (.agg #[])) 131 195 true).run prog w=.ok (.tuple #[.agg #[Iz 0],.bool false]) w:=λ_=>by kernel_rfl
 have a3:=(A5 w.heap.size w).alloc (A4 _) (Kz [Tz nm,Vz a1 n1 c1,Vz a2 n2 c2,Tz ad,Iz (-1),Iz st] 40);go_in;go_wp2_with fail;refine (LU _ _ _ _ _ _ _ _ _ _).mono ?_;rintro e w1 ⟨rfl,a4⟩;have a0:=D5 a3 a4;go_wp2_with fail;go_returns
 exact⟨rfl,a0.alloc a0.size _⟩
theorem Lx(nm ad:BA)(a1 a2:Option Addr)(n1 n2 c1 c2:Nat)(si st:Int)(w:World)(h:¬si=-1):
  Calls prog 94 #[.agg #[Tz nm,Vz a1 n1 c1,Vz a2 n2 c2,Tz ad,Iz si,Iz st]] w λe w'=>e=.returned (.tuple #[Iz si,.bool true])/\Up w w':=by
 have ta:∀w,(Instr.typeAssert (.iface 195 (.agg #[Iz si])) 131 195 true).run prog w=.ok (.tuple #[.agg #[Iz si],.bool true]) w:=λ_=>by kernel_rfl
 have a3:=(A5 w.heap.size w).alloc (A4 _) (Kz [Tz nm,Vz a1 n1 c1,Vz a2 n2 c2,Tz ad,Iz si,Iz st] 40);have H:Hid (¬si=-1):=h;clear h;go_in;go_wp2_with fail;refine (Lj _ _ _ _ _ _ _ _ _ _ _ H.out).mono ?_;rintro e w1 ⟨rfl,a4⟩;have a0:=D5 a3 a4;go_wp2_with fail;go_returns
 exact⟨rfl,a0.alloc a0.size _⟩
noncomputable def Es(h:House)(k:Nat):House:=match h.bs[k]? with
 | none=>h
 | some x=>if 0<=x.si then h else if Fw h.sh x.nm (K7 x)=0 then {h with sh:=CG h.sh x.nm (K7 x),bs:=h.bs.set k {x with si:=0}} else h
noncomputable def Z4(h:House):Nat->House
 | 0=>h
 | k+1=>Es (Z4 h k) k
theorem KF{h:House}{k:Nat}{x:Rb}(hx:h.bs[k]?=some x):Es h k=if 0<=x.si then h else if Fw h.sh x.nm (K7 x)=0 then {h with sh:=CG h.sh x.nm (K7 x),bs:=h.bs.set k {x with si:=0}} else h:=by unfold Es;rw[hx]
theorem EZ.is{h h':House}{k:Nat}(H:EZ h k h'):h'=Es h k:=by
 obtain⟨x,hx,⟨h0,rfl⟩|⟨h0,cd,b',ha,hc⟩⟩:=H
 ·rw[KF hx,if_pos h0]
 ·obtain⟨rfl,rfl⟩:=Yi ha;rw[KF hx,if_neg (by omega)];rcases hc with⟨hc,rfl⟩|⟨hc,rfl⟩
  ·rw[if_neg hc]
  ·rw[if_pos hc]
theorem S3.is{h:House}:∀{k:Nat} {h':House},S3 h k h'->h'=Z4 h k
 | 0,_,e=>e
 | k+1,_,⟨m,hm,ha⟩=>by obtain rfl:=S3.is hm;exact ha.is
theorem Vt(h:House)(k:Nat):(Es h k).now=h.now/\(Es h k).last=h.last/\(Es h k).ds=h.ds/\(Es h k).bs.length=h.bs.length:=by
 unfold Es;split
 ·exact⟨rfl,rfl,rfl,rfl⟩
 ·split
  ·exact⟨rfl,rfl,rfl,rfl⟩
  ·split
   ·exact⟨rfl,rfl,rfl,by simp⟩
   ·exact⟨rfl,rfl,rfl,rfl⟩
theorem FI(h:House):∀k,(Z4 h k).now=h.now/\(Z4 h k).last=h.last/\(Z4 h k).ds=h.ds/\(Z4 h k).bs.length=h.bs.length
 | 0=>⟨rfl,rfl,rfl,rfl⟩
 | k+1=>by
  obtain⟨a1,a2,a3,a4⟩:=Vt (Z4 h k) k;obtain⟨b1,b2,b3,b4⟩:=FI h k;exact⟨a1.trans b1,a2.trans b2,a3.trans b3,a4.trans b4⟩
theorem Yl{h:House}(H:∀x∈h.bs,-1<=x.si)(k:Nat):∀x∈(Es h k).bs,-1<=x.si:=by
 unfold Es;split
 ·exact H
 ·split
  ·exact H
  ·split
   ·intro x hx;rcases List.mem_or_eq_of_mem_set hx with h1|rfl
    ·exact H x h1
    ·show (-1:Int)<=0;omega
   ·exact H
theorem PZ{h:House}(H:∀x∈h.bs,-1<=x.si):∀k,∀x∈(Z4 h k).bs,-1<=x.si
 | 0=>H
 | k+1=>Yl (PZ H k) k
def PH(w:World)(base y:Nat)(h:House):Prop:=∃tv bv xv dv,w.ownsRow base 30 6 (.slice (some ⟨y,0,none⟩) 1 1) 1 [.int .i64 h.now,.int .i64 h.last,tv,bv,xv,dv]/\HP w base h tv bv xv dv
theorem Qa{α:Type}{l:List α}{k:Nat}{a:α}(h:l[k]?=some a):l.set k a=l:=by
 obtain⟨hk,rfl⟩:=A3.1 h;exact List.set_getElem_self hk
theorem HP.since{w:World}{base g n cap k:Nat}{h:House}{tv bv tu bu dv:Value}{b':Bk}{x:Rb}(H:HP w base h tv bv (Sz g n cap) dv)(hx:h.bs[k]?=some x)(hb:S4 w base (.agg #[tu,bu]) b')(hz:Y0 b')(s:Int):
  HP (w.setCell ⟨g,k*6+4,none⟩ (Iz s)) base {h with sh:=b',bs:=h.bs.set k {x with si:=s}} tu bu (Sz g n cap) dv:=by
 obtain⟨ps,h1,h2⟩:=H.x;have a0:=hx;rw[← h2,B1,B6] at a0;obtain⟨⟨y,ru,su⟩,hp,e⟩:=a0;obtain rfl:y=x:=e;have hg:w.grownBy (w.setCell ⟨g,k*6+4,none⟩ (Iz s)) (Vz (some ⟨g,0,none⟩) n cap).ownBlock:=E1 (E2 _ _) _;have e1:(ps.set k (({y with si:=s}:Rb),ru,su)).map (·.2.1)=ps.map (·.2.1):=by rw[List.map_set];exact Qa (by rw[B1,hp];rfl)
 have e2:(ps.set k (({y with si:=s}:Rb),ru,su)).map (·.2.2)=ps.map (·.2.2):=by rw[List.map_set];exact Qa (by rw[B1,hp];rfl)
 refine⟨hb.step h1.1.1 (by decide) (by decide) hg,hz,⟨_,⟨h1.1.put (y:={y with si:=s}) hp (by omega) rfl rfl rfl rfl,?_,?_⟩,by rw[List.map_set,h2]⟩,⟨E5 H.d.1 hg (E9 H.d.1 h1.1.1 (by decide)),H.d.2⟩⟩
 ·rw[e1];exact h1.2.1
 ·rw[e2];exact h1.2.2
structure AQ (W:World) (h:House) (x:Rb) (X:World) (k11 k12:Option Value) (k16:Option Nat):Prop where
 B:Up W X
 s11:∀v,k11=some v->Ac X v (K7 x)
 s12:∀v,k12=some v->S4 X W.heap.size v (CG h.sh x.nm (K7 x))
 s16:∀y,k16=some y->X.ownsRow W.heap.size 26 2 (.slice (some ⟨y,0,none⟩) 1 1) 1 [.slice none 0 0,.slice none 0 0]
theorem AQ.up{W X X':World}{h:House}{x:Rb}{k11 k12:Option Value}{k16:Option Nat}(H:AQ W h x X k11 k12 k16)(hb:Up X X'):AQ W h x X' k11 k12 k16 :=
 ⟨D5 H.B hb,λv e=>(H.s11 v e).up hb,λv e=>(H.s12 v e).up hb,λy e=>E4 (H.s16 y e) hb⟩
theorem YU(W:World)(h:House)(x:Rb):AQ W h x W none none none:=⟨A5 _ _,λ_ h=>(by cases h),λ_ h=>(by cases h),λ_ h=>(by cases h)⟩
theorem AQ.own{W X X':World}{h:House}{x:Rb}{k11 k12:Option Value}{k16:Option Nat}{v:Value}(H:AQ W h x X k11 k12 k16)(hb:Up X X')(hv:Ac X' v (K7 x)):AQ W h x X' (some v) k12 k16 :=
 {H.up hb with s11:=λu e=>by cases e;exact hv}
theorem AQ.ask{W X X':World}{h:House}{x:Rb}{k11 k12:Option Value}{k16:Option Nat}{v:Value}(H:AQ W h x X k11 k12 k16)(hb:Up X X')(hv:S4 X' X.heap.size v (CG h.sh x.nm (K7 x))):AQ W h x X' k11 (some v) k16 :=
 {H.up hb with s12:=λu e=>by cases e;exact hv.low H.B.size}
theorem AQ.new{W X:World}{h:House}{x:Rb}{k11 k12:Option Value}{k16:Option Nat}(H:AQ W h x X k11 k12 k16):AQ W h x (X.alloc (Kz [Nz,Nz] 26)) k11 k12 (some X.heap.size) :=
 {H.up ((A5 _ _).alloc (A4 _) _) with s16:=λu e=>by cases e;exact C0 X _ 1 H.B.size (by unfold maxLen;omega) rfl}
theorem AQ.fin{W X:World}{h:House}{x:Rb}{k11:Option Value}{tu bu:Value}{y:Nat}(H:AQ W h x X k11 (some (.agg #[tu,bu])) (some y)):
  Up W ((X.setCell ⟨y,0,none⟩ tu).setCell ⟨y,1,none⟩ bu)/\S4 ((X.setCell ⟨y,0,none⟩ tu).setCell ⟨y,1,none⟩ bu) W.heap.size (.agg #[tu,bu]) (CG h.sh x.nm (K7 x))/\CB ((X.setCell ⟨y,0,none⟩ tu).setCell ⟨y,1,none⟩ bu) y [tu,bu]:=by
 have a0:=H.s16 y rfl;have h1:=B4 a0 0 tu;have h2:=B4 h1.1 1 bu;have hg:X.grownBy ((X.setCell ⟨y,0,none⟩ tu).setCell ⟨y,1,none⟩ bu) (Vz (some ⟨y,0,none⟩) 1 1).ownBlock:=E0 h1.2 h2.2;exact⟨L5 H.B H.B.size a0 hg (A4 _),(H.s12 _ rfl).step a0 (by decide) (by decide) hg,D7 h2.1⟩
end Go.Proofs.YtmonodehegcfhaaGreatDoor
namespace Go.Proofs.YtmonodehegcfhaaGreatDoor
open Go.Proofs.Tryz
open Go.Maps
theorem Xa{ps:List Ph}(hok:P3 ps=true){k:Nat}(hk:k<ps.length){nm:BA}(ha:U8 ps nm=(k:Int)):
  (∀x∈F1 (CA ps[k]),x∈F1 (O9 ps nm))/\(∀x∈F1 (O9 ps (ps[k]).t),x∈F1 (O9 ps nm))/\∀x∈F1 (O9 ps (ps[k]).e),x∈F1 (O9 ps nm):=by
 have e:O9 ps nm=Z0 (Z0 (CA ps[k]) (O9 ps (ps[k]).t)) (O9 ps (ps[k]).e):=Ou hok _ _ _ nm hk ha;refine⟨λx hx=>?_,λx hx=>?_,λx hx=>?_⟩
 ·rw[e];exact ((BJ _ _).1 x).2 (.inl (((BJ _ _).1 x).2 (.inl hx)))
 ·rw[e];exact ((BJ _ _).1 x).2 (.inl (((BJ _ _).1 x).2 (.inr hx)))
 ·rw[e];exact ((BJ _ _).1 x).2 (.inr hx)
theorem Xb{ps:List Ph}(hok:P3 ps=true){k:Nat}(hk:k<ps.length){nm:BA}(he:((ps[k]).nm.toList==nm.toList)=true):U8 ps nm=(k:Int):=by
 obtain rfl:=AE (beq_iff_eq.1 he);have hs:=((JJ ps).1 hok).2.2 k ps[k] hk (by simp[hk]);simp only[BG,Bool.and_eq_true,beq_iff_eq] at hs;exact hs.1.1.2
theorem Ym(p:Ph):p.a.toList∈F1 (CA p):=by
 unfold CA;split
 ·exact ((Le _ _).1 _).2 (.inl (by simp[F1]))
 ·simp[F1]
end Go.Proofs.YtmonodehegcfhaaGreatDoor
namespace Go.Proofs.YtmonodehegcfhaaGreatDoor
open Go.Proofs.Tryz
open Go.RowKit
def GL(w:World)(base:Nat)(h:House)(tv bv xv dv:Value):Prop:=HP w base h tv bv xv dv∨(h=N9/\tv=.slice none 0 0/\bv=.slice none 0 0/\xv=.slice none 0 0/\dv=.slice none 0 0)
def MO(call:BA)(c:Int):Value:=if c=0 then .nilIface else .iface 162 (.agg #[.string call,.iface 104 (.agg #[.int .i64 c])])
theorem Vu{x:Rb}(h:M0 x):0<x.ps.length/\0<x.sl.length:=by
 have h1:=((M3 x.ps).1 h.2.1).1;refine⟨by omega,?_⟩;have hn:P1 x.sl=O9 x.ps (I0 x.ps):=h.2.2.1.names;have ha:=Xb h.2.1 (k:=0) (by omega) (nm:=I0 x.ps) (by rw[BL (by omega)];simp);have hm:=(Xa h.2.1 (by omega) ha).1 _ (Ym _);have hl:(P1 x.sl).length=x.sl.length:=by simp[P1]
 rw[hn] at hl;rcases C3 x.sl.length with e|e
 ·rw[e] at hl;rw[C4.1 hl] at hm;simp[F1] at hm
 ·exact e
theorem GL.up{w w':World}{base:Nat}{h:House}{tv bv xv dv:Value}(H:GL w base h tv bv xv dv)(hb:Up w w'):GL w' base h tv bv xv dv:=H.imp (λx=>x.up hb) id
theorem GL.gr{w w':World}{base r:Nat}{h:House}{tv bv xv dv:Value}(H:GL w base h tv bv xv dv)(hg:w.grownBy w' (some r))(hr:r<base):GL w' base h tv bv xv dv:=H.imp (λx=>x.gr hg hr) id
theorem GL.low{w:World}{base base':Nat}{h:House}{tv bv xv dv:Value}(H:GL w base h tv bv xv dv)(hb:base'<=base):GL w base' h tv bv xv dv:=H.imp (λx=>x.low hb) id
theorem GL.v{w:World}{base:Nat}{h:House}{tv bv xv dv:Value}(H:GL w base h tv bv xv dv):HV w h tv bv xv dv:=by
 rcases H with H|⟨rfl,rfl,rfl,rfl,rfl⟩
 ·exact H.v
 ·exact KB w
def Xr(bs:List Rb):Prop:=∀x∈bs,x.ps.length<=100/\x.sl.length<=100
theorem Xr.set{bs:List Rb}(h:Xr bs){k:Nat}{x y:Rb}(hx:bs[k]?=some x)(h1:y.ps=x.ps)(h2:y.sl=x.sl):Xr (bs.set k y):=λz hz=>by
 rcases List.mem_or_eq_of_mem_set hz with h3|rfl
 ·exact h z h3
 ·rw[h1,h2];exact h x (A7 hx)
theorem F6.short{h:House}(H:F6 h):Xr h.bs:=λx hx=>by
 obtain⟨i,hi⟩:=C5.1 hx;have hk:=H.batch hi;have h1:=((M3 x.ps).1 hk.2.1).2.1;have h2:=N7.len hk.2.2.1;omega
def Bw(h:House)(nm:BA)(ps:List Ph)(sl:List Sl)(cd:Int)(h':House):Prop :=
 (¬F6 h/\cd=1/\h'=N9)∨(F6 h/\¬M0 (L3 h nm ps sl)/\cd=2/\h'=h)∨
 (F6 h/\M0 (L3 h nm ps sl)/\T4 h nm ps sl≠0/\cd=T4 h nm ps sl/\h'=h)∨
 (F6 h/\M0 (L3 h nm ps sl)/\T4 h nm ps sl=0/\h.last=1000000/\cd=4/\h'=h)∨
 (F6 h/\M0 (L3 h nm ps sl)/\T4 h nm ps sl=0/\¬h.last=1000000/\cd=0/\h'=Z4 (As h nm ps sl) (As h nm ps sl).bs.length)
theorem Vv{ps:List Ph}(h:0<ps.length):O6 ps (I0 ps)=true:=(CN _ _).2 ⟨0,ps[0],A0 h,by rw[BL h];exact beq_self_eq_true _⟩
theorem Et{h:House}(hk:F6 h)(nm:BA)(ps:List Ph)(sl:List Sl):M0 (L3 h nm ps sl)↔Cy nm ps sl:=by
 constructor
 ·rintro⟨h1,h2,h3,-⟩;exact⟨h2,h3,h1⟩
 ·rintro⟨h2,h3,h1⟩;have h0:0<ps.length:=by have:=((M3 ps).1 h2).1;omega
  have hh:=Vv h0;have hw:=(UM h2 _ (DL hh)).1;have hl:=hk.1.2.2.1;exact⟨h1,h2,h3,by show 1<=h.last+1;omega,hh,by show (-1:Int)<=-1;omega,by show (-1:Int)<(AF ps (I0 ps)).wi;omega⟩
theorem Vw{h h1 h2:House}{nm:BA}{ps:List Ph}{sl:List Sl}{c1 c2:Int}(H1:AX h nm ps sl c1 h1)(H2:Bw h nm ps sl c2 h2):c1=c2/\h1=h2:=by
 by_cases hk:F6 h
 case neg =>
  rcases H1 with⟨-,rfl,rfl⟩|⟨k,-⟩|⟨k,-⟩|⟨k,-⟩|⟨k,-⟩
  ·rcases H2 with⟨-,rfl,rfl⟩|⟨k,-⟩|⟨k,-⟩|⟨k,-⟩|⟨k,-⟩
   ·exact⟨rfl,rfl⟩
   all_goals exact absurd k hk
  all_goals exact absurd k hk
 case pos =>
  have hl:=hk.1.2.2.2;rcases H1 with⟨n1,-⟩|⟨-,n1,rfl,rfl⟩|⟨-,b1,s1,rfl,rfl⟩|⟨-,b1,s1,l1,rfl,rfl⟩|⟨-,b1,s1,l1,rfl,a1⟩
  ·exact absurd hk n1
  ·rcases H2 with⟨n2,-⟩|⟨-,n2,rfl,rfl⟩|⟨-,b2,-⟩|⟨-,b2,-⟩|⟨-,b2,-⟩
   ·exact absurd hk n2
   ·exact⟨rfl,rfl⟩
   all_goals exact absurd ((Et hk _ _ _).1 b2) n1
  ·rcases H2 with⟨n2,-⟩|⟨-,n2,-⟩|⟨-,-,-,rfl,rfl⟩|⟨-,-,s2,-⟩|⟨-,-,s2,-⟩
   ·exact absurd hk n2
   ·exact absurd ((Et hk _ _ _).2 b1) n2
   ·exact⟨rfl,rfl⟩
   all_goals exact absurd s2 s1
  ·rcases H2 with⟨n2,-⟩|⟨-,n2,-⟩|⟨-,-,s2,-⟩|⟨-,-,-,-,rfl,rfl⟩|⟨-,-,-,l2,-⟩
   ·exact absurd hk n2
   ·exact absurd ((Et hk _ _ _).2 b1) n2
   ·exact absurd s1 s2
   ·exact⟨rfl,rfl⟩
   ·exact absurd (by omega) l2
  ·rcases H2 with⟨n2,-⟩|⟨-,n2,-⟩|⟨-,-,s2,-⟩|⟨-,-,-,l2,-⟩|⟨-,-,-,-,rfl,rfl⟩
   ·exact absurd hk n2
   ·exact absurd ((Et hk _ _ _).2 b1) n2
   ·exact absurd s1 s2
   ·omega
   ·exact⟨rfl,a1.is⟩
theorem Ti(h:House)(tv bv xv dv:Value)(w:World)(hE:P2 w)(H:HV w h tv bv xv dv)(hok:J1 h.sh)(hN:Cf h):
  Calls prog 39 #[.agg #[Iz h.now,Iz h.last,tv,bv,xv,dv]] w λe w'=>e=.returned (.bool (pB (DB h h.bs.length)))/\Up w w':=by
 obtain⟨a1,c1,a2,c2,a3,c3,a4,c4,rfl,rfl,rfl,rfl⟩:=H.shapes;obtain⟨a7,a8⟩:=H.x.inv rfl;unfold maxLen at a7;have HK:=H.book;clear H;have HE:Hid (P2 w):=hE;have HM:Hid (J1 h.sh/\Cf h):=⟨hok,hN⟩;clear hE hok hN;have d9:=Tg;have a5:=(A5 w.heap.size w).alloc (A4 _) (.cells (Hcz h a1 c1 a2 c2 a3 c3 a4 c4).toArray 30);have hC:CB (w.alloc (.cells (Hcz h a1 c1 a2 c2 a3 c3 a4 c4).toArray 30)) w.heap.size (Hcz h a1 c1 a2 c2 a3 c3 a4 c4):=F3 w _ _;go_in;go_upto_region 1 with fail;generalize w.alloc (.cells (Hcz h a1 c1 a2 c2 a3 c3 a4 c4).toArray 30)=W1 at *;have b7:=hC.2.2;obtain⟨d0,d1,d2,d3,d4,d5⟩:=hC.c6;go_wp2_with fail;(try dsimp only[Iz,Sz,Sy,Nz,Vz,Tz,Ez,Pz]);go_loopw [4,8] (λ_ i w'=>∃k:Nat,k<=h.bs.length/\i=.int .i64 k/\DB h k/\Up W1 w') (λ_ i _=>h.bs.length-(intOf i).toNat)
 case atStart=>exact⟨0,by omega,rfl,λi b hi=>by omega,A5 _ _⟩
 case round =>
  obtain⟨k,hk,rfl,hinv,hB⟩:=hrel;have HI:Hid (DB h k):=hinv;clear hinv d0 d1 d2 d3 d4 d5;by_cases hp:k<h.bs.length
  ·obtain⟨b,o,d7,hS,hb⟩:=a8 (by omega);subst d7;have a9:=D5 a5 hB;obtain⟨p,q,c,g,r,d,⟨e0,e1,e2,e3,e4,e5⟩,hv⟩:=((hS.at hp).up a9 hb).open;have NO:Hid (¬(P5 h.sh (h.bs[k]).nm).nj=G8 h.bs[k] (h.bs[k]).ad->pB (DB h h.bs.length)=false):=λhn=>I5 λt=>hn (t k _ hp (A0 hp));have YES:Hid ((P5 h.sh (h.bs[k]).nm).nj=G8 h.bs[k] (h.bs[k]).ad->DB h (k+1)):=λhy=>EG (P:=λ_ (b:Rb)=>(P5 h.sh b.nm).nj=G8 b b.ad) HI.out hp hy;have Hmem:Hid ((h.bs[k]).nm∈G7 h.sh.bs):=HM.out.2.2.2 _ (List.mem_map.2 ⟨h.bs[k],by simp,rfl⟩);generalize h.bs[k]=x0 at *;clear hS;have a6:=hB.alloc hB.size (Kz [Tz x0.nm,Sy p q x0.ps.length c,Sy g r x0.sl.length d,Tz x0.ad,Iz x0.si,Iz x0.st] 40);have hX:CB (wr.alloc (Kz [Tz x0.nm,Sy p q x0.ps.length c,Sy g r x0.sl.length d,Tz x0.ad,Iz x0.si,Iz x0.st] 40)) wr.heap.size [Tz x0.nm,Sy p q x0.ps.length c,Sy g r x0.sl.length d,Tz x0.ad,Iz x0.si,Iz x0.st]:=F3 wr _ _;have b0:=hv.up ((A5 wr.heap.size wr).alloc (A4 _) (Kz [Tz x0.nm,Sy p q x0.ps.length c,Sy g r x0.sl.length d,Tz x0.ad,Iz x0.si,Iz x0.st] 40));go_upto_region 4 with fail;generalize wr.alloc (Kz [Tz x0.nm,Sy p q x0.ps.length c,Sy g r x0.sl.length d,Tz x0.ad,Iz x0.si,Iz x0.st] 40)=W2 at *;obtain⟨f0,f1,f2,f3,f4,f5⟩:=hX.c6;obtain⟨d0,d1,d2,d3,d4,d5⟩:=(hC.up a6 b7).c6;have b3:=hX.2.2;have b4:w.heap.size<W2.heap.size:=A2 b7 a6.size;have a0:=D5 a5 a6;have b8:Up W2 W2/\At W2 w.heap.size 0 (Iz h.now)/\At W2 w.heap.size 1 (Iz h.last)/\At W2 w.heap.size 2 (Vz a1 h.sh.tg.length c1)/\At W2 w.heap.size 3 (Vz a2 h.sh.bs.length c2)/\At W2 w.heap.size 4 (Sy b o h.bs.length c3)/\At W2 w.heap.size 5 (Vz a4 h.ds.length c4)/\At W2 wr.heap.size 0 (Tz x0.nm)/\At W2 wr.heap.size 1 (Sy p q x0.ps.length c)/\At W2 wr.heap.size 2 (Sy g r x0.sl.length d)/\At W2 wr.heap.size 3 (Tz x0.ad)/\At W2 wr.heap.size 4 (Iz x0.si)/\At W2 wr.heap.size 5 (Iz x0.st):=⟨A5 _ _,d0,d1,d2,d3,d4,d5,f0,f1,f2,f3,f4,f5⟩;have HSH:Hid (∀W,Up w W->Calls prog 93 #[.agg #[Iz h.now,Iz h.last,Vz a1 h.sh.tg.length c1,Vz a2 h.sh.bs.length c2,Sy b o h.bs.length c3,Vz a4 h.ds.length c4],.agg #[Tz x0.nm,Sy p q x0.ps.length c,Sy g r x0.sl.length d,Tz x0.ad,Iz x0.si,Iz x0.st]] W λe w'=>(∃b1 k1 b2 k2,e=.returned (.agg #[Tz (P5 h.sh x0.nm).nm,Vz b1 (P5 h.sh x0.nm).has.length k1,Vz b2 (P5 h.sh x0.nm).nj.length k2])/\Ls w' (Vz b1 (P5 h.sh x0.nm).has.length k1) (P5 h.sh x0.nm).has/\Ls w' (Vz b2 (P5 h.sh x0.nm).nj.length k2) (P5 h.sh x0.nm).nj)/\Up W w'):=λW hW=>KQ h x0 a1 a2 (some ⟨b,o,none⟩) a4 c1 c2 c3 c4 p q c g r d W (HK.up hW) HM.out.1 Hmem.out;clear e0 e1 e2 e3 e4 e5 hv d0 d1 d2 d3 d4 d5 f0 f1 f2 f3 f4 f5;have Hsz:Hid (∀s∈G8 x0 x0.ad,s.size<=maxLen):=Bo b0 x0.ad;have Hv:Hid (T1 W2 x0 (Sy p q x0.ps.length c) (Sy g r x0.sl.length d)):=b0;clear b0;generalize hy:P5 h.sh x0.nm=y at *;go_wp2_with fail
   go_region_held (λw'=>Up W2 w'/\At w' w.heap.size 0 (Iz h.now)/\At w' w.heap.size 1 (Iz h.last)/\At w' w.heap.size 2 (Vz a1 h.sh.tg.length c1)/\At w' w.heap.size 3 (Vz a2 h.sh.bs.length c2)/\At w' w.heap.size 4 (Sy b o h.bs.length c3)/\At w' w.heap.size 5 (Vz a4 h.ds.length c4)/\At w' wr.heap.size 0 (Tz x0.nm)/\At w' wr.heap.size 1 (Sy p q x0.ps.length c)/\At w' wr.heap.size 2 (Sy g r x0.sl.length d)/\At w' wr.heap.size 3 (Tz x0.ad)/\At w' wr.heap.size 4 (Iz x0.si)/\At w' wr.heap.size 5 (Iz x0.st)) (first|exact Gg b8|exact Gh b4 b3 (by assumption) (by assumption))
    (first
     | (go_at_call 93;refine (HSH.out _ a0.drew).mono ?_;rintro e w3 ⟨⟨s1,k1,s2,k2,rfl,-,c8⟩,b6⟩;have b9:=D5 a0.drew b6;have c0:=(Hv.out.up (A5 _ _).drew).up b6)
     | (go_at_call 10;refine (He x0 _ _ x0.ad _ (HE.out.up b9) c0).mono ?_;rintro e w4 ⟨⟨u4,rfl,c9⟩,d6⟩;have c5:=c8.up d6)
     | (go_at_call 92;refine (Tc _ _ _ _ _ c5 (c9.lst.ls Hsz.out)).mono ?_;rintro e w5 ⟨rfl,d8⟩))
   rename_i hHeld;have c7:=D5 a6 hHeld.1;have b5:=D5 a5 c7;clear hHeld b8 c8 c5 c9 b6 d6 d8 c0 b9;cases hq:pB (y.nj=G8 x0 x0.ad)
   ·have HN:Hid (pB (DB h h.bs.length)=false):=NO.out (S1.1 hq);go_wp2_with fail;go_ret;exact⟨D8 HN.out.symm,b5⟩
   ·have HY:Hid (DB h (k+1)):=YES.out (K5.1 hq);go_wp2_with fail;go_roundw
    case rel=>exact⟨k+1,by omega,by go_num,HY.out,c7⟩
    case measure=>simp[intOf];omega
  ·have HY:Hid (pB (DB h h.bs.length)=true):=L9 (by
    have:=HI.out;rwa [show k=h.bs.length by omega] at this)
   go_wp2_with fail;go_ret;exact⟨D8 HY.out.symm,D5 a5 hB⟩
end Go.Proofs.YtmonodehegcfhaaGreatDoor
