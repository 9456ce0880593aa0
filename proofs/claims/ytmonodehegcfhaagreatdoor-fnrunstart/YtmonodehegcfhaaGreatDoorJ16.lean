/- Houses, in plain: which are ok. -/
import Derived.Test.YtmonodehegcfhaaGreatDoorJ12
import Derived.Test.YtmonodehegcfhaaGreatDoorJ13
import Derived.Test.YtmonodehegcfhaaGreatDoorJ11
import Derived.Test.YtmonodehegcfhaaGreatDoorJ2
import Derived.Test.YtmonodehegcfhaaGreatDoorJ9
import Derived.Test.YtmonodehegcfhaaGreatDoorJ14
import Derived.Test.YtmonodehegcfhaaGreatDoorJ8
set_option maxHeartbeats 4000000
namespace Go.Proofs.YtmonodehegcfhaaGreatDoor
open Go.Proofs.Tryz
variable{x z:Ba}{b:Bk}{nm s:BA}{bs bs':List Ba}{g g' gone l order ss:List BA}{k n:Nat}
structure K0 where
 nm:BA
 e:Int
 t:Int
structure House where
 now:Int
 last:Int
 sh:Bk
 bs:List Rb
 ds:List K0
@[simp,go_sem] abbrev Hcz(h:House)(a1:Option Addr)(c1:Nat)(a2:Option Addr)(c2:Nat)(a3:Option Addr)(c3:Nat)(a4:Option Addr)(c4:Nat):List Value:=[.int .i64 h.now,.int .i64 h.last,.slice a1 h.sh.tg.length c1,.slice a2 h.sh.bs.length c2,.slice a3 h.bs.length c3,.slice a4 h.ds.length c4]
def DY(h:House):Prop:=0<=h.now/\h.now<=100000/\0<=h.last/\h.last<=1000000
def Dz(ds:List K0)(now:Int)(i:Nat)(d:K0):Prop:=G0 d.nm=true/\1<=d.e/\d.e<=3/\0<=d.t/\d.t<=now/\∀(j:Nat)(p:K0),j+1=i->ds[j]?=some p->p.t<=d.t
def CE(ds:List K0)(now:Int)(k:Nat):Prop:=∀(i:Nat)(d:K0),i<k->ds[i]?=some d->Dz ds now i d
def U0(h:House):Prop:=h.ds.length<=20/\CE h.ds h.now h.ds.length
def BW(b:Bk):Prop:=∃ss,R9 b ss true
def Ku(bs:List Rb)(last:Int)(i:Nat)(b:Rb):Prop:=M0 b/\b.st<=last/\∀(j:Nat)(p:Rb),j+1=i->bs[j]?=some p->p.st<b.st
def JX(bs:List Rb)(last:Int)(k:Nat):Prop:=∀(i:Nat)(b:Rb),i<k->bs[i]?=some b->Ku bs last i b
def DA(h:House):Prop:=JX h.bs h.last h.bs.length
def K1(bs:List Rb):List BA:=bs.map (·.nm)
def Cf(h:House):Prop:=h.bs.length=h.sh.bs.length/\(K1 h.bs).Nodup/\∀s∈K1 h.bs,s∈G7 h.sh.bs
def P5(b:Bk)(nm:BA):Ba:=(b.bs.find? λx=>x.nm.toList==nm.toList).getD ⟨⟨#[]⟩,[],[]⟩
def DB(h:House)(k:Nat):Prop:=∀(i:Nat)(b:Rb),i<k->h.bs[i]?=some b->(P5 h.sh b.nm).nj=G8 b b.ad
def CR(h:House)(k:Nat):Prop:=∀(i:Nat)(b:Rb),i<k->h.bs[i]?=some b->0<=b.si->BZ (K7 b) (P5 h.sh b.nm).has
def F6(h:House):Prop:=DY h/\U0 h/\BW h.sh/\Cf h/\DA h/\DB h h.bs.length/\CR h h.bs.length
theorem RA{ok:Bool}(h:R9 b ss ok):ok=pB (BW b):=by
 cases ok with
 | true=>exact (L9 ⟨ss,h⟩).symm
 | false=>exact (I5 λ⟨ss',h'⟩=>by have:=(h.uniq h').2;cases this).symm
theorem BW.book(h:BW b):J1 b:=by
 obtain⟨ss,⟨_,hb,_⟩|⟨h0,_⟩⟩:=h
 ·exact hb
 ·cases h0
theorem AK(bs:List Rb):(K1 bs).length=bs.length:=by simp[K1]
theorem EG{α:Type}{P:Nat->α->Prop}{l:List α}(h:∀(i:Nat)(a:α),i<k->l[i]?=some a->P i a)(hk:k<l.length)(hl:P k l[k]):∀(i:Nat)(a:α),i<k+1->l[i]?=some a->P i a:=λi a hi ha=>by
 by_cases e:i=k
 ·subst e;rw[A0 hk] at ha;obtain rfl:=A6 ha;exact hl
 ·exact h i a (by omega) ha
theorem Kv(ha:Ad (G7 b.bs))(hk:k<b.bs.length)(e:(b.bs[k]).nm=nm):P5 b nm=b.bs[k]:=by
 have:(b.bs.find? λx=>x.nm.toList==nm.toList)=some b.bs[k]:=by
  rw[List.find?_eq_some_iff_getElem];refine⟨by rw[e];simp,k,hk,rfl,λj hj=>?_⟩;have a0:j<b.bs.length:=by omega
  cases hq:((b.bs[j]).nm.toList==nm.toList)
  ·simp
  ·have e2:(b.bs[j]).nm=nm:=CL (by simpa using hq);have h1:(G7 b.bs)[j]?=some nm:=by rw[A0 (by rw[L8];exact a0),Au _ _ a0,e2]
   have h2:(G7 b.bs)[k]?=some nm:=by rw[A0 (by rw[L8];exact hk),Au _ _ hk,e]
   have:=Fh ha h1 h2;omega
 rw[P5,this];rfl
theorem Uh(h:nm∈G7 b.bs):∃k,∃hk:k<b.bs.length,(b.bs[k]).nm=nm:=by
 obtain⟨x,hx,rfl⟩:=List.mem_map.1 h;obtain⟨i,hi,rfl⟩:=B7 hx;exact⟨i,hi,rfl⟩
theorem LR:(F1 l).Nodup↔l.Nodup:=by
 unfold List.Nodup F1;rw[List.pairwise_map];constructor
 ·exact λh=>h.imp λh e=>h (by rw[e])
 ·exact λh=>h.imp λh e=>h (AE e)
theorem Wj(h:Ad l):(F1 l).Pairwise (· < ·):=by
 rw[List.pairwise_iff_getElem];intro i j hi hj hij;have a0:i<l.length:=by simpa [F1] using hi
 have a1:j<l.length:=by simpa [F1] using hj
 have:=Ca h (j-i-1) i _ _ (A0 a0) (by rw[show i+1+(j-i-1)=j by omega];exact A0 a1);unfold T6 at this;rw[Ib] at this;simpa [F1] using this
theorem Wk(h:(F1 l).Pairwise (· < ·)):Ad l:=λi a b _ ha hb=>by
 obtain⟨h1,rfl⟩:=A3.1 ha;obtain⟨h2,rfl⟩:=A3.1 hb;have:=List.pairwise_iff_getElem.1 h i (i+1) (by simpa [F1] using h1) (by simpa [F1] using h2) (by omega);unfold T6;rw[Ib];simpa [F1] using this
theorem CT:s.toList∈F1 l↔s∈l:=by
 simp only[F1,List.mem_map];exact⟨λ⟨x,hx,e⟩=>by rwa [← AE e],λh=>⟨s,h,rfl⟩⟩
theorem XG(l:List Sl)(ss:List BA):Ad (Af l ss):=Wk (FZ l ss).1
theorem Ui(x:Rb):Ad (K7 x):=by
 unfold K7;split
 ·exact XG _ _
 ·exact λi a b hi ha=>by simp at ha
def Ao(l:List Ae):List Ae:=l.mergeSort λx y=>decide (x<=y)
theorem Pd{h:House}(ha:Ad (G7 h.sh.bs))(hl:h.bs.length=h.sh.bs.length):Ao (F1 (K1 h.bs))=F1 (G7 h.sh.bs)↔Cf h:=by
 have hm:∀x,x∈Ao (F1 (K1 h.bs))↔x∈F1 (K1 h.bs):=λx=>List.mem_mergeSort;have hp:(Ao (F1 (K1 h.bs))).Perm (F1 (K1 h.bs)):=List.mergeSort_perm _ _;have hs:=Wj ha;constructor
 ·intro e;rw[e] at hp hm;refine⟨hl,LR.1 (hp.nodup_iff.1 (DV hs)),λs a1=>CT.1 ((hm _).2 (CT.2 a1))⟩
 ·rintro⟨-,hn,hmem⟩;have a3:=LR.2 hn
  have a0:∀x∈F1 (K1 h.bs),x∈F1 (G7 h.sh.bs):=λx hx=>by
   simp only[F1,List.mem_map] at hx;obtain⟨s,a1,rfl⟩:=hx;exact CT.2 (hmem s a1)
  have a4:(F1 (K1 h.bs)).length=(F1 (G7 h.sh.bs)).length:=by simp[F1,K1,G7,hl]
  have a2:∀x∈F1 (G7 h.sh.bs),x∈F1 (K1 h.bs):=λx hx=>by
   by_cases hxx:x∈F1 (K1 h.bs)
   ·exact hxx
   ·have:=Ey ((F1 (G7 h.sh.bs)).erase x) (F1 (K1 h.bs)) a3 λy hy=>by
     rw[(DV hs).mem_erase_iff];exact⟨λe=>hxx (by rw[← e];exact hy),a0 y hy⟩
    rw[List.length_erase_of_mem hx] at this;have:=List.length_pos_of_mem hx;omega
  have a5:(Ao (F1 (K1 h.bs))).Nodup:=hp.nodup_iff.2 a3
  have a6:(Ao (F1 (K1 h.bs))).Pairwise (·<=·):=by
   have:=List.pairwise_mergeSort (le:=λ(x y:Ae)=>decide (x<=y)) (λa b c h k=>by
    simp only[decide_eq_true_eq] at *;exact List.le_trans h k) (λa b=>by
    simp only[Bool.or_eq_true,decide_eq_true_eq];exact List.le_total a b) (F1 (K1 h.bs))
   simpa [Ao] using this
  have a7:(Ao (F1 (K1 h.bs))).Pairwise (· < ·):=by
   refine (a6.and a5).imp λ⟨h1,h2⟩=>?_;rcases LH.1 h1 with k|k
   ·exact k
   ·exact absurd k h2
  exact Ed _ _ a7 hs λx=>by rw[hm];exact⟨a0 x,a2 x⟩
end Go.Proofs.YtmonodehegcfhaaGreatDoor
namespace Go.Proofs.YtmonodehegcfhaaGreatDoor
open Go.Proofs.Tryz
open Go.RowKit
variable{x z:Ba}{b:Bk}{nm s:BA}{bs bs':List Ba}{g g' gone l order ss:List BA}{k n:Nat}
theorem IK(ss:List BA)(v:Value)(nm:BA)(w:World)(h:R8 w v ss)(hn:ss.length<=1000):
  Calls prog 138 #[v,Tz nm] w λe w'=>(∃u,e=.returned u/\R8 w' u (M7 ss nm))/\Up w w':=by
 have hT:=h;obtain⟨g,c,rfl,hS,hg,hc,a9⟩:=h;unfold maxLen at a9;obtain⟨ii,hi,a1,a2,a3⟩:=info_parts V7;have HT:Hid (R8 w (Sz g ss.length c) ss):=hT;clear hT;go_in;go_wp2_with fail;go_loop [5] (λi=>∃k:Nat,k<=ss.length/\i=.int .i64 k/\JI ss nm k) (λi=>ss.length-(intOf i).toNat)
 case atStart=>exact⟨0,by omega,rfl,λj s hj=>by omega⟩
 case round =>
  obtain⟨k,hk,rfl,a4⟩:=hrel;have Hlow:Hid (JI ss nm k):=a4;clear a4;by_cases hp:k<ss.length
  ·have c0:=hS k ss[k] (by simp[hp]);simp only[Nat.zero_add] at c0;cases hl:Op.bytesLess (ss[k]).toList nm.toList
   case true =>
    have Hl:Hid (DD ss[k] nm=true):=hl;go_wp2_with fail;go_round
    case rel=>exact⟨k+1,by omega,by go_num,MQ Hlow.out hp Hl.out⟩
    case measure=>simp[intOf];omega
   have Hl:Hid (DD ss[k] nm=false):=hl;cases hq:((ss[k]).toList==nm.toList)
   case true =>
    have Hq:Hid (M7 ss nm=ss):=KW ss nm k Hlow.out ⟨ss[k],by simp[hp],Hl.out,hq⟩;go_wp2_with fail;go_ret;exact⟨⟨_,rfl,by rw[Hq.out];exact HT.out⟩,A5 _ _⟩
   have Hq:Hid (M7 ss nm=ss.take k++nm::ss.drop k):=FU ss nm k Hlow.out hk (λs hs=>by
    obtain⟨_,rfl⟩:=A3.1 hs;exact⟨Hl.out,hq⟩)
   go_wp2_with fail
   obtain⟨o2,a0⟩:∃o2:Nat,(if c=k then some (⟨g,0,none⟩:Addr) else some ⟨g,k,none⟩)=some ⟨g,o2,none⟩/\F9 w g o2 (ss.drop k):=by
    by_cases h7:c=k
    ·exact⟨0,by rw[if_pos h7],λi s hs=>by
      have:=(A3.1 hs).1;simp at this;omega⟩
    ·exact⟨k,by rw[if_neg h7],by have:=hS.drop k;simpa using this⟩
   obtain⟨a0,-⟩:=a0;have Nb:((w.alloc (Kz [] 9)).alloc (Kz [Tz nm] 9)).drew.cell? ⟨w.heap.size+1,0,none⟩=some (Tz nm):=by simp[go_sem]
   have a6:some (w.heap.size+1)≠(Vz (some ⟨w.heap.size,0,none⟩) 0 0).ownBlock:=by simp[Value.ownBlock]
   have Nc:((w.alloc (Kz [Tz nm] 9)).alloc (Kz [] 9)).drew.cell? ⟨w.heap.size,0,none⟩=some (Tz nm):=by simp[go_sem]
   have a7:some w.heap.size≠(Vz (some ⟨w.heap.size+1,0,none⟩) 0 0).ownBlock:=by simp[Value.ownBlock]
   have b0:k<=c:=by omega
   have Fa:=(Cz hS (A5 w.heap.size w)).drew;have Fb:=((Cz hS (A5 w.heap.size w)).alloc (Kz [Tz nm] 9)).drew;have Fc:=(Cz (hS.alloc (Kz [Tz nm] 9)) ((A5 w.heap.size w).alloc (A4 _) (Kz [Tz nm] 9))).drew;rw[show (w.alloc (Kz [Tz nm] 9)).heap.size=w.heap.size+1 by simp] at Fc
   go_region_law (first
    | (revert h2;intro h2;refine J0 rfl _ _ 23 rfl w.heap.size 9 ii _ 1 16 underlying23 hi a1 a2 a3 rfl (by decide) _ _ _ rfl h2.1 ⟨g,o2,none⟩ (ss.length-k) _ ((ss.drop k).map Value.string) rfl (by simp) (S0 (Gr h2.2.1 a0 hc)) (CJ _) (by unfold maxLen;omega) (by omega) h2.2.2.size ?_;intro v3 w3 hown3 hgrow3;have h3:=h2.grow hg hgrow3 hown3;clear h2 hown3 hgrow3)
    | (revert h1;intro h1;refine J0 rfl _ _ 23 rfl w.heap.size 9 ii _ 1 16 underlying23 hi a1 a2 a3 rfl (by decide) _ _ _ rfl (by first|exact h1.1|exact (h1.alloc _).1) _ 1 1 [Tz nm] rfl rfl (by first|exact AD _ _ _|exact Kp a5) (DG nm) (by unfold maxLen;omega) (by omega) (by first|exact h1.2.2.size|exact (h1.alloc _).2.2.size) ?_;intro v2 w2 hown2 hgrow2;first|have h2:=h1.grow hg hgrow2 hown2|have h2:=(h1.alloc _).grow hg hgrow2 hown2;clear h1 hown2 hgrow2)
    | (refine J0 rfl _ _ 23 rfl w.heap.size 9 ii _ 1 16 underlying23 hi a1 a2 a3 rfl (by decide) _ 0 [] rfl (by first|exact Fa.1|exact Fb.1|exact Fc.1) ⟨g,0,none⟩ k _ ((ss.take k).map Value.string) rfl (by simp;omega) (by first|exact S0 (Fa.2.1.take k)|exact S0 (Fb.2.1.take k)|exact S0 (Fc.2.1.take k)) (CJ _) (by unfold maxLen;omega) (by omega) (by first|exact Fa.2.2.size|exact Fb.2.2.size|exact Fc.2.2.size) ?_;intro v1 w1 hown1 hgrow1;first|(have h1:=Fa.grow hg hgrow1 hown1)|(have h1:=Fb.grow hg hgrow1 hown1;have a5:=hgrow1.cell Nb a6)|(have h1:=Fc.grow hg hgrow1 hown1;have a5:=hgrow1.cell Nc a7);clear hown1 hgrow1))
   all_goals
    have HT3:R8 w3 v3 (M7 ss nm):=by
     rw[Hq.out];exact R8.own (n:=0+k+1+(ss.length-k)) (by simpa using h3.1) (by simp;omega) (I6 h3.1 (by omega))
    have a8:=h3.2.2;clear h3;go_wp2_with fail;go_ret;exact⟨⟨_,rfl,HT3⟩,a8⟩
  ·have Hq:Hid (M7 ss nm=ss.take k++nm::ss.drop k):=FU ss nm k Hlow.out hk (λs hs=>by
    have:=(A3.1 hs).1;omega)
   go_wp2_with fail
   obtain⟨o2,a0⟩:∃o2:Nat,(if c=k then some (⟨g,0,none⟩:Addr) else some ⟨g,k,none⟩)=some ⟨g,o2,none⟩/\F9 w g o2 (ss.drop k):=by
    by_cases h7:c=k
    ·exact⟨0,by rw[if_pos h7],λi s hs=>by
      have:=(A3.1 hs).1;simp at this;omega⟩
    ·exact⟨k,by rw[if_neg h7],by have:=hS.drop k;simpa using this⟩
   obtain⟨a0,-⟩:=a0;have Nb:((w.alloc (Kz [] 9)).alloc (Kz [Tz nm] 9)).drew.cell? ⟨w.heap.size+1,0,none⟩=some (Tz nm):=by simp[go_sem]
   have a6:some (w.heap.size+1)≠(Vz (some ⟨w.heap.size,0,none⟩) 0 0).ownBlock:=by simp[Value.ownBlock]
   have Nc:((w.alloc (Kz [Tz nm] 9)).alloc (Kz [] 9)).drew.cell? ⟨w.heap.size,0,none⟩=some (Tz nm):=by simp[go_sem]
   have a7:some w.heap.size≠(Vz (some ⟨w.heap.size+1,0,none⟩) 0 0).ownBlock:=by simp[Value.ownBlock]
   have b0:k<=c:=by omega
   have Fa:=(Cz hS (A5 w.heap.size w)).drew;have Fb:=((Cz hS (A5 w.heap.size w)).alloc (Kz [Tz nm] 9)).drew;have Fc:=(Cz (hS.alloc (Kz [Tz nm] 9)) ((A5 w.heap.size w).alloc (A4 _) (Kz [Tz nm] 9))).drew;rw[show (w.alloc (Kz [Tz nm] 9)).heap.size=w.heap.size+1 by simp] at Fc
   go_region_law (first
    | (revert h2;intro h2;refine J0 rfl _ _ 23 rfl w.heap.size 9 ii _ 1 16 underlying23 hi a1 a2 a3 rfl (by decide) _ _ _ rfl h2.1 ⟨g,o2,none⟩ (ss.length-k) _ ((ss.drop k).map Value.string) rfl (by simp) (S0 (Gr h2.2.1 a0 hc)) (CJ _) (by unfold maxLen;omega) (by omega) h2.2.2.size ?_;intro v3 w3 hown3 hgrow3;have h3:=h2.grow hg hgrow3 hown3;clear h2 hown3 hgrow3)
    | (revert h1;intro h1;refine J0 rfl _ _ 23 rfl w.heap.size 9 ii _ 1 16 underlying23 hi a1 a2 a3 rfl (by decide) _ _ _ rfl (by first|exact h1.1|exact (h1.alloc _).1) _ 1 1 [Tz nm] rfl rfl (by first|exact AD _ _ _|exact Kp a5) (DG nm) (by unfold maxLen;omega) (by omega) (by first|exact h1.2.2.size|exact (h1.alloc _).2.2.size) ?_;intro v2 w2 hown2 hgrow2;first|have h2:=h1.grow hg hgrow2 hown2|have h2:=(h1.alloc _).grow hg hgrow2 hown2;clear h1 hown2 hgrow2)
    | (refine J0 rfl _ _ 23 rfl w.heap.size 9 ii _ 1 16 underlying23 hi a1 a2 a3 rfl (by decide) _ 0 [] rfl (by first|exact Fa.1|exact Fb.1|exact Fc.1) ⟨g,0,none⟩ k _ ((ss.take k).map Value.string) rfl (by simp;omega) (by first|exact S0 (Fa.2.1.take k)|exact S0 (Fb.2.1.take k)|exact S0 (Fc.2.1.take k)) (CJ _) (by unfold maxLen;omega) (by omega) (by first|exact Fa.2.2.size|exact Fb.2.2.size|exact Fc.2.2.size) ?_;intro v1 w1 hown1 hgrow1;first|(have h1:=Fa.grow hg hgrow1 hown1)|(have h1:=Fb.grow hg hgrow1 hown1;have a5:=hgrow1.cell Nb a6)|(have h1:=Fc.grow hg hgrow1 hown1;have a5:=hgrow1.cell Nc a7);clear hown1 hgrow1))
   all_goals
    have HT3:R8 w3 v3 (M7 ss nm):=by
     rw[Hq.out];exact R8.own (n:=0+k+1+(ss.length-k)) (by simpa using h3.1) (by simp;omega) (I6 h3.1 (by omega))
    have a8:=h3.2.2;clear h3;go_wp2_with fail;go_ret;exact⟨⟨_,rfl,HT3⟩,a8⟩
theorem Pe(a b:List BA)(va vb:Value)(w:World)(ha:R8 w va a)(hb:R8 w vb b)(hn:a.length+b.length<=900):
  Calls prog 121 #[va,vb] w λe w'=>(∃u,e=.returned u/\R8 w' u (Z0 a b))/\Up w w':=by
 have a4:=hb;obtain⟨g,c,rfl,hS,hg,hc,a3⟩:=hb;go_in;go_wp2_with fail;go_loopw [0,5] (λu i w'=>∃k:Nat,k<=b.length/\i=.int .i64 k/\R8 w' u (Z0 a (b.take k))/\Up w w') (λ_ i _=>b.length-(intOf i).toNat)
 case atStart=>exact⟨0,by omega,rfl,by simpa [Z0] using ha,A5 _ _⟩
 case round =>
  obtain⟨k,hk,rfl,hT,hB⟩:=hrel;by_cases hp:k<b.length
  ·have c0:=(hB.cell (p:=⟨g,0+k,none⟩) hg).trans (hS k b[k] (by simp[hp]));simp only[Nat.zero_add] at c0;have hl:=Gs a (b.take k);rw[B8] at hl;go_wp2_with fail;refine (IK (Z0 a (b.take k)) _ b[k] _ hT (by omega)).mono ?_;rintro e w1 ⟨⟨u,rfl,a0⟩,a1⟩;have a2:=D5 hB a1;rw[← Sa a b k hp] at a0;clear hB a1 hT c0;go_wp2_with fail;go_roundw
   case rel=>exact⟨k+1,by omega,by go_num,a0,a2⟩
   case measure=>simp[intOf];omega
  ·go_wp2_with fail;go_ret;exact⟨⟨_,rfl,by rw[D2 (by omega)] at hT;exact hT⟩,hB⟩
theorem XH(w:World)(s:BA):R8 (w.alloc (Kz [Tz s] 9)) (Sz w.heap.size 1 1) [s] :=
 ⟨w.heap.size,1,rfl,K8 w [s] 9,by simp,by simp,by unfold maxLen;omega⟩
theorem RB(p:Ph)(w:World):
  Calls prog 122 #[.agg #[Tz p.nm,Iz p.k,Tz p.a,Tz p.b,Iz p.n,Iz p.wi,Tz p.t,Tz p.e]] w λe w'=>(∃u,e=.returned u/\R8 w' u (CA p))/\Up w w':=by
 obtain⟨pn,pk,pa,pb,pm,pw,pt,pe⟩:=p;simp only;have a2:Up w (w.alloc (Kz [Tz pn,Iz pk,Tz pa,Tz pb,Iz pm,Iz pw,Tz pt,Tz pe] 43)):=(A5 _ _).alloc (A4 _) _;have a0:=XH (w.alloc (Kz [Tz pn,Iz pk,Tz pa,Tz pb,Iz pm,Iz pw,Tz pt,Tz pe] 43)) pa;have a1:=D5 a2 ((A5 _ _).alloc (A4 _) (Kz [Tz pa] 9));rw[show (w.alloc (Kz [Tz pn,Iz pk,Tz pa,Tz pb,Iz pm,Iz pw,Tz pt,Tz pe] 43)).heap.size=w.heap.size+1 by simp] at a0;by_cases hk:pk=2
 ·subst hk;go_in;go_wp2_with fail;refine (IK [pa] _ pb _ a0 (by simp)).mono ?_;rintro e w1 ⟨⟨u,rfl,a5⟩,a3⟩;have a4:=D5 a1 a3;clear a2 a1 a3 a0;go_wp2_with fail;go_ret;exact⟨⟨_,rfl,a5⟩,a4⟩
 ·have a6:(pk==2)=false:=by simpa using hk
  have Ho:Hid (CA ⟨pn,pk,pa,pb,pm,pw,pt,pe⟩=[pa]):=by show _=_;rw[CA,if_neg hk]
  go_in;go_wp2_with fail;go_ret;exact⟨⟨_,rfl,by rw[Ho.out];exact a0⟩,a1⟩
theorem Dl(ps:List Ph)(b o c:Nat)(w:World)(hr:M2 w b o ps)(hb:b<w.heap.size)(hs:Dd ps)(hn:ps.length<=1048576):
  Calls prog 26 #[Sy b o ps.length c] w λe w'=>e=.returned (.bool (P3 ps))/\Up w w':=by
 by_cases hl:1<=ps.length/\ps.length<=12
 case neg =>
  have h2:Ai ps.length 1 12=false:=(Fe _ _ _).2 (by omega);go_in;go_wp2_with (go_at_call 41;refine Sx (O7 _ _ _ _) ?_)
  go_ret;exact⟨D8 (KZ ps hl).symm,A5 _ _⟩
 have h2:Ai ps.length 1 12=true:=(BX _ _ _).2 (by omega);have Hl:Hid (1<=ps.length/\ps.length<=12):=hl;clear hl;go_in;go_wp2_with (go_at_call 41;refine Sx (O7 _ _ _ _) ?_)
 go_loopw [3] (λi w'=>∃k:Nat,k<=ps.length/\i=.int .i64 k/\Ix ps k/\Up w w') (λi _=>ps.length-(intOf i).toNat)
 case atStart=>exact⟨0,by omega,rfl,TG ps,A5 _ _⟩
 case round =>
  obtain⟨k,hk,rfl,a4,hB⟩:=hrel;have Hal:Hid (Ix ps k):=a4;clear a4;by_cases hp:k<ps.length
  ·obtain⟨c0,c1,c2,c3,c4,c5,c6,c7⟩:=hr.cells k hp;obtain⟨z0,z1,z2,z3,z4⟩:=hs ps[k] (by simp);obtain⟨hc,hf⟩:=G9 hB;have Hno:Hid (BG ps k ps[k]=false->P3 ps=false):=VJ ps k hp;have Hyes:Hid (BG ps k ps[k]=true->Ix ps (k+1)):=TE Hal.out hp;cases h1:V9 (ps[k]).nm (ps[k]).k (ps[k]).a (ps[k]).b (ps[k]).n (ps[k]).wi (ps[k]).t (ps[k]).e
   ·go_wp2_with (first|(go_at_call 41;refine Sx (O7 _ _ _ _) ?_)|(go_at_call 76;refine (Z1 _ _ _ _ _ _ _ _ _ z0 z1 z2 z3 z4).mono ?_;rintro e w1 ⟨rfl,a0⟩;(first|replace hB:=D5 hB a0|have hB:=a0);clear a0;(try clear hc hf);obtain⟨hc,hf⟩:=G9 hB)|(go_at_call 77;refine Sx (Bb _ _ _ _ _ _ (hr.up hB hb) hn) ?_)|(go_at_call 78;refine Sx (V6 _ _) ?_))
    go_ret;exact⟨D8 (Hno.out (by simp[BG,Ph.okB,h1])).symm,hB⟩
   have H1:Hid ((ps[k]).okB=true):=h1;cases h3:(U8 ps (ps[k]).nm != (k:Int))
   case true =>
    have H3:Hid ((U8 ps (ps[k]).nm==(k:Int))=false):=by show _=_;simpa [bne] using h3
    go_wp2_with (first|(go_at_call 41;refine Sx (O7 _ _ _ _) ?_)|(go_at_call 76;refine (Z1 _ _ _ _ _ _ _ _ _ z0 z1 z2 z3 z4).mono ?_;rintro e w1 ⟨rfl,a0⟩;(first|replace hB:=D5 hB a0|have hB:=a0);clear a0;(try clear hc hf);obtain⟨hc,hf⟩:=G9 hB)|(go_at_call 77;refine Sx (Bb _ _ _ _ _ _ (hr.up hB hb) hn) ?_)|(go_at_call 78;refine Sx (V6 _ _) ?_))
    go_ret;exact⟨D8 (Hno.out (by simp[BG,H3.out])).symm,hB⟩
   have H3:Hid ((U8 ps (ps[k]).nm==(k:Int))=true):=by show _=_;simpa [bne] using h3
   by_cases h4:(M6 (ps[k]).t==0)=true/\U8 ps (ps[k]).t<=(k:Int)
   case pos =>
    have H4:Hid (BG ps k ps[k]=false):=by show _=_;simp[BG,h4]
    obtain⟨a1,a2⟩:=h4;go_wp2_with (first|(go_at_call 41;refine Sx (O7 _ _ _ _) ?_)|(go_at_call 76;refine (Z1 _ _ _ _ _ _ _ _ _ z0 z1 z2 z3 z4).mono ?_;rintro e w1 ⟨rfl,a0⟩;(first|replace hB:=D5 hB a0|have hB:=a0);clear a0;(try clear hc hf);obtain⟨hc,hf⟩:=G9 hB)|(go_at_call 77;refine Sx (Bb _ _ _ _ _ _ (hr.up hB hb) hn) ?_)|(go_at_call 78;refine Sx (V6 _ _) ?_))
    go_ret;exact⟨D8 (Hno.out H4.out).symm,hB⟩
   have H4:Hid ((!(M6 (ps[k]).t==0&&decide (U8 ps (ps[k]).t<=(k:Int))))=true):=Rl h4;by_cases h5:(M6 (ps[k]).e==0)=true/\U8 ps (ps[k]).e<=(k:Int)
   case pos =>
    have H5:Hid (BG ps k ps[k]=false):=by show _=_;simp[BG,h5]
    obtain⟨a3,a5⟩:=h5;cases a1:(M6 (ps[k]).t==0)
    ·clear h4;go_wp2_with (first|(go_at_call 41;refine Sx (O7 _ _ _ _) ?_)|(go_at_call 76;refine (Z1 _ _ _ _ _ _ _ _ _ z0 z1 z2 z3 z4).mono ?_;rintro e w1 ⟨rfl,a0⟩;(first|replace hB:=D5 hB a0|have hB:=a0);clear a0;(try clear hc hf);obtain⟨hc,hf⟩:=G9 hB)|(go_at_call 77;refine Sx (Bb _ _ _ _ _ _ (hr.up hB hb) hn) ?_)|(go_at_call 78;refine Sx (V6 _ _) ?_))
     go_ret;exact⟨D8 (Hno.out H5.out).symm,hB⟩
    ·have a2:(k:Int)<U8 ps (ps[k]).t:=by
      rw[a1] at h4;simpa using h4
     clear h4;go_wp2_with (first|(go_at_call 41;refine Sx (O7 _ _ _ _) ?_)|(go_at_call 76;refine (Z1 _ _ _ _ _ _ _ _ _ z0 z1 z2 z3 z4).mono ?_;rintro e w1 ⟨rfl,a0⟩;(first|replace hB:=D5 hB a0|have hB:=a0);clear a0;(try clear hc hf);obtain⟨hc,hf⟩:=G9 hB)|(go_at_call 77;refine Sx (Bb _ _ _ _ _ _ (hr.up hB hb) hn) ?_)|(go_at_call 78;refine Sx (V6 _ _) ?_))
     go_ret;exact⟨D8 (Hno.out H5.out).symm,hB⟩
   have H5:Hid (BG ps k ps[k]=true):=by
    show _=_
    have e5:(!(M6 (ps[k]).e==0&&decide (U8 ps (ps[k]).e<=(k:Int))))=true:=Rl h5;simp only[BG,H1.out,H3.out,H4.out,e5,Bool.and_self]
   cases a1:(M6 (ps[k]).t==0)<;>cases a3:(M6 (ps[k]).e==0)
   ·clear h4 h5;go_wp2_with (first|(go_at_call 41;refine Sx (O7 _ _ _ _) ?_)|(go_at_call 76;refine (Z1 _ _ _ _ _ _ _ _ _ z0 z1 z2 z3 z4).mono ?_;rintro e w1 ⟨rfl,a0⟩;(first|replace hB:=D5 hB a0|have hB:=a0);clear a0;(try clear hc hf);obtain⟨hc,hf⟩:=G9 hB)|(go_at_call 77;refine Sx (Bb _ _ _ _ _ _ (hr.up hB hb) hn) ?_)|(go_at_call 78;refine Sx (V6 _ _) ?_))
    go_roundw
    case rel=>exact⟨k+1,by omega,by go_num,Hyes.out H5.out,hB⟩
    case measure=>simp[intOf];omega
   ·have a5:(k:Int)<U8 ps (ps[k]).e:=by
     rw[a3] at h5;simpa using h5
    clear h4 h5;go_wp2_with (first|(go_at_call 41;refine Sx (O7 _ _ _ _) ?_)|(go_at_call 76;refine (Z1 _ _ _ _ _ _ _ _ _ z0 z1 z2 z3 z4).mono ?_;rintro e w1 ⟨rfl,a0⟩;(first|replace hB:=D5 hB a0|have hB:=a0);clear a0;(try clear hc hf);obtain⟨hc,hf⟩:=G9 hB)|(go_at_call 77;refine Sx (Bb _ _ _ _ _ _ (hr.up hB hb) hn) ?_)|(go_at_call 78;refine Sx (V6 _ _) ?_))
    go_roundw
    case rel=>exact⟨k+1,by omega,by go_num,Hyes.out H5.out,hB⟩
    case measure=>simp[intOf];omega
   ·have a2:(k:Int)<U8 ps (ps[k]).t:=by
     rw[a1] at h4;simpa using h4
    clear h4 h5;go_wp2_with (first|(go_at_call 41;refine Sx (O7 _ _ _ _) ?_)|(go_at_call 76;refine (Z1 _ _ _ _ _ _ _ _ _ z0 z1 z2 z3 z4).mono ?_;rintro e w1 ⟨rfl,a0⟩;(first|replace hB:=D5 hB a0|have hB:=a0);clear a0;(try clear hc hf);obtain⟨hc,hf⟩:=G9 hB)|(go_at_call 77;refine Sx (Bb _ _ _ _ _ _ (hr.up hB hb) hn) ?_)|(go_at_call 78;refine Sx (V6 _ _) ?_))
    go_roundw
    case rel=>exact⟨k+1,by omega,by go_num,Hyes.out H5.out,hB⟩
    case measure=>simp[intOf];omega
   ·have a2:(k:Int)<U8 ps (ps[k]).t:=by
     rw[a1] at h4;simpa using h4
    have a5:(k:Int)<U8 ps (ps[k]).e:=by
     rw[a3] at h5;simpa using h5
    clear h4 h5;go_wp2_with (first|(go_at_call 41;refine Sx (O7 _ _ _ _) ?_)|(go_at_call 76;refine (Z1 _ _ _ _ _ _ _ _ _ z0 z1 z2 z3 z4).mono ?_;rintro e w1 ⟨rfl,a0⟩;(first|replace hB:=D5 hB a0|have hB:=a0);clear a0;(try clear hc hf);obtain⟨hc,hf⟩:=G9 hB)|(go_at_call 77;refine Sx (Bb _ _ _ _ _ _ (hr.up hB hb) hn) ?_)|(go_at_call 78;refine Sx (V6 _ _) ?_))
    go_roundw
    case rel=>exact⟨k+1,by omega,by go_num,Hyes.out H5.out,hB⟩
    case measure=>simp[intOf];omega
  ·go_wp2;go_ret;exact⟨D8 (TI ps k Hl.out hk hp Hal.out).symm,hB⟩
theorem Uj(b:Bk)(v gv:Value)(at':Nat)(gone:List BA)(w:World)(h:Q6 w v b)(hg:Ls w gv gone)(hat:at'<b.bs.length):
  Calls prog 183 #[v,Iz at',gv] w λe w'=>e=.returned (.bool (pB (Fk b.bs at' gone)))/\Up w w':=by
 obtain⟨a1,c1,a2,c2,rfl,h1,h2⟩:=h.parts;have hC:CB (w.alloc (Kz [Vz a1 (b).tg.length c1,Vz a2 (b).bs.length c2] 26)) w.heap.size [Vz a1 b.tg.length c1,Vz a2 b.bs.length c2]:=F3 w _ _;have a7:=(A5 w.heap.size w).alloc (A4 _) (Kz [Vz a1 (b).tg.length c1,Vz a2 (b).bs.length c2] 26);have g2:=h2.at.1;unfold maxLen at g2;go_in;go_upto_region 1 with fail;generalize w.alloc (Kz [Vz a1 (b).tg.length c1,Vz a2 (b).bs.length c2] 26)=W1 at *;have l2:=h2.up a7;have lg:=hg.up a7;clear h h1 h2 hg;obtain⟨e0,e1⟩:=hC.c2';obtain⟨-,a8⟩:=l2.at;obtain⟨bb,o,rfl,hS,hb⟩:=a8 (by omega);obtain⟨a5,d5,a6,d6,-,-,c8,-,l6,-⟩:=(hS.at hat).cells;go_wp2_with fail;go_loopw [7] (λi w'=>∃k m:Nat,k<=b.bs.length/\i=.int .i64 k/\CI b.bs at' gone k/\w'=W1.drewN m) (λi _=>b.bs.length-(intOf i).toNat)
 case atStart=>exact⟨0,0,by omega,rfl,CI.zero _ _ _,rfl⟩
 case round =>
  obtain⟨k,m,hk,rfl,a9,hw⟩:=hrel;have Hw:Hid (wr=W1.drewN m):=hw;have Hal:Hid (CI b.bs at' gone k):=a9;have b2:Up W1 wr:=by rw[hw];exact G4 (A5 _ _) _
  clear hw a9;have f1:At wr w.heap.size 1 (Sy bb o b.bs.length c2):=by rw[Hw.out];exact e1
  by_cases hp:k<b.bs.length
  ·by_cases hka:k=at'
   ·subst hka;have Hs:Hid (CI b.bs k gone (k+1)):=Hal.out.step hp hat (.inl rfl);go_wp2_with fail;go_quiet (fail);go_wp2_with fail;go_roundw
    case rel =>
     obtain⟨m',a0⟩:=Ax (n:=nq) Hw.out;exact⟨k+1,m',by omega,by go_num,Hs.out,a0⟩
    case measure=>simp[intOf];omega
   have b5:((k:Int) != (at':Int))=true:=by rw[bne_iff_ne];omega
   obtain⟨a3,d3,a4,d4,c3,c4,-,l3,-,-⟩:=(hS.at hp).cells;have b6:At wr bb (o+k*3) (Tz (b.bs[k]).nm):=by rw[Hw.out];exact c3
   have b3:At wr bb (o+k*3+1) (Vz a3 (b.bs[k]).has.length d3):=by rw[Hw.out];exact c4
   have b4:At wr bb (o+at'*3+2) (Vz a6 (b.bs[at']).nj.length d6):=by rw[Hw.out];exact c8
   have HY:Hid (E3 gone (b.bs[k]).nm=true∨O2 (b.bs[k]).has (b.bs[at']).nj=false->CI b.bs at' gone (k+1)):=λh=>Hal.out.step hp hat (.inr h);have HN:Hid (E3 gone (b.bs[k]).nm=false->O2 (b.bs[k]).has (b.bs[at']).nj=true->¬Fk b.bs at' gone):=λh1 h2=>Yr hp hat hka h1 h2;have R1:Hid (∀n,Calls prog 137 #[gv,Tz (b.bs[k]).nm] (wr.drewN n) λe w''=>e=.returned (.bool (E3 gone (b.bs[k]).nm))/\∃m,w''=wr.drewN m):=λn=>Calls.quiet_of_same (AO gone gv _ _ (by have e:=Hw.out;subst e;exact lg));have R2:Hid (∀n,Calls prog 135 #[Vz a3 (b.bs[k]).has.length d3,Vz a6 (b.bs[at']).nj.length d6] (wr.drewN n) λe w''=>e=.returned (.bool (O2 (b.bs[k]).has (b.bs[at']).nj))/\∃m,w''=wr.drewN m):=λn=>Calls.quiet_of_same (ET _ _ _ _ _ (by have e:=Hw.out;subst e;exact l3) (by have e:=Hw.out;subst e;exact l6));clear c3 c4 l3;generalize b.bs[k]=x0 at *;generalize b.bs[at']=y0 at *;obtain⟨hv,b0⟩:∃hv,Vz a3 x0.has.length d3=hv:=⟨_,rfl⟩;obtain⟨nv,b1⟩:∃nv,Vz a6 y0.nj.length d6=nv:=⟨_,rfl⟩;rw[b0] at b3 R2;rw[b1] at b4 R2;clear b0 b1;cases hm:E3 gone x0.nm
   case true =>
    have Hs:Hid (CI b.bs at' gone (k+1)):=HY.out (.inl hm);have Q1:Hid (∀n,Calls prog 137 #[gv,Tz x0.nm] (wr.drewN n) λe w''=>e=.returned (.bool true)/\∃m,w''=wr.drewN m):=by have:=R1.out;rw[hm] at this;exact this
    have q1:=Q1.out;clear Q1 R1 R2 HY HN;go_wp2_with fail;go_quiet ((go_at_call 137;exact q1 _))
    go_wp2_with fail;go_roundw
    case rel =>
     obtain⟨m',a0⟩:=Ax (n:=nq) Hw.out;exact⟨k+1,m',by omega,by go_num,Hs.out,a0⟩
    case measure=>simp[intOf];omega
   have Q1:Hid (∀n,Calls prog 137 #[gv,Tz x0.nm] (wr.drewN n) λe w''=>e=.returned (.bool false)/\∃m,w''=wr.drewN m):=by have:=R1.out;rw[hm] at this;exact this
   cases hs:O2 x0.has y0.nj
   ·have Hs:Hid (CI b.bs at' gone (k+1)):=HY.out (.inr hs);have Q2:Hid (∀n,Calls prog 135 #[hv,nv] (wr.drewN n) λe w''=>e=.returned (.bool false)/\∃m,w''=wr.drewN m):=by have:=R2.out;rw[hs] at this;exact this
    have q1:=Q1.out;have q2:=Q2.out;clear Q1 Q2 R1 R2 HY HN;go_wp2_with fail;go_quiet ((first|(go_at_call 137;exact q1 _)|(go_at_call 135;exact q2 _)))
    go_wp2_with fail;go_roundw
    case rel =>
     obtain⟨m',a0⟩:=Ax (n:=nq) Hw.out;exact⟨k+1,m',by omega,by go_num,Hs.out,a0⟩
    case measure=>simp[intOf];omega
   ·have Hs:Hid (¬Fk b.bs at' gone):=HN.out hm hs;have Q2:Hid (∀n,Calls prog 135 #[hv,nv] (wr.drewN n) λe w''=>e=.returned (.bool true)/\∃m,w''=wr.drewN m):=by have:=R2.out;rw[hs] at this;exact this
    have q1:=Q1.out;have q2:=Q2.out;clear Q1 Q2 R1 R2 HY HN;go_wp2_with fail;go_quiet ((first|(go_at_call 137;exact q1 _)|(go_at_call 135;exact q2 _)))
    go_wp2_with fail;go_ret;exact⟨D8 (I5 Hs.out).symm,D5 a7 (G4 b2 _)⟩
  ·have Hs:Hid (Fk b.bs at' gone):=Xz Hal.out hp;go_wp2_with fail;go_ret;exact⟨D8 (L9 Hs.out).symm,D5 a7 b2⟩
theorem Su(b:Bk)(v gv:Value)(gone:List BA)(w:World)(h:Q6 w v b)(hg:Ls w gv gone):
  Calls prog 151 #[v,gv] w λe w'=>(∃n:Int,e=.returned (Iz n)/\Az b.bs gone n)/\Up w w':=by
 obtain⟨a1,c1,a2,c2,rfl,h1,h2⟩:=h.parts;obtain⟨ag,cg,rfl,-⟩:=id hg;have hC:CB (w.alloc (Kz [Vz a1 (b).tg.length c1,Vz a2 (b).bs.length c2] 26)) w.heap.size [Vz a1 b.tg.length c1,Vz a2 b.bs.length c2]:=F3 w _ _;have a0:=(A5 w.heap.size w).alloc (A4 _) (Kz [Vz a1 (b).tg.length c1,Vz a2 (b).bs.length c2] 26);have g2:=h2.at.1;unfold maxLen at g2;go_in;go_upto_region 1 with fail;generalize w.alloc (Kz [Vz a1 (b).tg.length c1,Vz a2 (b).bs.length c2] 26)=W1 at *;have l2:=h2.up a0;have hk:=h.up a0;have lg:=hg.up a0;clear h h1 h2 hg;obtain⟨e0,e1⟩:=hC.c2';have a7:=hC.2.2;obtain⟨-,a5⟩:=l2.at;have hB:Up W1 W1:=A5 _ _;go_wp2_with fail;go_loopw [5] (λi w'=>∃k:Nat,k<=b.bs.length/\i=.int .i64 k/\(∀j,j<k->¬AZ b.bs gone j)/\Up W1 w') (λi _=>b.bs.length-(intOf i).toNat)
 case atStart=>exact⟨0,by omega,rfl,λj hj=>by omega,hB⟩
 case round =>
  clear hB;obtain⟨k,b0,rfl,a6,hB⟩:=hrel;have Hal:Hid (∀j,j<k->¬AZ b.bs gone j):=a6;clear a6;have f0:=(hB.cell (p:=⟨w.heap.size,0,none⟩) a7).trans e0;have f1:=(hB.cell (p:=⟨w.heap.size,1,none⟩) a7).trans e1;by_cases hp:k<b.bs.length
  ·obtain⟨bb,o,rfl,hS,hb⟩:=a5 (by omega);obtain⟨a3,d3,a4,d4,c3,c4,c5,-,-,-⟩:=((hS.at hp).up hB hb).cells;have HI:Hid (AZ b.bs gone k↔E3 gone (b.bs[k]).nm=false/\Fk b.bs k gone):=Wc hp;generalize b.bs[k]=x0 at *;clear hS;go_wp2_with fail;refine Sx (AO gone _ x0.nm _ (lg.up hB)) ?_;cases hm:E3 gone x0.nm
   case true =>
    have Hs:Hid (∀j,j<k+1->¬AZ b.bs gone j):=GV Hal.out λh=>by rw[(HI.out.1 h).1] at hm;cases hm
    clear HI;go_wp2_with fail;go_roundw
    case rel=>exact⟨k+1,by omega,by go_num,Hs.out,hB⟩
    case measure=>simp[intOf];omega
   go_wp2_with fail;refine (Uj b _ _ k gone _ (hk.up hB) (lg.up hB) hp).mono ?_;rintro e w2 ⟨rfl,a9⟩;have a8:=D5 hB a9;clear f0 f1 hB a9 c3 c4 c5;cases hcn:pB (Fk b.bs k gone)
   ·have Hs:Hid (∀j,j<k+1->¬AZ b.bs gone j):=GV Hal.out λh=>S1.1 hcn (HI.out.1 h).2;clear HI;go_wp2_with fail;go_roundw
    case rel=>exact⟨k+1,by omega,by go_num,Hs.out,a8⟩
    case measure=>simp[intOf];omega
   ·have Hs:Hid (Az b.bs gone (k:Int)):=.inr ⟨k,rfl,hp,HI.out.2 ⟨hm,K5.1 hcn⟩,Hal.out⟩;clear HI;go_wp2_with fail;go_ret;exact⟨⟨_,rfl,Hs.out⟩,D5 a0 a8⟩
  ·have Hs:Hid (Az b.bs gone (-1)):=.inl ⟨rfl,λj hj=>Hal.out j (by omega)⟩;go_wp2_with fail;go_ret;exact⟨⟨_,rfl,Hs.out⟩,D5 a0 hB⟩
def Yz:Value->Nat
 | .slice _ n _=>n
 | _=>0
theorem NX(b:Bk)(v:Value)(w:World)(h:Q6 w v b):
  Calls prog 97 #[v] w λe w'=>(∃u ss ok,e=.returned (.tuple #[u,.bool ok])/\R9 b ss ok/\F7 w' w.heap.size u ss/\∀s∈ss,s.size<=maxLen)/\Up w w':=by
 obtain⟨a1,c1,a2,c2,rfl,h1,h2⟩:=h.parts;obtain⟨W1,c6,kA,b0,d0⟩:=cbE1 w [Vz a1 (b).tg.length c1,Vz a2 (b).bs.length c2] 26;have e2:=b0.size;clear d0;obtain⟨ii,hi,d1,d2,d5⟩:=info_parts V7;go_in;go_upto_region 1 with fail;try rw[c6]
 clear c6;have hk:=h.up b0;have l2:=h2.up b0;obtain⟨e0,e1⟩:=kA.c2';have b1:=kA.2.2;obtain⟨-,b4⟩:=l2.at;clear h h1 h2;have c7:=Fj W1;have b2:=(A5 W1.heap.size W1).alloc (A4 _) (Kz [] 9);go_upto_region 2 with fail;generalize W1.alloc (Kz [] 9)=W2 at *;have f0:=(b2.cell (p:=⟨w.heap.size,0,none⟩) b1).trans e0;have f1:=(b2.cell (p:=⟨w.heap.size,1,none⟩) b1).trans e1;go_wp2_with fail;refine (Cc b _ _ (hk.up b2)).mono ?_;rintro e w3 ⟨rfl,c0⟩;have b7:=D5 b2 c0;have b8:=c7.up c0;clear f0 f1 c0 c7 b2;cases hq:K4 b
 ·have Hq:Hid (R9 b [] false):=.inr ⟨rfl,rfl,.inl (S1.1 hq)⟩;go_wp2_with fail;go_returns
  exact⟨⟨_,[],false,rfl,Hq.out,I8 b8 (by omega),λs hs=>by simp at hs⟩,D5 b0 b7⟩
 have Hok:Hid (J1 b):=K5.1 hq;have h5:b.bs.length<=5:=Hok.out.2.1;clear hq;go_wp2_with fail;go_loopw [4,5] (λu _ w'=>∃(n:Nat)(a0:List BA),n<=b.bs.length/\Am b.bs n a0/\F7 w' W1.heap.size u a0/\(∀s∈a0,s.size<=maxLen)/\Up W1 w') (λu _ _=>b.bs.length-Yz u)
 case atStart=>exact⟨0,[],by omega,.none,b8,λs hs=>by simp at hs,b7⟩
 case round =>
  clear b7 b8;obtain⟨n,a0,d6,b5,a6,b6,hB⟩:=hrel;have Hgo:Hid (Am b.bs n a0):=b5;have Hlen:Hid (a0.length=n):=b5.length;have c8:=a6.lst.ls b6;obtain⟨ag,cg,rfl⟩:=a6.lst.shape;have Hsz:Hid (∀s∈a0,s.size<=maxLen):=b6;clear b5 b6;have e3:a0.length<=b.bs.length:=by rw[Hlen.out];exact d6
  have f0:=(hB.cell (p:=⟨w.heap.size,0,none⟩) b1).trans e0;have f1:=(hB.cell (p:=⟨w.heap.size,1,none⟩) b1).trans e1;by_cases hp:a0.length<b.bs.length
  ·go_wp2_with fail;refine (Su b _ _ a0 _ (hk.up hB) c8).mono ?_;rintro e w4 ⟨⟨nx,rfl,c9⟩,c4⟩;have a9:=D5 hB c4;have a8:=a6.up c4;have Hnx:Hid (Az b.bs a0 nx):=c9;clear f0 f1 hB c4 a6 c8;rcases c9 with⟨rfl,-⟩|⟨k,rfl,hkl,-,-⟩
   ·have Hs:Hid (R9 b [] false):=.inr ⟨rfl,rfl,.inr ⟨n,a0,by have:=Hlen.out;omega,Hgo.out,Hnx.out⟩⟩;have b3:=Fj w4;have d7:=(A5 w4.heap.size w4).alloc (A4 _) (Kz [] 9);have e4:=a9.size;go_wp2_with fail;go_returns
    exact⟨⟨_,[],false,rfl,Hs.out,I8 b3 (by omega),λs hs=>by simp at hs⟩,D5 b0 (D5 a9 d7)⟩
   ·obtain⟨bb,o,rfl,hS,hb⟩:=b4 (by omega);have f1:=(a9.cell (p:=⟨w.heap.size,1,none⟩) b1).trans e1;obtain⟨a3,d3,a4,d4,c3,-,-,-,-,z0⟩:=((hS.at hkl).up a9 hb).cells;have Hs:Hid (Am b.bs (n+1) (a0++[(b.bs[k]).nm])):=.more Hgo.out Hnx.out (A0 hkl);generalize b.bs[k]=x0 at *;have e5:decide ((k:Int)<0)=false:=by simp
    have a7:=E4 a8 ((A5 w4.heap.size w4).alloc (A4 _) (Kz [Tz x0.nm] 9));have b9:=a9.alloc a9.size (Kz [Tz x0.nm] 9);clear hS;go_wp2_with (at_builtin;refine wpList_append_own _ rfl _ _ 23 rfl W1.heap.size 9 ii _ 1 16 underlying23 hi d1 d2 d5 rfl (by decide) _ _ _ rfl a7 ⟨w4.heap.size,0,none⟩ 1 1 [Tz x0.nm] rfl rfl (AD _ _ _) (DG _) (by unfold maxLen;omega) (by omega) b9.size ?_)
    intro v1 w5 hown5 hgr5 _;have d8:=M1 b9 a7 hgr5 (A4 _);have b3:F7 w5 W1.heap.size v1 (a0++[x0.nm]):=by unfold F7;rw[B0,List.map_append];exact hown5
    have d9:∃a c,v1=Vz a (a0.length+1) c:=by
     have:=b3.lst.shape;simpa using this
    obtain⟨a5,c5,rfl⟩:=d9;clear a7 b9 hown5 hgr5 a8 a9 f1 c3;go_wp2_with fail;go_roundw
    case rel =>
     refine⟨n+1,_,by have:=Hlen.out;omega,Hs.out,b3,λs hs=>?_,d8⟩;rcases D0.1 hs with h|h
     ·exact Hsz.out s h
     ·obtain rfl:s=x0.nm:=by simpa using h
      exact z0
    case measure=>simp[Yz];omega
  ·have Hs:Hid (R9 b a0 true):=.inl ⟨rfl,Hok.out,by
    have e:b.bs.length=n:=by have:=Hlen.out;omega
    rw[e];exact Hgo.out⟩
   go_wp2_with fail;go_returns
   exact⟨⟨_,a0,true,rfl,Hs.out,I8 a6 (by omega),Hsz.out⟩,D5 b0 hB⟩
end Go.Proofs.YtmonodehegcfhaaGreatDoor
namespace Go.Proofs.YtmonodehegcfhaaGreatDoor
open Go.Proofs.Tryz
variable{x z:Ba}{b:Bk}{nm s:BA}{bs bs':List Ba}{g g' gone l order ss:List BA}{k n:Nat}
theorem Sv(h:J1 b)(hx:b.bs[k]?=some x):T5 (G7 b.bs) x.nm=(k:Int):=by
 obtain⟨hk,rfl⟩:=A3.1 hx;have hl:k<(G7 b.bs).length:=by rw[L8];exact hk
 refine Cq hl ?_ (by rw[Au _ _ hk];simp);rw[U6];intro hm;obtain⟨j,hj,a0⟩:=List.mem_take_iff_getElem.1 hm;have a1:j<(G7 b.bs).length:=by omega
 have h1:(G7 b.bs)[j]?=some (b.bs[k]).nm:=by rw[A0 a1,← a0]
 have h2:(G7 b.bs)[k]?=some (b.bs[k]).nm:=by rw[A0 hl,Au _ _ hk]
 have:=Fh h.2.2.2.1 h1 h2;omega
theorem Wm(h:Fk bs k g)(hs:∀s,E3 g s=true->E3 g' s=true):Fk bs k g':=λi x y hi hne hx hy hm=>by
 refine h i x y hi hne hx hy ?_;cases hc:E3 g x.nm
 ·rfl
 ·rw[hs _ hc] at hm;cases hm
theorem RC(hd:∀(i:Nat)(s:BA),l[i]?=some s->E3 (l.take i) s=false):∀(i j:Nat)(a:BA),l[i]?=some a->l[j]?=some a->i=j:=by
 have a0:∀(i j:Nat)(a:BA),l[i]?=some a->l[j]?=some a->¬i<j:=λi j a hi hj hlt=>by
  have:=hd j a hj;rw[U6] at this;obtain⟨a1,rfl⟩:=A3.1 hi;exact this (List.mem_take_iff_getElem.2 ⟨i,by omega,rfl⟩)
 intro i j a hi hj;have h1:=a0 i j a hi hj;have h2:=a0 j i a hj hi;omega
theorem QG(hok:J1 b)(h:Am b.bs n ss):Fl b.bs ss ss.length:=by
 induction h with
 | none=>exact λi s hi=>by simp at hi
 | @more n gone k x h1 h2 h3 ih =>
  have a0:AZ b.bs gone k:=by
   rcases h2 with⟨h0,_⟩|⟨j,hj,_,hg,_⟩
   ·omega
   ·obtain rfl:k=j:=by omega
    exact hg
  obtain⟨y,hy,hm,hc⟩:=a0;rw[h3] at hy;obtain rfl:=A6 hy;have a1:=Sv hok h3;intro i s hi hs;by_cases e:i<gone.length
  ·rw[List.getElem?_append_left e] at hs;rw[List.take_append_of_le_length (by omega)];exact ih i s e hs
  ·have hl:i=gone.length:=by simp at hi;omega
   subst hl;obtain rfl:x.nm=s:=by simpa using hs
   rw[List.take_left,a1];exact⟨by omega,hm,hc⟩
theorem Uk(hok:J1 b)(h:Am b.bs b.bs.length ss):Ld b ss:=⟨hok,h.length,QG hok h⟩
theorem Ul(hf:Ld b order)(hg:Am b.bs n gone)(hn:n<b.bs.length):∃k,k<b.bs.length/\AZ b.bs gone k:=by
 obtain⟨b0,hl,a3⟩:=hf;have hd:∀(i:Nat)(s:BA),order[i]?=some s->E3 (order.take i) s=false:=λi s hs=>(a3 i s (A3.1 hs).1 hs).2.1
 have a8:∃i:Nat,∃s,order[i]?=some s/\E3 gone s=false:=by
  refine Classical.byContradiction λhno=>?_
  have a1:∀s∈order,s∈gone:=λs hs=>by
   obtain⟨i,hi,rfl⟩:=B7 hs;refine (S5 _ _).1 ?_;cases hc:E3 gone order[i]
   ·exact absurd ⟨i,order[i],A0 hi,hc⟩ hno
   ·rfl
  have:=Ew order gone (RC hd) a1;have:=hg.length;omega
 obtain⟨i,hi⟩:=a8
 obtain⟨j,⟨s,hs,a5⟩,a0⟩:∃j:Nat,(∃s,order[j]?=some s/\E3 gone s=false)/\∀m:Nat,m<j->¬∃s,order[m]?=some s/\E3 gone s=false:=by
  have:∀n:Nat,∀i:Nat,i<n->(∃s,order[i]?=some s/\E3 gone s=false)->∃j:Nat,(∃s,order[j]?=some s/\E3 gone s=false)/\∀m:Nat,m<j->¬∃s,order[m]?=some s/\E3 gone s=false:=by
   intro n;induction n with
   | zero=>intro i hi;omega
   | succ n ih =>
    intro i hi hp;by_cases hq:∃m,m<i/\∃s,order[m]?=some s/\E3 gone s=false
    ·obtain⟨m,hm,hs⟩:=hq;exact ih m (by omega) hs
    ·exact⟨i,hp,λm hm hs=>hq ⟨m,hm,hs⟩⟩
  exact this (i+1) i (by omega) hi
 have hj:=(A3.1 hs).1;obtain⟨h0,-,hc⟩:=a3 j s hj hs;obtain⟨k,hk,a6,a4⟩:=Ia h0;rw[hk] at hc;have a2:k<b.bs.length:=by rwa [L8] at a6
 refine⟨k,a2,b.bs[k],A0 a2,?_,Wm hc λt ht=>?_⟩
 ·rw[Au _ _ a2] at a4;rw[a4];exact a5
 ·obtain⟨m,hm,a7⟩:=List.mem_take_iff_getElem.1 ((S5 _ _).1 ht);have a9:=a0 m (by omega);cases hq:E3 gone t
  ·exact absurd ⟨t,by rw[A0 (by omega),a7],hq⟩ a9
  ·rfl
theorem Sw(hk:k<bs.length)(h:AZ bs gone k):∃(j:Nat)(x:Ba),Az bs gone (j:Int)/\bs[j]?=some x:=by
 have:∀n,∀k,k<n->k<bs.length->AZ bs gone k->∃(j:Nat)(x:Ba),Az bs gone (j:Int)/\bs[j]?=some x:=by
  intro n;induction n with
  | zero=>intro k hk;omega
  | succ n ih =>
   intro k hk hkl hg;by_cases hq:∃m,m<k/\AZ bs gone m
   ·obtain⟨m,hm,a0⟩:=hq;exact ih m (by omega) (by omega) a0
   ·exact⟨k,bs[k],.inr ⟨k,rfl,hkl,hg,λm hm a0=>hq ⟨m,hm,a0⟩⟩,A0 hkl⟩
 exact this (k+1) k (by omega) hk h
theorem Um(hf:Ld b order):∃ss,Am b.bs b.bs.length ss:=by
 have:∀n,n<=b.bs.length->∃ss,Am b.bs n ss:=by
  intro n;induction n with
  | zero=>exact λ_=>⟨[],.none⟩
  | succ n ih =>
   intro hn;obtain⟨g,hg⟩:=ih (by omega);obtain⟨k,hk,a0⟩:=Ul hf hg (by omega);obtain⟨j,x,hj,hx⟩:=Sw hk a0;exact⟨_,.more hg hj hx⟩
 exact this _ (A4 _)
theorem SA(h:R9 b ss true):Ld b ss:=by
 rcases h with⟨-,hok,hg⟩|⟨h0,_⟩
 ·exact Uk hok hg
 ·cases h0
def Wn(bs:List Ba)(gone:List BA)(s:BA):Prop:=∃y,y∈bs/\y.nm=s/\∀x,x∈bs->x.nm≠s->x.nm∉gone->O2 x.has y.nj=false
def EU(bs:List Ba):List BA->List BA->Prop
 | _,[]=>True
 | gone,s::r=>s∉gone/\Wn bs gone s/\EU bs (gone++[s]) r
def Li(bs:List Ba)(order:List BA):Prop:=EU bs [] order/\∀x∈bs,x.nm∈order
theorem JY(bs:List Ba):∀(order gone:List BA),EU bs gone order↔∀(i:Nat)(s:BA),order[i]?=some s->s∉gone++order.take i/\Wn bs (gone++order.take i) s
 | [],gone=>by simp[EU]
 | s::r,gone=>by
  rw[EU,JY bs r (gone++[s])];constructor
  ·rintro⟨h1,h2,h3⟩ i t ht;cases i with
   | zero =>
    obtain rfl:s=t:=by simpa using ht
    simpa using ⟨h1,h2⟩
   | succ i =>
    have:=h3 i t (by simpa using ht);simpa [List.append_assoc] using this
  ·intro h;have h0:=h 0 s (by simp);refine⟨by simpa using h0.1,by simpa using h0.2,λi t ht=>?_⟩;have:=h (i+1) t (by simpa using ht);simpa [List.append_assoc] using this
theorem Pf(hok:J1 b)(gone:List BA)(s:BA):(0<=T5 (G7 b.bs) s/\Fk b.bs (T5 (G7 b.bs) s).toNat gone)↔Wn b.bs gone s:=by
 constructor
 ·rintro⟨h0,hc⟩;obtain⟨k,hk,a3,a1⟩:=Ia h0;have a2:k<b.bs.length:=by rwa [L8] at a3
  rw[Au _ _ a2] at a1;rw[hk] at hc;refine⟨b.bs[k],List.getElem_mem a2,a1,λx hx a0 hg=>?_⟩;obtain⟨i,hi,rfl⟩:=B7 hx;refine hc i _ _ hi ?_ (A0 hi) (A0 a2) ((U6 _ _).2 hg);rintro rfl;exact a0 a1
 ·rintro⟨y,hy,rfl,hc⟩;obtain⟨k,hk,rfl⟩:=B7 hy;have e:=Sv hok (A0 hk);rw[e];refine⟨by omega,λi x z hi a0 hx hz hm=>?_⟩;have a0:i≠k:=by simpa using a0
  have hz:b.bs[k]?=some z:=by simpa using hz
  rw[A0 hk] at hz;obtain rfl:=A6 hz;refine hc x (A7 hx) (λe2=>?_) ((U6 _ _).1 hm);have:=Sv hok hx;rw[e2,e] at this;omega
theorem JZ{bs:List Ba}:∀(order gone:List BA),EU bs gone order->∀s∈order,∃y∈bs,y.nm=s
 | [],_,_,s,hs=>by simp at hs
 | t::r,gone,h,s,hs=>by
  obtain⟨-,⟨y,hy,e,-⟩,h3⟩:=h;rcases List.mem_cons.1 hs with rfl|hs
  ·exact⟨y,hy,e⟩
  ·exact JZ r _ h3 s hs
theorem Wo(hok:J1 b):∀(i j:Nat)(a:BA),(G7 b.bs)[i]?=some a->(G7 b.bs)[j]?=some a->i=j:=λ_ _ _ hi hj=>Fh hok.2.2.2.1 hi hj
theorem LT:Ld b order↔J1 b/\Li b.bs order:=by
 have hL:J1 b->(Fl b.bs order order.length↔EU b.bs [] order):=λhok=>by
  rw[JY];constructor
  ·intro h i s hs;obtain⟨h0,hm,hc⟩:=h i s (A3.1 hs).1 hs;exact⟨by simpa using (U6 _ _).1 hm,by simpa using (Pf hok _ _).1 ⟨h0,hc⟩⟩
  ·intro h i s _ hs;obtain⟨h1,h2⟩:=h i s hs;obtain⟨h0,hc⟩:=(Pf hok _ _).2 h2;exact⟨h0,(U6 _ _).2 (by simpa using h1),by simpa using hc⟩
 have hD:EU b.bs [] order->∀(i j:Nat)(a:BA),order[i]?=some a->order[j]?=some a->i=j:=λh=>by
  rw[JY] at h;exact RC λi s hs=>(U6 _ _).2 (by simpa using (h i s hs).1)
 constructor
 ·rintro⟨hok,hl,hf⟩;have hf:=(hL hok).1 hf;refine⟨hok,hf,λx hx=>?_⟩;refine Classical.byContradiction λhno=>?_
  have a0:∀s∈order++[x.nm],s∈G7 b.bs:=λs hs=>by
   rcases D0.1 hs with hs|hs
   ·obtain⟨y,hy,rfl⟩:=JZ _ _ hf s hs;exact List.mem_map.2 ⟨y,hy,rfl⟩
   ·obtain rfl:s=x.nm:=by simpa using hs
    exact List.mem_map.2 ⟨x,hx,rfl⟩
  have hd:∀(i j:Nat)(a:BA),(order++[x.nm])[i]?=some a->(order++[x.nm])[j]?=some a->i=j:=λi j a hi hj=>by
   have a1:∀i:Nat,(order++[x.nm])[i]?=some a->(i<order.length/\order[i]?=some a)∨(i=order.length/\a=x.nm):=λi hi=>by
    by_cases e:i<order.length
    ·rw[List.getElem?_append_left e] at hi;exact .inl ⟨e,hi⟩
    ·have a2:=(A3.1 hi).1;simp at a2;obtain rfl:i=order.length:=by omega
     exact .inr ⟨rfl,by simpa using hi.symm⟩
   rcases a1 i hi with⟨_,h1⟩|⟨rfl,h1⟩<;>rcases a1 j hj with⟨_,h2⟩|⟨rfl,h2⟩
   ·exact hD hf i j a h1 h2
   ·subst h2;exact absurd (A7 h1) hno
   ·subst h1;exact absurd (A7 h2) hno
   ·rfl
  have:=Ew _ _ hd a0;rw[L8] at this;simp at this;omega
 ·rintro⟨hok,hf,hc⟩;refine⟨hok,?_,(hL hok).2 hf⟩
  have h1:=Ew order (G7 b.bs) (hD hf) λs hs=>by
   obtain⟨y,hy,rfl⟩:=JZ _ _ hf s hs;exact List.mem_map.2 ⟨y,hy,rfl⟩
  have h2:=Ew (G7 b.bs) order (Wo hok) λs hs=>by
   obtain⟨y,hy,rfl⟩:=List.mem_map.1 hs;exact hc y hy
  rw[L8] at h1 h2;omega
theorem Pg{bs bs':List Ba}{z:Ba}(hz:z.has=[])(hs:∀x,x∈bs'↔x∈bs∨x=z)(hno:∀x∈bs,x.nm≠z.nm):∀(order gone:List BA),(∀x∈bs,x.nm∈gone++order)->z.nm∉gone->EU bs gone order->EU bs' gone (order++[z.nm])
 | [],gone,hc,hg,_=>by
  refine⟨hg,⟨z,(hs z).2 (.inr rfl),rfl,λx hx hne hx'=>?_⟩,trivial⟩;rcases (hs x).1 hx with h|rfl
  ·exact absurd (by simpa using hc x h) hx'
  ·exact absurd rfl hne
 | s::r,gone,hc,hg,⟨a,⟨y,hy,e,hk⟩,c⟩=>by
  refine⟨a,⟨y,(hs y).2 (.inl hy),e,λx hx hne hx'=>?_⟩,Pg hz hs hno r _ (λx hx=>by simpa [List.append_assoc] using hc x hx) ?_ c⟩
  ·rcases (hs x).1 hx with h|rfl
   ·exact hk x h hne hx'
   ·rw[Z9,hz];exact λt ht=>by simp at ht
  ·intro h;rcases D0.1 h with h|h
   ·exact hg h
   ·have:z.nm=s:=by simpa using h
    exact hno y hy (e.trans this.symm)
theorem Wp(hz:z.has=[])(hs:∀x,x∈bs'↔x∈bs∨x=z)(hno:∀x∈bs,x.nm≠z.nm)(h:Li bs order):Li bs' (order++[z.nm]) :=
 ⟨Pg hz hs hno _ _ (λx hx=>by simpa using h.2 x hx) (by simp) h.1,λx hx=>by
  rcases (hs x).1 hx with h1|rfl
  ·exact List.mem_append_left _ (h.2 x h1)
  ·simp⟩
end Go.Proofs.YtmonodehegcfhaaGreatDoor
