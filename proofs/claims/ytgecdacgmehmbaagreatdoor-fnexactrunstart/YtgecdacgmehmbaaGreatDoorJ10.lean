/- What opening an argument leans on: lists, cells, texts and numbers that can be read. -/
import Derived.Test.YtgecdacgmehmbaaGreatDoorRows
import Derived.Test.YtgecdacgmehmbaaGreatDoorJ2
import Derived.ProofKit
import Derived.OpenShut
import Derived.OpenVars
import Derived.LaidLaws
import Derived.Lib.LaidTab
import Derived.ChangeBears2
import Derived.Deep.DeepHandedRow
import Derived.Lib.SlicesCompact
import Derived.Test.YtgecdacgmehmbaaGreatDoorPt
import Derived.Laws.Bits64
import Derived.Deep.QuietTactic
import Derived.BigQuiet
import Derived.Deep.DeepCutAuto
import Derived.Deep.RegionLaw
import Derived.Deep.RegionHeld
import Derived.Laws.IdiomStrings
namespace Go.Proofs.YtgecdacgmehmbaaGreatDoor
open Go.ChangeShapes Go.WideShapes Go.ChangeAt Go.RowKit
theorem own:ownKnob Tryz.prog.godebug=none:=by kernel_rfl
theorem Ab0:laidOutB Tryz.prog=true:=by kernel_rfl
theorem O9:Tryz.prog.cellsOf 9=1:=by kernel_rfl
theorem AbU:Tryz.prog.cellsOf 3=1:=by kernel_rfl
theorem J4 {H:Type} {enc:TypeId×Value->H} {w:World} {base:Nat} {sp:Nat->Bool} {held:Bool} {fuel:Nat} {c:Value} {y:DataW H×List MemPlace}
  (h:DataW.trod enc Tryz.prog w base sp held fuel 9 [c]=some y):∃s:ByteArray,c=.string s/\y=(.lit (.string s.data.toList),[])/\s.size<=maxLen:=by
 obtain⟨s,hc,hy,hs⟩:=DataW.trod_string Tryz.underlying9 h;simp only[List.cons.injEq,and_true] at hc;exact⟨s,hc,hy,hs⟩
theorem M7 {H:Type} {enc:TypeId×Value->H} {w:World} {base:Nat} {sp:Nat->Bool} {held:Bool} {fuel:Nat} {c:Value} {y:DataW H×List MemPlace}
  (h:DataW.trod enc Tryz.prog w base sp held fuel 3 [c]=some y):∃n:Int,c=.int .i64 n/\y=(.lit (.int .i64 n),[])/\(Lit.int .i64 n).wf=true:=by
 obtain⟨s,hc,hy,hs⟩:=DataW.trod_int Tryz.underlying3 h;simp only[List.cons.injEq,and_true] at hc;exact⟨s,hc,hy,hs⟩
theorem AbV {s:ByteArray} {l:List UInt8} (h:s.data.toList=l):s=⟨l.toArray⟩:=by cases s;simp_all [← h]
theorem AmK {H:Type} {enc:TypeId×Value->H} {W:World} {sp:Nat->Bool} {n:String} {gs:List (DataW H)} {q:List MemPlace} (h:DataW.TrodVars enc Tryz.prog W sp [n] gs q):∃g,gs=[g]:=by
 match gs,h with
 | [],h=>exact h.elim
 | [g],_=>exact⟨g,rfl⟩
 | _::_::_,⟨_,_,_,_,_,_,_,_,_,_,h,_⟩=>exact h.elim
theorem AaH {α:Type} (n:Nat) (Q:Nat->α->Prop) (h:∀i,i<n->∃p,Q i p):∃ps:List α,ps.length=n/\∀(i:Nat) (p:α),ps[i]?=some p->Q i p:=by
 induction n with
 | zero=>exact⟨[],rfl,λi p hp=>by simp at hp⟩
 | succ n ih =>
  obtain⟨ps,hl,hq⟩:=ih λi hi=>h i (by omega);obtain⟨p,hp⟩:=h n (by omega);refine⟨ps++[p],by simp[hl],λi q hq'=>?_⟩;rw[List.getElem?_append] at hq';split at hq'
  ·exact hq i q hq'
  ·rename_i hi
   have:i=n:=by
    rcases Nat.lt_or_ge (i-ps.length) 1 with h1|h1
    ·omega
    ·rw[C6 (by simpa using h1)] at hq';cases hq'
   subst this;rw[hl,Nat.sub_self] at hq';obtain rfl:p=q:=by simpa using hq'
   exact hp
theorem M2 {w:World} {base b o n:Nat} {cs:List Value} (h:w.cells? base ⟨b,o,none⟩ n=some cs):w.rangeAt b o cs:=by
 unfold World.cells? at h;split at h
 ·intro j v hv
  have hl:cs.length=n:=by simpa using Lib.mapM_length h
  have hj:j<n:=by rw[← hl];exact (A2.1 hv).1
  obtain⟨x,hx,hc⟩:=Lib.mapM_at h j j (by simp[hj]);rw[hv] at hx;obtain rfl:=A5 hx;rwa [Addr.add_mid] at hc
 ·cases h
theorem Af8 {α:Type} {l:List α} (h:l.length=3):∃c0 c1 c2,l=[c0,c1,c2]:=by
 match l,h with
 | [c0,c1,c2],_=>exact⟨c0,c1,c2,rfl⟩
theorem Af9 {α:Type} {l:List α} (h:l.length=2):∃c0 c1,l=[c0,c1]:=by
 match l,h with
 | [c0,c1],_=>exact⟨c0,c1,rfl⟩
theorem list8 {α:Type} {l:List α} (h:l.length=8):∃c0 c1 c2 c3 c4 c5 c6 c7,l=[c0,c1,c2,c3,c4,c5,c6,c7]:=by
 match l,h with
 | [c0,c1,c2,c3,c4,c5,c6,c7],_=>exact⟨c0,c1,c2,c3,c4,c5,c6,c7,rfl⟩
end Go.Proofs.YtgecdacgmehmbaaGreatDoor
namespace Go.Proofs.YtgecdacgmehmbaaGreatDoor
theorem Ab1:∀(x y:List UInt8),Op.bytesLess x y=decide (x<y)
 | [],[]=>by simp[Op.bytesLess]
 | _::_,[]=>by simp[Op.bytesLess]
 | [],_::_=>by simp[Op.bytesLess]
 | a::x,b::y=>by
  rw[Op.bytesLess,Ab1 x y];simp only[List.cons_lt_cons_iff];by_cases h1:a<b<;>by_cases h2:a=b<;>by_cases h3:x<y<;>simp[h1,h2,h3]
abbrev Key:=List UInt8
theorem U7 (x:Key):¬x<x:=List.lt_irrefl x
theorem Abg {x y z:Key} (h:x<y) (k:y<z):x<z:=List.lt_trans h k
theorem Aic (x y:Key):x<y∨x=y∨y<x:=by
 rcases Decidable.em (x<y) with h|h
 ·exact .inl h
 ·rcases Decidable.em (y<x) with k|k
  ·exact .inr (.inr k)
  ·exact .inr (.inl (List.le_antisymm (List.not_lt.1 k) (List.not_lt.1 h)))
theorem AdZ {x y:Key}:x<=y↔x<y∨x=y:=by
 constructor
 ·intro h
  rcases Aic x y with k|k|k
  ·exact .inl k
  ·exact .inr k
  ·exact absurd k (List.not_lt.2 h)
 ·rintro (h|rfl)
  ·exact List.not_lt.1 λk=>U7 _ (Abg h k)
  ·exact List.le_refl _
theorem Z8:∀(a b:List Key),a.Pairwise (· < ·)->b.Pairwise (· < ·)->(∀x,x∈a↔x∈b)->a=b
 | [],[],_,_,_=>rfl
 | [],y::s,_,_,h=>by have:=(h y).2 (by simp);simp at this
 | x::r,[],_,_,h=>by have:=(h x).1 (by simp);simp at this
 | x::r,y::s,ha,hb,h=>by
  obtain⟨ha1,ha2⟩:=List.pairwise_cons.1 ha;obtain⟨hb1,hb2⟩:=List.pairwise_cons.1 hb
  have e:x=y:=by
   rcases List.mem_cons.1 ((h x).1 (by simp)) with e|e
   ·exact e
   ·rcases List.mem_cons.1 ((h y).2 (by simp)) with e'|e'
    ·exact e'.symm
    ·exact absurd (Abg (hb1 x e) (ha1 y e')) (U7 _)
  subst e;rw[Z8 r s ha2 hb2 λz=>?_];constructor
  ·intro hz
   rcases List.mem_cons.1 ((h z).1 (by simp[hz])) with e|e
   ·subst e;exact absurd (ha1 z hz) (U7 _)
   ·exact e
  ·intro hz
   rcases List.mem_cons.1 ((h z).2 (by simp[hz])) with e|e
   ·subst e;exact absurd (hb1 z hz) (U7 _)
   ·exact e
def keys (ss:List ByteArray):List Key:=ss.map (·.toList)
theorem N0 {a b:ByteArray} (h:a.toList=b.toList):a=b:=by
 rw[Go.ByteArray.toList_eq,Go.ByteArray.toList_eq] at h;cases a;cases b;simp at h;rw[h]
theorem Ad6 (ss:List ByteArray) (x:ByteArray):(∀z,z∈keys (insL ss x)↔z∈keys ss∨z=x.toList)/\((keys ss).Pairwise (· < ·)->(keys (insL ss x)).Pairwise (· < ·)):=by
 induction ss with
 | nil=>simp[insL,keys]
 | cons y r ih =>
  obtain⟨im,ip⟩:=ih;rw[insL];by_cases h1:lessB y x=true
  ·rw[if_pos h1]
   have h1':y.toList<x.toList:=by rw[lessB,Ab1] at h1;simpa using h1
   refine⟨λz=>?_,λhp=>?_⟩
   ·have:=im z
    simp only[keys,List.map_cons,List.mem_cons] at this ⊢
    rw[this];constructor
    ·rintro (h|h|h)
     ·exact .inl (.inl h)
     ·exact .inl (.inr h)
     ·exact .inr h
    ·rintro ((h|h)|h)
     ·exact .inl h
     ·exact .inr (.inl h)
     ·exact .inr (.inr h)
   ·simp only[keys,List.map_cons] at hp ⊢
    obtain⟨p1,p2⟩:=List.pairwise_cons.1 hp;refine List.pairwise_cons.2 ⟨λz hz=>?_,ip p2⟩;rcases (im z).1 hz with h|h
    ·exact p1 z h
    ·subst h;exact h1'
  ·rw[if_neg h1]
   have h1':¬y.toList<x.toList:=by rw[lessB,Ab1] at h1;simpa using h1
   by_cases h2:sameB y x=true
   ·rw[if_pos h2]
    have e:y.toList=x.toList:=by simpa [sameB] using h2
    refine⟨λz=>?_,λhp=>hp⟩;simp only[keys,List.map_cons,List.mem_cons];rw[e];constructor
    ·exact .inl
    ·rintro (h|h)
     ·exact h
     ·exact .inl h
   ·rw[if_neg h2]
    have e:y.toList≠x.toList:=by simpa [sameB] using h2
    have lt:x.toList<y.toList:=by
     rcases Aic y.toList x.toList with k|k|k
     ·exact absurd k h1'
     ·exact absurd k e
     ·exact k
    refine⟨λz=>?_,λhp=>?_⟩
    ·simp only[keys,List.map_cons,List.mem_cons]
     constructor
     ·rintro (h|h|h)
      ·exact .inr h
      ·exact .inl (.inl h)
      ·exact .inl (.inr h)
     ·rintro ((h|h)|h)
      ·exact .inr (.inl h)
      ·exact .inr (.inr h)
      ·exact .inl h
    ·simp only[keys,List.map_cons] at hp ⊢
     refine List.pairwise_cons.2 ⟨λz hz=>?_,hp⟩;rcases List.mem_cons.1 hz with h|h
     ·subst h;exact lt
     ·exact Abg lt ((List.pairwise_cons.1 hp).1 z h)
theorem O7 (b:List ByteArray):∀a:List ByteArray,(∀z,z∈keys (bothL a b)↔z∈keys a∨z∈keys b)/\((keys a).Pairwise (· < ·)->(keys (bothL a b)).Pairwise (· < ·)):=by
 induction b with
 | nil=>intro a;exact⟨λz=>by simp[bothL,keys],λh=>h⟩
 | cons x r ih =>
  intro a;obtain⟨im,ip⟩:=ih (insL a x);obtain⟨jm,jp⟩:=Ad6 a x;refine⟨λz=>?_,λh=>ip (jp h)⟩;have h1:=im z;have h2:=jm z;show z∈keys (bothL (insL a x) r)↔_
  rw[h1,h2];simp only[keys,List.map_cons,List.mem_cons];constructor
  ·rintro ((h|h)|h)
   ·exact .inl h
   ·exact .inr (.inl h)
   ·exact .inr (.inr h)
  ·rintro (h|h|h)
   ·exact .inl (.inl h)
   ·exact .inl (.inr h)
   ·exact .inr h
theorem Agi (zs:List Key) (hs:zs.Pairwise (·<=·)):∀m,m<=zs.length->(Lib.compactUpTo zs.toArray m).Pairwise (· < ·)/\(∀x,x∈Lib.compactUpTo zs.toArray m↔∃j,j<m/\zs[j]?=some x)/\(∀x∈Lib.compactUpTo zs.toArray m,∀y,zs[m-1]?=some y->x<=y):=by
 intro m;induction m with
 | zero=>intro _;simp[Lib.compactUpTo]
 | succ m ih =>
  intro hm;obtain⟨h1,h2,h3⟩:=ih (by omega);have hml:m<zs.length:=by omega
  have hd:(zs.toArray)[m]! = zs[m]:=by simp[hml]
  rw[Lib.compactUpTo_succ,hd];by_cases hk:Lib.keeps zs.toArray m=true
  ·rw[if_pos hk]
   have hlt:∀x∈Lib.compactUpTo zs.toArray m,x<zs[m]:=by
    intro x hx;rcases C3 m with h0|h0
    ·subst h0;simp[Lib.compactUpTo] at hx
    ·have hm1:m-1<zs.length:=by omega
     have hle:=h3 x hx zs[m-1] (by simp[hm1])
     have hne:zs[m]≠zs[m-1]:=by
      simp only[Lib.keeps,decide_eq_true_eq] at hk;rcases hk with hk|hk
      ·omega
      ·simpa [hml,hm1] using hk
     have hle2:zs[m-1]<=zs[m]:=List.pairwise_iff_getElem.1 hs (m-1) m hm1 hml (by omega)
     have hlt2:zs[m-1]<zs[m]:=by
      rcases AdZ.1 hle2 with k|k
      ·exact k
      ·exact absurd k.symm hne
     rcases AdZ.1 hle with k|k
     ·exact Abg k hlt2
     ·rw[k];exact hlt2
   refine⟨List.pairwise_append.2 ⟨h1,by simp,λx hx y hy=>by simp at hy;subst hy;exact hlt x hx⟩,λx=>?_,λx hx y hy=>?_⟩
   ·rw[D0,h2,D1]
    constructor
    ·rintro (⟨j,hj,e⟩|rfl)
     ·exact⟨j,by omega,e⟩
     ·exact⟨m,by omega,by simp[hml]⟩
    ·rintro⟨j,hj,e⟩
     rcases Nat.lt_or_ge j m with h|h
     ·exact .inl ⟨j,h,e⟩
     ·obtain rfl:j=m:=by omega
      right;rw[A0 hml] at e;exact (A5 e).symm
   ·simp only[Nat.add_sub_cancel] at hy
    rw[A0 hml] at hy;obtain rfl:=A5 hy;rcases D0.1 hx with h|h
    ·exact AdZ.2 (.inl (hlt x h))
    ·simp at h;subst h;exact List.le_refl _
  ·rw[if_neg hk,List.append_nil]
   have h0:0<m:=by
    rcases C3 m with h|h
    ·subst h;simp[Lib.keeps] at hk
    ·exact h
   have hm1:m-1<zs.length:=by omega
   have he:zs[m]=zs[m-1]:=by
    simp only[Lib.keeps,decide_eq_true_eq,not_or,Decidable.not_not] at hk;have:=hk.2;simpa [hml,hm1] using this
   refine⟨h1,λx=>?_,λx hx y hy=>?_⟩
   ·rw[h2]
    constructor
    ·rintro⟨j,hj,e⟩;exact⟨j,by omega,e⟩
    ·rintro⟨j,hj,e⟩
     rcases Nat.lt_or_ge j m with h|h
     ·exact⟨j,h,e⟩
     ·obtain rfl:j=m:=by omega
      exact⟨j-1,by omega,by rw[A0 hml] at e;rw[A0 hm1,← he];exact e⟩
   ·simp only[Nat.add_sub_cancel] at hy
    rw[A0 hml,he] at hy;exact h3 x hx y (by rw[A0 hm1];exact hy)
def uniq (l:List Key):List Key:=Lib.compact (l.mergeSort λx y=>decide (x<=y))
theorem Y5 (l:List Key):(uniq l).Pairwise (· < ·)/\∀x,x∈uniq l↔x∈l:=by
 have hs:(l.mergeSort λx y=>decide (x<=y)).Pairwise (·<=·):=by
  have:=List.pairwise_mergeSort (le:=λ(x y:Key)=>decide (x<=y)) (λa b c h k=>by
   simp only[decide_eq_true_eq] at *;exact List.le_trans h k) (λa b=>by
   simp only[Bool.or_eq_true,decide_eq_true_eq];exact List.le_total a b) l
  simpa using this
 obtain⟨h1,h2,_⟩:=Agi _ hs _ (A3 _);refine⟨h1,λx=>?_⟩;have:=h2 x;unfold uniq Lib.compact;rw[this];have hm:x∈(l.mergeSort λx y=>decide (x<=y))↔x∈l:=List.mem_mergeSort;rw[← hm,C5];constructor
 ·rintro⟨j,_,e⟩;exact⟨j,e⟩
 ·rintro⟨j,e⟩;exact⟨j,(A2.1 e).1,e⟩
def ownK (p:Ph):List Key:=if p.k=2 then [p.a.toList,p.b.toList] else [p.a.toList]
def slE (ps:List Ph) (nm:ByteArray):List ByteArray:=evL (λ_=>[]) (λp a b=>bothL (bothL (ofL p) a) b) [] ps nm
def fpK (p:Ph) (a b:List Key):List Key:=uniq (ownK p++a++b)
def feK (_:Int):List Key:=[]
def slI (ps:List Ph) (nm:ByteArray):List Key:=evL feK fpK [] ps nm
theorem Aid (p:Ph):(keys (ofL p)).Pairwise (· < ·)/\∀x,x∈keys (ofL p)↔x∈ownK p:=by
 unfold ofL ownK;by_cases h:p.k=2
 ·rw[if_pos h,if_pos h]
  obtain⟨h1,h2⟩:=Ad6 [p.a] p.b;refine⟨h2 (by simp[keys]),λx=>?_⟩;rw[h1];simp[keys]
 ·rw[if_neg h,if_neg h]
  exact⟨by simp[keys],λx=>by simp[keys]⟩
theorem Akr (p:Ph) (a b:List ByteArray):keys (bothL (bothL (ofL p) a) b)=fpK p (keys a) (keys b):=by
 obtain⟨o1,o2⟩:=Aid p;obtain⟨m1,p1⟩:=O7 a (ofL p);obtain⟨m2,p2⟩:=O7 b (bothL (ofL p) a);obtain⟨u1,u2⟩:=Y5 (ownK p++keys a++keys b);refine Z8 _ _ (p2 (p1 o1)) u1 λx=>?_;rw[m2,m1,o2];show _↔x∈uniq _
 rw[u2,D0,D0]
theorem Z9:∀(ps:List Ph) (nm:ByteArray),keys (slE ps nm)=slI ps nm
 | [],nm=>by unfold slE slI evL;split<;>rfl
 | p::rest,nm=>by
  have ih:=Z9 rest;unfold slE slI at *;rw[evL,evL];split
  ·rw[Akr,ih,ih]
  ·exact ih nm
theorem Ac5:∀(ps:List Ph) (nm:ByteArray),(slI ps nm).Pairwise (· < ·)
 | [],nm=>by unfold slI evL;split<;>simp[feK]
 | p::rest,nm=>by
  have ih:=Ac5 rest;unfold slI at *;rw[evL];split
  ·exact (Y5 _).1
  ·exact ih nm
theorem Ac6:∀(ps:List Ph) (nm:ByteArray) (x:Key),x∈slI ps nm->x∈ps.flatMap ownK
 | [],nm,x,h=>by
  unfold slI evL at h;split at h<;>simp[feK] at h
 | p::rest,nm,x,h=>by
  have ih:=Ac6 rest;unfold slI at *;rw[evL] at h;rw[List.flatMap_cons,D0];split at h
  ·have:=((Y5 _).2 x).1 h
   rw[D0,D0] at this;rcases this with (h1|h1)|h1
   ·exact .inl h1
   ·exact .inr (ih _ x h1)
   ·exact .inr (ih _ x h1)
  ·exact .inr (ih _ x h)
theorem Aao:∀(m l:List Key),l.Nodup->(∀x∈l,x∈m)->l.length<=m.length
 | [],l,_,h=>by
  cases l with
  | nil=>simp
  | cons x r=>have:=h x (by simp);simp at this
 | a::m,l,hn,h=>by
  have ih:=Aao m (l.erase a) (hn.erase a) (λx hx=>by
   have hx':=(List.Nodup.mem_erase_iff hn).1 hx;rcases List.mem_cons.1 (h x hx'.2) with e|e
   ·exact absurd e hx'.1
   ·exact e)
  have:=List.length_erase (a:=a) (l:=l);split at this<;>simp only[List.length_cons]<;>omega
theorem AeV (ps:List Ph) (nm:ByteArray):(slI ps nm).length<=2*ps.length:=by
 have hn:(slI ps nm).Nodup:=(Ac5 ps nm).imp λh e=>by subst e;exact U7 _ h
 have h1:=Aao (ps.flatMap ownK) _ hn (Ac6 ps nm)
 have h2:∀l:List Ph,(l.flatMap ownK).length<=2*l.length:=by
  intro l;induction l with
  | nil=>simp
  | cons p r ih =>
   rw[List.flatMap_cons,A9,List.length_cons];have:(ownK p).length<=2:=by unfold ownK;split<;>simp
   omega
 exact B1 h1 (h2 ps)
theorem Aap (ps:List Ph) (nm:ByteArray):(slE ps nm).length<=2*ps.length:=by
 have:=AeV ps nm;rw[← Z9] at this;simpa [keys] using this
def slotsV (ps:List Ph) (nm:ByteArray):List ByteArray:=if recB ps=true then slE ps nm else []
end Go.Proofs.YtgecdacgmehmbaaGreatDoor
namespace Go.Proofs.YtgecdacgmehmbaaGreatDoor
open Go.Maps
structure Sl where
 s:ByteArray
 t:ByteArray
structure Rb where
 nm:ByteArray
 ps:List Ph
 sl:List Sl
 ad:ByteArray
 si:Int
 st:Int
def slNames (l:List Sl):List ByteArray:=l.map (·.s)
def slThings (l:List Sl):List ByteArray:=l.map (·.t)
def firstT (l:List Sl) (s:ByteArray):ByteArray:=match l.find? λx=>x.s.toList==s.toList with
 | some x=>x.t
 | none=>⟨#[]⟩
def lastT (l:List Sl) (s:ByteArray):ByteArray:=firstT l.reverse s
theorem V9 (x:Sl) (l:List Sl) (s:ByteArray):firstT (x::l) s=if (x.s.toList==s.toList)=true then x.t else firstT l s:=by
 unfold firstT;rw[List.find?_cons];cases h:(x.s.toList==s.toList)<;>simp
theorem AiD (x:Sl) (l:List Sl) (s:ByteArray):lastT (l++[x]) s=if (x.s.toList==s.toList)=true then x.t else lastT l s:=by
 unfold lastT;rw[List.reverse_append];exact V9 x l.reverse s
theorem Aa7:∀{l:List Sl} {s:ByteArray},s.toList∉keys (slNames l)->firstT l s=⟨#[]⟩
 | [],_,_=>rfl
 | x::r,s,h=>by
  simp only[slNames,keys,List.map_cons,List.mem_cons,not_or] at h;have h1:¬(x.s.toList==s.toList)=true:=λe=>h.1 (by simpa using (beq_iff_eq.1 e).symm);rw[V9,if_neg h1];exact Aa7 (by simpa [slNames,keys] using h.2)
theorem Aa8:∀{l:List Sl},(keys (slNames l)).Nodup->∀{x:Sl},x∈l->firstT l x.s=x.t
 | [],_,_,h=>by simp at h
 | y::r,hn,x,h=>by
  have hn':y.s.toList∉keys (slNames r)/\(keys (slNames r)).Nodup:=by simpa [slNames,keys] using hn
  rw[V9];rcases List.mem_cons.1 h with rfl|h
  ·rw[if_pos (by simp)]
  ·have h1:¬(y.s.toList==x.s.toList)=true:=λe=>hn'.1 (by
    rw[beq_iff_eq.1 e];simp only[slNames,keys,List.mem_map];exact⟨x.s,⟨x,h,rfl⟩,rfl⟩)
   rw[if_neg h1];exact Aa8 hn'.2 h
theorem Aea:∀{l:List Sl} {s:ByteArray} {k:Nat} (hk:k<l.length),(∀(j:Nat) (x:Sl),j<k->l[j]?=some x->(x.s.toList==s.toList)=false)->((l[k]).s.toList==s.toList)=true->firstT l s=(l[k]).t
 | x::r,s,0,_,_,h=>by rw[V9,if_pos (by simpa using h)];rfl
 | x::r,s,k+1,hk,hal,h=>by
  have h0:=hal 0 x (by omega) rfl;rw[V9,if_neg (by simp[h0])];have:=Aea (l:=r) (s:=s) (k:=k) (by simpa using hk) (λj y hj hy=>hal (j+1) y (by omega) (by simpa using hy)) (by simpa using h);simpa using this
theorem Aho {l:List Sl} {s:ByteArray} (h:∀(j:Nat) (x:Sl),l[j]?=some x->(x.s.toList==s.toList)=false):firstT l s=⟨#[]⟩:=by
 refine Aa7 λhm=>?_;simp only[slNames,keys,List.mem_map] at hm;obtain⟨_,⟨x,hx,rfl⟩,e⟩:=hm;obtain⟨j,hj⟩:=C5.1 hx;have:=h j x hj;rw[e] at this;simp at this
theorem Aks {l:List Key} (h:l.Nodup):l.reverse.Nodup:=by
 unfold List.Nodup at *;rw[List.pairwise_reverse];exact h.imp λh e=>h e.symm
theorem Aeb {l:List Sl} (hn:(keys (slNames l)).Nodup) (s:ByteArray):lastT l s=firstT l s:=by
 have hr:keys (slNames l.reverse)=(keys (slNames l)).reverse:=by simp[keys,slNames]
 by_cases h:s.toList∈keys (slNames l)
 ·simp only[slNames,keys,List.mem_map] at h
  obtain⟨_,⟨x,hx,rfl⟩,e⟩:=h;obtain rfl:=N0 e;rw[Aa8 hn hx];exact Aa8 (l:=l.reverse) (by rw[hr];exact Aks hn) (by simpa using hx)
 ·rw[Aa7 h]
  exact Aa7 (by rw[hr];simpa using h)
def thE (l:List Sl) (ss:List ByteArray):List ByteArray:=bothL [] (ss.map (firstT l))
def thI (l:List Sl) (ss:List ByteArray):List Key:=uniq (keys (ss.map (lastT l)))
theorem AbW (l:List Sl) (ss:List ByteArray):(keys (thE l ss)).Pairwise (· < ·)/\∀x,x∈keys (thE l ss)↔x∈keys (ss.map (firstT l)):=by
 obtain⟨h1,h2⟩:=O7 (ss.map (firstT l)) [];exact⟨h2 (by simp[keys]),λx=>by rw[thE,h1];simp[keys]⟩
theorem Adg {l:List Sl} {ss tt:List ByteArray} (hn:(keys (slNames l)).Nodup) (hm:∀x,x∈keys ss↔x∈keys tt):keys (thE l ss)=thI l tt:=by
 obtain⟨e1,e2⟩:=AbW l ss;obtain⟨u1,u2⟩:=Y5 (keys (tt.map (lastT l)));refine Z8 _ _ e1 u1 λx=>?_;rw[e2];show _↔x∈uniq _
 rw[u2];have hl:tt.map (lastT l)=tt.map (firstT l):=List.map_congr_left λs _=>Aeb hn s;rw[hl];simp only[keys,List.mem_map] at hm ⊢
 constructor
 ·rintro⟨_,⟨s,hs,rfl⟩,rfl⟩
  obtain⟨s',hs',e⟩:=(hm s.toList).1 ⟨s,hs,rfl⟩;obtain rfl:=N0 e;exact⟨_,⟨_,hs',rfl⟩,rfl⟩
 ·rintro⟨_,⟨s,hs,rfl⟩,rfl⟩
  obtain⟨s',hs',e⟩:=(hm s.toList).2 ⟨s,hs,rfl⟩;obtain rfl:=N0 e;exact⟨_,⟨_,hs',rfl⟩,rfl⟩
theorem Ac7:∀(m l:List Key),l.Nodup->(∀x∈l,x∈m)->m.length<=l.length->m.Nodup
 | [],_,_,_,_=>List.nodup_nil
 | a::m,l,hn,h,hl=>by
  simp only[List.length_cons] at hl
  have hsub:∀x∈l.erase a,x∈m:=λx hx=>by
   have hx':=(List.Nodup.mem_erase_iff hn).1 hx;rcases List.mem_cons.1 (h x hx'.2) with e|e
   ·exact absurd e hx'.1
   ·exact e
  have he:=List.length_erase (a:=a) (l:=l);refine List.nodup_cons.2 ⟨λha=>?_,Ac7 m (l.erase a) (hn.erase a) hsub (by split at he<;>omega)⟩
  have:=Aao m l hn λx hx=>by
   rcases List.mem_cons.1 (h x hx) with e|e
   ·rw[e];exact ha
   ·exact e
  omega
theorem Y6 {l:List Key} (h:l.Pairwise (· < ·)):l.Nodup:=h.imp λh e=>by subst e;exact U7 _ h
theorem AlD (l:List Key):(uniq l).length=l.length↔l.Nodup:=by
 obtain⟨u1,u2⟩:=Y5 l;constructor
 ·intro h
  exact Ac7 l (uniq l) (Y6 u1) (λx hx=>(u2 x).1 hx) (by omega)
 ·intro h
  have h1:=Aao l (uniq l) (Y6 u1) (λx hx=>(u2 x).1 hx);have h2:=Aao (uniq l) l h (λx hx=>(u2 x).2 hx);omega
def SlP (l:List Sl) (ns:List ByteArray) (i:Nat):Prop:=∀(j:Nat) (x:Sl),j<i->l[j]?=some x->(∃n,ns[j]?=some n/\x.s.toList=n.toList)/\nameB x.t=true
def SlD (l:List Sl) (i:Nat):Prop:=∀(j k:Nat) (x y:Sl),j<i->k<j->l[j]?=some x->l[k]?=some y->y.t.toList≠x.t.toList
def SlOk (l:List Sl) (ns:List ByteArray):Prop:=l.length=ns.length/\SlP l ns l.length/\SlD l l.length
theorem SlP.step {l:List Sl} {ns:List ByteArray} {i:Nat} (h:SlP l ns i) (hi:i<l.length) (hn:i<ns.length) (h1:((l[i]).s.toList==(ns[i]).toList)=true) (h2:nameB (l[i]).t=true):SlP l ns (i+1):=λj x hj hx=>by
 rcases Nat.lt_or_ge j i with h'|h'
 ·exact h j x h' hx
 ·obtain rfl:j=i:=by omega
  obtain⟨_,rfl⟩:=A2.1 hx;exact⟨⟨ns[j],by simp[hn],by simpa using h1⟩,h2⟩
theorem SlP.no1 {l:List Sl} {ns:List ByteArray} {i:Nat} (hi:i<l.length) (hn:i<ns.length) (h1:((l[i]).s.toList==(ns[i]).toList)=false):¬SlOk l ns:=λ⟨_,h,_⟩=>by
 obtain⟨⟨n,hn',e⟩,_⟩:=h i l[i] hi (by simp);rw[A0 hn] at hn';obtain rfl:=A5 hn';rw[e] at h1;simp at h1
theorem SlP.no2 {l:List Sl} {ns:List ByteArray} {i:Nat} (hi:i<l.length) (h1:nameB (l[i]).t=false):¬SlOk l ns:=λ⟨_,h,_⟩=>by
 rw[(h i l[i] hi (by simp)).2] at h1;cases h1
theorem SlD.step {l:List Sl} {i:Nat} (h:SlD l i) (hi:i<l.length) (hd:∀(k:Nat) (y:Sl),k<i->l[k]?=some y->y.t.toList≠(l[i]).t.toList):SlD l (i+1):=λj k x y hj hk hx hy=>by
 rcases Nat.lt_or_ge j i with h'|h'
 ·exact h j k x y h' hk hx hy
 ·obtain rfl:j=i:=by omega
  obtain⟨_,rfl⟩:=A2.1 hx;exact hd k y hk hy
theorem SlD.no {l:List Sl} {ns:List ByteArray} {i k:Nat} (hi:i<l.length) (hk:k<i) (h1:((l[k]).t.toList==(l[i]).t.toList)=true):¬SlOk l ns:=λ⟨_,_,h⟩ =>
 h i k l[i] (l[k]'(by omega)) hi hk (by simp) (A0 (by omega)) (by simpa using h1)
theorem SlP.names {l:List Sl} {ns:List ByteArray} (hl:l.length=ns.length) (h:SlP l ns l.length):slNames l=ns:=by
 refine List.ext_getElem (by simpa [slNames] using hl) λj h1 h2=>?_;have hj:j<l.length:=by simpa [slNames] using h1
 obtain⟨⟨n,hn,e⟩,_⟩:=h j l[j] hj (by simp);rw[A0 h2] at hn;obtain rfl:=A5 hn;simp only[slNames,List.getElem_map];exact N0 e
theorem SlD.nodup {l:List Sl}:SlD l l.length↔(keys (slThings l)).Nodup:=by
 unfold List.Nodup;rw[List.pairwise_iff_getElem];constructor
 ·intro h i j hi hj hij
  have hi':i<l.length:=by simpa [keys,slThings] using hi
  have hj':j<l.length:=by simpa [keys,slThings] using hj
  have:=h j i l[j] l[i] hj' hij (by simp) (by simp);simpa [keys,slThings] using this
 ·intro h j k x y hj hk hx hy
  obtain⟨h1,rfl⟩:=A2.1 hx;obtain⟨h2,rfl⟩:=A2.1 hy;have:=h k j (by simpa [keys,slThings] using h2) (by simpa [keys,slThings] using h1) hk;simpa [keys,slThings] using this
theorem SlP.count {l:List Sl} {ns:List ByteArray} (hl:l.length=ns.length) (h:SlP l ns l.length) (hn:(keys ns).Nodup):(thI l ns).length=l.length↔SlOk l ns:=by
 have hnm:=SlP.names hl h
 have hm:ns.map (lastT l)=slThings l:=by
  rw[← hnm,slNames,List.map_map]
  exact List.map_congr_left λx hx=>by
   show lastT l x.s=x.t
   rw[Aeb (by rw[hnm];exact hn),Aa8 (by rw[hnm];exact hn) hx]
 have hc:=AlD (keys (slThings l));rw[thI,hm];have hk:(keys (slThings l)).length=l.length:=by simp[keys,slThings]
 rw[hk] at hc;rw[hc,← SlD.nodup];exact⟨λhd=>⟨hl,h,hd⟩,λhd=>hd.2.2⟩
def phOf (ps:List Ph) (nm:ByteArray):Ph:=match ps.find? λp=>p.nm.toList==nm.toList with
 | some p=>p
 | none=>⟨⟨#[]⟩,0,⟨#[]⟩,⟨#[]⟩,0,0,⟨#[]⟩,⟨#[]⟩⟩
theorem Ab2 {ps:List Ph} {nm:ByteArray} {k:Nat} (hk:k<ps.length) (h:atI ps nm=(k:Int)):phOf ps nm=ps[k]:=by
 unfold atI at h;unfold phOf;cases hf:ps.findIdx? λp=>p.nm.toList==nm.toList with
 | none =>
  rw[hf] at h;have h':(-1:Int)=(k:Int):=h;omega
 | some i =>
  rw[hf] at h;have h':(i:Int)=(k:Int):=h;obtain rfl:i=k:=by omega
  obtain⟨h1,h2,h3⟩:=List.findIdx?_eq_some_iff_getElem.1 hf
  have:(ps.find? λp=>p.nm.toList==nm.toList)=some ps[i]:=by
   rw[List.find?_eq_some_iff_getElem];exact⟨h2,i,h1,rfl,λj hj=>by simpa using h3 j hj⟩
  rw[this]
def fstN:List Ph->ByteArray
 | []=>⟨#[]⟩
 | p::_=>p.nm
theorem S9 {ps:List Ph} (h:0<ps.length):fstN ps=(ps[0]).nm:=by
 cases ps with
 | nil=>simp at h
 | cons p r=>rfl
def SlotsOk (ps:List Ph) (l:List Sl):Prop:=SlOk l (slE ps (fstN ps))
def RbOk (x:Rb):Prop:=nameB x.nm=true/\recB x.ps=true/\SlotsOk x.ps x.sl/\1<=x.st/\hasB x.ps x.ad=true/\-1<=x.si/\x.si<(phOf x.ps x.ad).wi
noncomputable def rbThings (x:Rb) (nm:ByteArray):List ByteArray:=if pB (RbOk x)=true then thE x.sl (slE x.ps nm) else []
noncomputable def rbOwn (x:Rb):List ByteArray:=if pB (RbOk x)=true then thE x.sl (ofL (phOf x.ps x.ad)) else []
theorem AeW (ps:List Ph) (nm:ByteArray):(keys (slE ps nm)).Nodup:=by rw[Z9];exact Y6 (Ac5 ps nm)
theorem SlotsOk.names {ps:List Ph} {l:List Sl} (h:SlotsOk ps l):slNames l=slE ps (fstN ps):=SlP.names h.1 h.2.1
theorem SlotsOk.nodup {ps:List Ph} {l:List Sl} (h:SlotsOk ps l):(keys (slNames l)).Nodup:=by rw[h.names];exact AeW _ _
theorem SlotsOk.len {ps:List Ph} {l:List Sl} (h:SlotsOk ps l):l.length<=2*ps.length:=by
 have h1:=h.names;have h2:=Aap ps (fstN ps);have:l.length=(slNames l).length:=by simp[slNames]
 rw[this,h1];exact h2
theorem AlE (l:List Sl) (p:Ph) (hn:(keys (slNames l)).Nodup) {tt:List ByteArray} (ht:keys tt=ownK p):keys (thE l (ofL p))=thI l tt :=
 Adg hn λx=>by rw[(Aid p).2,ht]
theorem Aie (l:List Sl) (ss:List ByteArray):(thI l ss).length<=ss.length:=by
 obtain⟨u1,u2⟩:=Y5 (keys (ss.map (lastT l)));have:=Aao (keys (ss.map (lastT l))) _ (Y6 u1) (λx hx=>(u2 x).1 hx);simpa [keys,thI] using this
theorem Ae7 (l:List Sl) (ss:List ByteArray):(thE l ss).length<=ss.length:=by
 have:=Abe [] (ss.map (firstT l));simpa [thE] using this
end Go.Proofs.YtgecdacgmehmbaaGreatDoor
namespace Go.Proofs.YtgecdacgmehmbaaGreatDoor
open Go.RowKit
theorem Ac8 (w:World) (ss:List ByteArray) (t:TypeId):StrsAt (w.alloc (.cells (ss.map Value.string).toArray t)) w.heap.size 0 ss:=λi s hs=>by
 have:((ss.map Value.string).toArray)[i]?=some (.string s):=by simp[hs]
 simp[go_sem,World.cell?_alloc_at,this]
theorem AmL {W1 w0 w1:World} {B:Nat} {x0 x1 x2 x3 x4 x5 x6 x7:Value} (hB:B<W1.heap.size) (h:Below W1.heap.size W1 w0/\w0.cell? ⟨B,0,none⟩=some x0/\w0.cell? ⟨B,1,none⟩=some x1/\w0.cell? ⟨B,2,none⟩=some x2/\w0.cell? ⟨B,3,none⟩=some x3/\w0.cell? ⟨B,4,none⟩=some x4/\w0.cell? ⟨B,5,none⟩=some x5/\w0.cell? ⟨B,6,none⟩=some x6/\w0.cell? ⟨B,7,none⟩=some x7) (hb:Below w0.heap.size w0 w1):Below W1.heap.size W1 w1/\w1.cell? ⟨B,0,none⟩=some x0/\w1.cell? ⟨B,1,none⟩=some x1/\w1.cell? ⟨B,2,none⟩=some x2/\w1.cell? ⟨B,3,none⟩=some x3/\w1.cell? ⟨B,4,none⟩=some x4/\w1.cell? ⟨B,5,none⟩=some x5/\w1.cell? ⟨B,6,none⟩=some x6/\w1.cell? ⟨B,7,none⟩=some x7:=by
 obtain⟨h1,a0,a1,a2,a3,a4,a5,a6,a7⟩:=h;have hl:B<w0.heap.size:=A1 hB h1.size;exact⟨D5 h1 hb,(hb.cell (p:=⟨B,0,none⟩) hl).trans a0,(hb.cell (p:=⟨B,1,none⟩) hl).trans a1,(hb.cell (p:=⟨B,2,none⟩) hl).trans a2,(hb.cell (p:=⟨B,3,none⟩) hl).trans a3,(hb.cell (p:=⟨B,4,none⟩) hl).trans a4,(hb.cell (p:=⟨B,5,none⟩) hl).trans a5,(hb.cell (p:=⟨B,6,none⟩) hl).trans a6,(hb.cell (p:=⟨B,7,none⟩) hl).trans a7⟩
theorem Akt {W1 w0:World} {B:Nat} {x0 x1 x2 x3 x4 x5 x6 x7:Value} (h:Below W1.heap.size W1 w0/\w0.cell? ⟨B,0,none⟩=some x0/\w0.cell? ⟨B,1,none⟩=some x1/\w0.cell? ⟨B,2,none⟩=some x2/\w0.cell? ⟨B,3,none⟩=some x3/\w0.cell? ⟨B,4,none⟩=some x4/\w0.cell? ⟨B,5,none⟩=some x5/\w0.cell? ⟨B,6,none⟩=some x6/\w0.cell? ⟨B,7,none⟩=some x7):Below W1.heap.size W1 w0.drew/\w0.drew.cell? ⟨B,0,none⟩=some x0/\w0.drew.cell? ⟨B,1,none⟩=some x1/\w0.drew.cell? ⟨B,2,none⟩=some x2/\w0.drew.cell? ⟨B,3,none⟩=some x3/\w0.drew.cell? ⟨B,4,none⟩=some x4/\w0.drew.cell? ⟨B,5,none⟩=some x5/\w0.drew.cell? ⟨B,6,none⟩=some x6/\w0.drew.cell? ⟨B,7,none⟩=some x7:=by
 obtain⟨h1,a0,a1,a2,a3,a4,a5,a6,a7⟩:=h;exact⟨h1.drew,a0,a1,a2,a3,a4,a5,a6,a7⟩
theorem sizeP:(Tryz.prog.info? 73).map (·.size)=some 8:=by kernel_rfl
end Go.Proofs.YtgecdacgmehmbaaGreatDoor
namespace Go.Proofs.YtgecdacgmehmbaaGreatDoor
structure Done where
 nm:ByteArray
 e:Int
 t:Int
structure House where
 now:Int
 last:Int
 sh:Bk
 bs:List Rb
 ds:List Done
def TimesOk (h:House):Prop:=0<=h.now/\h.now<=100000/\0<=h.last/\h.last<=1000000
def DoneOk (ds:List Done) (now:Int) (i:Nat) (d:Done):Prop:=nameB d.nm=true/\1<=d.e/\d.e<=3/\0<=d.t/\d.t<=now/\∀(j:Nat) (p:Done),j+1=i->ds[j]?=some p->p.t<=d.t
def DonesTo (ds:List Done) (now:Int) (k:Nat):Prop:=∀(i:Nat) (d:Done),i<k->ds[i]?=some d->DoneOk ds now i d
def DonesOk (h:House):Prop:=h.ds.length<=20/\DonesTo h.ds h.now h.ds.length
def SafeP (b:Bk):Prop:=∃ss,OrderIs b ss true
def BatOk (bs:List Rb) (last:Int) (i:Nat) (b:Rb):Prop:=RbOk b/\b.st<=last/\∀(j:Nat) (p:Rb),j+1=i->bs[j]?=some p->p.st<b.st
def BatsTo (bs:List Rb) (last:Int) (k:Nat):Prop:=∀(i:Nat) (b:Rb),i<k->bs[i]?=some b->BatOk bs last i b
def BatsOk (h:House):Prop:=BatsTo h.bs h.last h.bs.length
def rnms (bs:List Rb):List ByteArray:=bs.map (·.nm)
def NamesOk (h:House):Prop:=h.bs.length=h.sh.bs.length/\(rnms h.bs).Nodup/\∀s∈rnms h.bs,s∈nms h.sh.bs
def shOf (b:Bk) (nm:ByteArray):Ba:=(b.bs.find? λx=>x.nm.toList==nm.toList).getD ⟨⟨#[]⟩,[],[]⟩
def NeedTo (h:House) (k:Nat):Prop:=∀(i:Nat) (b:Rb),i<k->h.bs[i]?=some b->(shOf h.sh b.nm).needs=rbThings b b.ad
def HaveTo (h:House) (k:Nat):Prop:=∀(i:Nat) (b:Rb),i<k->h.bs[i]?=some b->0<=b.si->Part (rbOwn b) (shOf h.sh b.nm).has
def HouseOk (h:House):Prop:=TimesOk h/\DonesOk h/\SafeP h.sh/\NamesOk h/\BatsOk h/\NeedTo h h.bs.length/\HaveTo h h.bs.length
theorem Aif {b:Bk} {ss:List ByteArray} {ok:Bool} (h:OrderIs b ss ok):ok=pB (SafeP b):=by
 cases ok with
 | true=>exact (G9 ⟨ss,h⟩).symm
 | false=>exact (F1 λ⟨ss',h'⟩=>by have:=(h.uniq h').2;cases this).symm
theorem SafeP.book {b:Bk} (h:SafeP b):BookOk b:=by
 obtain⟨ss,⟨_,hb,_⟩|⟨h0,_⟩⟩:=h
 ·exact hb
 ·cases h0
theorem Adh (bs:List Rb):(rnms bs).length=bs.length:=by simp[rnms]
theorem Y7 {α:Type} {P:Nat->α->Prop} {l:List α} {k:Nat} (h:∀(i:Nat) (a:α),i<k->l[i]?=some a->P i a) (hk:k<l.length) (hl:P k l[k]):∀(i:Nat) (a:α),i<k+1->l[i]?=some a->P i a:=λi a hi ha=>by
 by_cases e:i=k
 ·subst e
  rw[A0 hk] at ha;obtain rfl:=A5 ha;exact hl
 ·exact h i a (by omega) ha
theorem Aig {b:Bk} {nm:ByteArray} {k:Nat} (ha:Asc (nms b.bs)) (hk:k<b.bs.length) (e:(b.bs[k]).nm=nm):shOf b nm=b.bs[k]:=by
 have:(b.bs.find? λx=>x.nm.toList==nm.toList)=some b.bs[k]:=by
  rw[List.find?_eq_some_iff_getElem];refine⟨by rw[e];simp,k,hk,rfl,λj hj=>?_⟩;have hj':j<b.bs.length:=by omega
  cases hq:((b.bs[j]).nm.toList==nm.toList)
  ·simp
  ·have e2:(b.bs[j]).nm=nm:=Z5 (by simpa using hq)
   have h1:(nms b.bs)[j]?=some nm:=by rw[A0 (by rw[I0];exact hj'),Q8 _ _ hj',e2]
   have h2:(nms b.bs)[k]?=some nm:=by rw[A0 (by rw[I0];exact hk),Q8 _ _ hk,e]
   have:=Abx ha h1 h2;omega
 rw[shOf,this];rfl
theorem Aku {b:Bk} {nm:ByteArray} (h:nm∈nms b.bs):∃k,∃hk:k<b.bs.length,(b.bs[k]).nm=nm:=by
 obtain⟨x,hx,rfl⟩:=List.mem_map.1 h;obtain⟨i,hi,rfl⟩:=B5 hx;exact⟨i,hi,rfl⟩
theorem Aec {l:List ByteArray}:(keys l).Nodup↔l.Nodup:=by
 unfold List.Nodup keys;rw[List.pairwise_map];constructor
 ·exact λh=>h.imp λh e=>h (by rw[e])
 ·exact λh=>h.imp λh e=>h (N0 e)
theorem AlF {l:List ByteArray} (h:Asc l):(keys l).Pairwise (· < ·):=by
 rw[List.pairwise_iff_getElem];intro i j hi hj hij;have hi':i<l.length:=by simpa [keys] using hi
 have hj':j<l.length:=by simpa [keys] using hj
 have:=R9 h (j-i-1) i _ _ (A0 hi') (by rw[show i+1+(j-i-1)=j by omega];exact A0 hj');unfold ltS at this;rw[Ab1] at this;simpa [keys] using this
theorem AlG {l:List ByteArray} (h:(keys l).Pairwise (· < ·)):Asc l:=λi a b _ ha hb=>by
 obtain⟨h1,rfl⟩:=A2.1 ha;obtain⟨h2,rfl⟩:=A2.1 hb;have:=List.pairwise_iff_getElem.1 h i (i+1) (by simpa [keys] using h1) (by simpa [keys] using h2) (by omega);unfold ltS;rw[Ab1];simpa [keys] using this
theorem Y0 {l:List ByteArray} {s:ByteArray}:s.toList∈keys l↔s∈l:=by
 simp only[keys,List.mem_map];exact⟨λ⟨x,hx,e⟩=>by rwa [← N0 e],λh=>⟨s,h,rfl⟩⟩
theorem AmM (l:List Sl) (ss:List ByteArray):Asc (thE l ss):=AlG (AbW l ss).1
theorem Akv (x:Rb):Asc (rbOwn x):=by
 unfold rbOwn;split
 ·exact AmM _ _
 ·exact λi a b hi ha=>by simp at ha
def sorted (l:List Key):List Key:=l.mergeSort λx y=>decide (x<=y)
theorem Agj {h:House} (ha:Asc (nms h.sh.bs)) (hl:h.bs.length=h.sh.bs.length):sorted (keys (rnms h.bs))=keys (nms h.sh.bs)↔NamesOk h:=by
 have hm:∀x,x∈sorted (keys (rnms h.bs))↔x∈keys (rnms h.bs):=λx=>List.mem_mergeSort;have hp:(sorted (keys (rnms h.bs))).Perm (keys (rnms h.bs)):=List.mergeSort_perm _ _;have hs:=AlF ha;constructor
 ·intro e
  rw[e] at hp hm;refine⟨hl,Aec.1 (hp.nodup_iff.1 (Y6 hs)),λs hs'=>Y0.1 ((hm _).2 (Y0.2 hs'))⟩
 ·rintro⟨-,hn,hmem⟩
  have hn':=Aec.2 hn
  have hsub:∀x∈keys (rnms h.bs),x∈keys (nms h.sh.bs):=λx hx=>by
   simp only[keys,List.mem_map] at hx;obtain⟨s,hs',rfl⟩:=hx;exact Y0.2 (hmem s hs')
  have hlen:(keys (rnms h.bs)).length=(keys (nms h.sh.bs)).length:=by simp[keys,rnms,nms,hl]
  have hsup:∀x∈keys (nms h.sh.bs),x∈keys (rnms h.bs):=λx hx=>by
   by_cases hxx:x∈keys (rnms h.bs)
   ·exact hxx
   ·have:=Aao ((keys (nms h.sh.bs)).erase x) (keys (rnms h.bs)) hn' λy hy=>by
     rw[(Y6 hs).mem_erase_iff];exact⟨λe=>hxx (by rw[← e];exact hy),hsub y hy⟩
    rw[List.length_erase_of_mem hx] at this;have:=List.length_pos_of_mem hx;omega
  have hsn:(sorted (keys (rnms h.bs))).Nodup:=hp.nodup_iff.2 hn'
  have hle:(sorted (keys (rnms h.bs))).Pairwise (·<=·):=by
   have:=List.pairwise_mergeSort (le:=λ(x y:Key)=>decide (x<=y)) (λa b c h k=>by
    simp only[decide_eq_true_eq] at *;exact List.le_trans h k) (λa b=>by
    simp only[Bool.or_eq_true,decide_eq_true_eq];exact List.le_total a b) (keys (rnms h.bs))
   simpa [sorted] using this
  have hlt:(sorted (keys (rnms h.bs))).Pairwise (· < ·):=by
   refine (hle.and hsn).imp λ⟨h1,h2⟩=>?_;rcases AdZ.1 h1 with k|k
   ·exact k
   ·exact absurd k h2
  exact Z8 _ _ hlt hs λx=>by rw[hm];exact⟨hsub x,hsup x⟩
end Go.Proofs.YtgecdacgmehmbaaGreatDoor
namespace Go.Proofs.YtgecdacgmehmbaaGreatDoor
open Go.RowKit
theorem CB.c6 {w:World} {b:Nat} {x0 x1 x2 x3 x4 x5:Value} (h:CB w b [x0,x1,x2,x3,x4,x5]) :
  w.cell? ⟨b,0,none⟩=some x0/\w.cell? ⟨b,1,none⟩=some x1/\w.cell? ⟨b,2,none⟩=some x2/\w.cell? ⟨b,3,none⟩=some x3/\w.cell? ⟨b,4,none⟩=some x4/\w.cell? ⟨b,5,none⟩=some x5 :=
 ⟨h.1 0 _ rfl,h.1 1 _ rfl,h.1 2 _ rfl,h.1 3 _ rfl,h.1 4 _ rfl,h.1 5 _ rfl⟩
theorem CB.copy6 {w:World} {b:Nat} {y0 y1 y2 y3 y4 y5:Value} (h:CB w b [y0,y1,y2,y3,y4,y5]) (x0 x1 x2 x3 x4 x5:Value) :
  CB ((((((w.setCell ⟨b,0,none⟩ x0).setCell ⟨b,1,none⟩ x1).setCell ⟨b,2,none⟩ x2).setCell ⟨b,3,none⟩ x3).setCell ⟨b,4,none⟩ x4).setCell ⟨b,5,none⟩ x5) b [x0,x1,x2,x3,x4,x5]:=h.copy [x0,x1,x2,x3,x4,x5] rfl
theorem CB.f6 {w:World} {b:Nat} {x0 x1 x2 x3 x4 x5:Value} (h:CB w b [x0,x1,x2,x3,x4,x5]) :
  w.frozen? ⟨b,0,none⟩=false/\w.frozen? ⟨b,1,none⟩=false/\w.frozen? ⟨b,2,none⟩=false/\w.frozen? ⟨b,3,none⟩=false/\w.frozen? ⟨b,4,none⟩=false/\w.frozen? ⟨b,5,none⟩=false :=
 ⟨(h.2.1 0 (by simp)).2,(h.2.1 1 (by simp)).2,(h.2.1 2 (by simp)).2,(h.2.1 3 (by simp)).2,(h.2.1 4 (by simp)).2,(h.2.1 5 (by simp)).2⟩
theorem Aaq {P:Program} {fn:Func} {q:Tmp} {T:TypeId} (h:fn.results=#[.cell q T]) {d:TypeDesc} (hu:P.underlying T=some d) (hd:d.isRow=true) (hi:(P.info? T).map (·.size)=some 6) {R:Ending->World->Prop} {tmps:Array Value} {w:World} {rk:Nat} {y0 y1 y2 y3 y4 y5 x0 x1 x2 x3 x4 x5:Value}
  (k:CB w rk [y0,y1,y2,y3,y4,y5]) (ht:tmps.getD q undef=.pointer (some ⟨rk,0,none⟩)) (hR:R (.returned (.agg #[x0,x1,x2,x3,x4,x5])) ((((((w.setCell ⟨rk,0,none⟩ x0).setCell ⟨rk,1,none⟩ x1).setCell ⟨rk,2,none⟩ x2).setCell ⟨rk,3,none⟩ x3).setCell ⟨rk,4,none⟩ x4).setCell ⟨rk,5,none⟩ x5)) :
  bodyPost P fn R .ret {tmps:=tmps,defers:=[]} ((((((w.setCell ⟨rk,0,none⟩ x0).setCell ⟨rk,1,none⟩ x1).setCell ⟨rk,2,none⟩ x2).setCell ⟨rk,3,none⟩ x3).setCell ⟨rk,4,none⟩ x4).setCell ⟨rk,5,none⟩ x5) :=
 bodyPost_ret (AdP (cs:=[x0,x1,x2,x3,x4,x5]) h hu hd hi ht (k.copy6 x0 x1 x2 x3 x4 x5)) rfl hR
theorem M3 {P:Program} {fn:Func} {q q2:Tmp} {T:TypeId} (h:fn.results=#[.cell q T,.tmp q2]) {d:TypeDesc} (hu:P.underlying T=some d) (hd:d.isRow=true) (hi:(P.info? T).map (·.size)=some 6) {R:Ending->World->Prop} {tmps:Array Value} {w:World} {rk:Nat} {y0 y1 y2 y3 y4 y5 x0 x1 x2 x3 x4 x5 v:Value}
  (k:CB w rk [y0,y1,y2,y3,y4,y5]) (ht:tmps.getD q undef=.pointer (some ⟨rk,0,none⟩)) (hv:tmps.getD q2 undef=v) (hR:R (.returned (.tuple #[.agg #[x0,x1,x2,x3,x4,x5],v])) ((((((w.setCell ⟨rk,0,none⟩ x0).setCell ⟨rk,1,none⟩ x1).setCell ⟨rk,2,none⟩ x2).setCell ⟨rk,3,none⟩ x3).setCell ⟨rk,4,none⟩ x4).setCell ⟨rk,5,none⟩ x5)) :
  bodyPost P fn R .ret {tmps:=tmps,defers:=[]} ((((((w.setCell ⟨rk,0,none⟩ x0).setCell ⟨rk,1,none⟩ x1).setCell ⟨rk,2,none⟩ x2).setCell ⟨rk,3,none⟩ x3).setCell ⟨rk,4,none⟩ x4).setCell ⟨rk,5,none⟩ x5) :=
 bodyPost_ret (AcQ (cs:=[x0,x1,x2,x3,x4,x5]) h hu hd hi ht hv (k.copy6 x0 x1 x2 x3 x4 x5)) rfl hR
theorem J2 {B:Nat} {a w:World} {b:Nat} (h:Below B a w) (hb:B<=b) (x0 x1 x2 x3 x4 x5:Value):Below B a ((((((w.setCell ⟨b,0,none⟩ x0).setCell ⟨b,1,none⟩ x1).setCell ⟨b,2,none⟩ x2).setCell ⟨b,3,none⟩ x3).setCell ⟨b,4,none⟩ x4).setCell ⟨b,5,none⟩ x5) :=
 (((((h.setCell (p:=⟨b,0,none⟩) hb x0).setCell (p:=⟨b,1,none⟩) hb x1).setCell (p:=⟨b,2,none⟩) hb x2).setCell (p:=⟨b,3,none⟩) hb x3).setCell (p:=⟨b,4,none⟩) hb x4).setCell (p:=⟨b,5,none⟩) hb x5
def mkD (k:Nat) (out:ByteArray):ByteArray:=if k=0 then out else mkD (k / 10) (⟨#[48+UInt8.ofNat (k % 10)]⟩++out)
termination_by k
decreasing_by omega
def mkB (k:Int):ByteArray:=if k<=0 then ⟨#[109,48]⟩ else ⟨#[109]⟩++mkD k.toNat ⟨#[]⟩
theorem AlH:∀(k:Nat) (out:ByteArray),(mkD k out).size<=out.size+k:=by
 intro k;induction k using Nat.strongRecOn with
 | ind k ih =>
  intro out;unfold mkD;split
  ·omega
  ·have:=ih (k / 10) (by omega) (⟨#[48+UInt8.ofNat (k % 10)]⟩++out)
   rw[ByteArray.size_append] at this;have h1:(⟨#[48+UInt8.ofNat (k % 10)]⟩:ByteArray).size=1:=rfl;omega
theorem AlI (w:World) (x:Int) (h0:0<=x) (h1:x<256) :
  (convert 140 9 (.slice (some ⟨w.heap.size,0,none⟩) 1 1)).run Tryz.prog (w.alloc (.cells #[.int .u8 x] 5))=.ok (.string ⟨#[UInt8.ofNat x.toNat]⟩) (w.alloc (.cells #[.int .u8 x] 5)):=by
 refine run_convert_bytes_back (P:=Tryz.prog) (w.alloc (.cells #[.int .u8 x] 5)) 140 9 5 ⟨w.heap.size,0,none⟩ 1 [UInt8.ofNat x.toNat] Tryz.underlying140 Tryz.underlying5 Tryz.underlying9 (λj hj=>?_);obtain rfl:j=0:=by simpa using hj
 have e:((UInt8.ofNat x.toNat).toNat:Int)=x:=by
  rw[UInt8.toNat_ofNat'];omega
 simp only[List.getElem_cons_zero,e];simp[go_sem,Addr.add]
set_option maxRecDepth 20000 in
set_option maxHeartbeats 1000000 in
theorem F8 (k:Int) (w:World) (hk:k<=9000000000000000000) :
  Calls Tryz.prog 49 #[.int .i64 k] w λe w'=>e=.returned (.string (mkB k))/\Below w.heap.size w w':=by
 by_cases h0:k<=0
 ·have HV:Hid (mkB k=⟨#[109,48]⟩):=by show _=_;rw[mkB,if_pos h0]
  go_enter Tryz.func49,Tryz.ntmps49
  go_wp2_with fail
  go_ret
  exact⟨by rw[HV.out];rfl,A4 _ _⟩
 obtain⟨K,rfl⟩:∃K:Nat,k=(K:Int):=⟨k.toNat,by omega⟩;have HV:Hid (mkB K=⟨#[109]⟩++mkD K ⟨#[]⟩):=by show _=_;rw[mkB,if_neg h0];rfl
 go_enter Tryz.func49,Tryz.ntmps49
 go_wp2_with fail
 go_loopw [0,3] (λkk o w'=>∃(n j:Nat) (s:ByteArray),kk=.int .i64 (n:Int)/\o=.string s/\mkD n s=mkD K ⟨#[]⟩/\n<10 ^ j/\s.size+j<=19/\n<=K/\Below w.heap.size w w') (λkk _ _=>(intOf kk).toNat)
 case atStart=>exact⟨K,19,⟨#[]⟩,rfl,rfl,rfl,by omega,A3 _,A3 _,A4 _ _⟩
 case round =>
  obtain⟨n,j,s,rfl,rfl,hm,hj,hs,hnK,hB⟩:=hrel;have Hj:Hid (n<10 ^ j):=hj;clear hj;have Hm:Hid (mkD n s=mkD K ⟨#[]⟩):=hm;clear hm;by_cases hn:n=0
  ·subst hn
   go_wp2_with fail
   go_ret
   have h9:=Hm.out;unfold mkD at h9;rw[if_pos rfl] at h9;refine⟨?_,hB⟩;rw[HV.out];unfold mkD;rw[← h9];rfl
  ·have hcv:=AlI wr (48+(n:Int) % 10) (by omega) (by omega)
   have He:Hid (mkD n s=mkD (n / 10) (⟨#[48+UInt8.ofNat (n % 10)]⟩++s)):=by
    show _=_
    rw[mkD,if_neg hn]
   have Hj2:Hid (∃i,j=i+1/\n / 10<10 ^ i):=by
    have h:=Hj.out;rcases j with _|i
    ·rw[Nat.pow_zero] at h;omega
    ·rw[Nat.pow_succ] at h
     refine⟨i,rfl,?_⟩;generalize 10 ^ i=q at h ⊢
     omega
   go_wp2_with fail
   obtain⟨i,rfl,hi⟩:=Hj2.out;refine⟨⟨n / 10,i,⟨#[48+UInt8.ofNat (n % 10)]⟩++s,by rw[Int.natCast_ediv];rfl,rfl,by rw[← He.out];exact Hm.out,hi,?_,by omega,hB.alloc hB.size _⟩,by simp only[intOf];omega⟩;rw[ByteArray.size_append];have h1:(⟨#[48+UInt8.ofNat (n % 10)]⟩:ByteArray).size=1:=rfl;omega
end Go.Proofs.YtgecdacgmehmbaaGreatDoor
namespace Go.Proofs.YtgecdacgmehmbaaGreatDoor
open Go.ChangeShapes Go.WideShapes Go.ChangeAt Go.RowKit
theorem AeX:Tryz.prog.cellsOf 22=1:=by kernel_rfl
theorem Abh {W:World} {base n:Nat} {a:Addr} {cs:List Value} (hn:0<n) (h:W.cells? base a n=some cs):a.spot=none:=by
 unfold World.cells? at h;split at h
 ·obtain⟨x,_,hc⟩:=Lib.mapM_at h 0 0 (by simp[hn])
  simpa [Addr.add] using World.cell?_spot hc
 ·cases h
theorem AbX {H:Type} {enc:TypeId×Value->H} {W:World} {base:Nat} {sp:Nat->Bool} {held:Bool} {fuel:Nat} {v:Value} {x:DataW H×List MemPlace}
  (h:DataW.trod enc Tryz.prog W base sp held fuel 22 [v]=some x):∃ss,Ls W v ss:=by
 rcases DataW.trod_slice Tryz.underlying22 h with⟨hcs,_⟩|⟨a,len,cap,elems,rest,n,_,hcs,_,hb,hl,hm,hlen,hel,_,_⟩
 ·obtain rfl:v=.slice none 0 0:=by simpa using hcs
  exact⟨[],Ls.nil _ _ _⟩
 ·obtain rfl:v=.slice (some a) len cap:=by simpa using hcs
  clear hcs h;rw[O9] at hel
  have each:∀i,i<len->∃q:ByteArray,W.cells? base (a.add (i*1)) 1=some [.string q]/\q.size<=maxLen:=by
   intro i hi;have h1:=hel i hi;rw[A0 (by omega)] at h1;obtain⟨cs,hc,ht⟩:=Option.bind_eq_some_iff.1 h1;obtain⟨s,rfl,-,hs⟩:=DataW.trod_string Tryz.underlying9 ht;exact⟨s,hc,hs⟩
  obtain⟨ss,hpl,hps⟩:=AaH len _ each;rcases C3 len with h0|h0
  ·subst h0
   exact⟨[],Ls.nil _ _ _⟩
  ·obtain⟨b,o,spot⟩:=a
   have hs:spot=none:=by
    obtain⟨q,hq,_⟩:=each 0 h0;simpa [Addr.add] using Abh (by omega) hq
   subst hs
   have hra:StrsAt W b o ss:=by
    intro i q hq;have:=(hps i q hq).1;rw[Addr.add_mid,Nat.mul_one] at this;exact M2 this 0 _ rfl
   subst hpl;refine⟨ss,_,cap,rfl,by omega,λs hs=>?_,λ_=>⟨b,o,rfl,hra,?_⟩⟩
   ·obtain⟨i,hi,rfl⟩:=B5 hs
    exact (hps i ss[i] (by simp[hi])).2
   ·exact World.block_lt_of_cell? W _ (hra 0 ss[0] (by simp[h0]))
theorem Aed:Tryz.prog.cellsOf 142=3:=by kernel_rfl
theorem AeY:Tryz.prog.cellsOf 25=2:=by kernel_rfl
theorem Ahp:Tryz.prog.cellsOf 23=1:=by kernel_rfl
theorem AiE {H:Type} {enc:TypeId×Value->H} {w:World} {base:Nat} {sp:Nat->Bool} {held:Bool} {fuel:Nat} {cs:List Value} {x:DataW H×List MemPlace}
  (h:DataW.trod enc Tryz.prog w base sp held fuel 142 cs=some x):∃(y:Ba) (hv nv:Value),cs=[.string y.nm,hv,nv]/\Ls w hv y.has/\Ls w nv y.needs/\y.nm.size<=maxLen:=by
 obtain⟨xs,m,_,rfl,hl,hlen,hf⟩:=DataW.trod_struct Tryz.underlying142 h;rw[Aed] at hl;obtain⟨c0,c1,c2,rfl⟩:=Af8 hl;obtain⟨y0,y1,y2,rfl⟩:=Af8 (hlen.trans rfl:xs.length=3);have h0:DataW.trod enc Tryz.prog w base sp held m 9 (([c0,c1,c2].drop 0).take (Tryz.prog.cellsOf 9))=some y0:=hf 0 {name:= "Name",type:=9,offset:=0,embedded:=false,tag:= "",pkgPath:= "",byteOffset:=0} rfl;have h1:DataW.trod enc Tryz.prog w base sp held m 22 (([c0,c1,c2].drop 1).take (Tryz.prog.cellsOf 22))=some y1:=hf 1 {name:= "Has",type:=22,offset:=1,embedded:=false,tag:= "",pkgPath:= "",byteOffset:=16} rfl;have h2:DataW.trod enc Tryz.prog w base sp held m 22 (([c0,c1,c2].drop 2).take (Tryz.prog.cellsOf 22))=some y2:=hf 2 {name:= "Needs",type:=22,offset:=2,embedded:=false,tag:= "",pkgPath:= "",byteOffset:=40} rfl;clear hf h;rw[O9] at h0;rw[AeX] at h1 h2;simp only[List.drop_succ_cons,List.drop_zero,List.take_succ_cons,List.take_zero] at h0 h1 h2;obtain⟨nm,rfl,rfl,z0⟩:=J4 h0;obtain⟨has,l1⟩:=AbX h1;obtain⟨needs,l2⟩:=AbX h2;exact⟨⟨nm,has,needs⟩,c1,c2,rfl,l1,l2,z0⟩
theorem AiF {H:Type} {enc:TypeId×Value->H} {W:World} {base:Nat} {sp:Nat->Bool} {held:Bool} {fuel:Nat} {v:Value} {x:DataW H×List MemPlace}
  (h:DataW.trod enc Tryz.prog W base sp held fuel 23 [v]=some x):∃bs,Bs W v bs:=by
 rcases DataW.trod_slice Tryz.underlying23 h with⟨hcs,_⟩|⟨a,len,cap,elems,rest,n,_,hcs,_,hb,hl,hm,hlen,hel,_,_⟩
 ·obtain rfl:v=.slice none 0 0:=by simpa using hcs
  exact⟨[],_,_,rfl,by simp,λh=>by simp at h⟩
 ·obtain rfl:v=.slice (some a) len cap:=by simpa using hcs
  clear hcs h;rw[Aed] at hel
  have each:∀i,i<len->∃y:Ba,∃hv nv:Value,W.cells? base (a.add (i*3)) 3=some [.string y.nm,hv,nv]/\Ls W hv y.has/\Ls W nv y.needs/\y.nm.size<=maxLen:=by
   intro i hi;have h1:=hel i hi;rw[A0 (by omega)] at h1;obtain⟨cs,hc,ht⟩:=Option.bind_eq_some_iff.1 h1;obtain⟨y,hv,nv,rfl,r⟩:=AiE ht;exact⟨y,hv,nv,hc,r⟩
  obtain⟨bs,hpl,hps⟩:=AaH len _ each;rcases C3 len with h0|h0
  ·subst h0
   exact⟨[],_,_,rfl,by simp,λh=>by simp at h⟩
  ·obtain⟨b,o,spot⟩:=a
   have hs:spot=none:=by
    obtain⟨q,hv,nv,hq,_⟩:=each 0 h0;simpa [Addr.add] using Abh (by omega) hq
   subst hs
   have hra:BsAt W b o bs:=by
    intro i q hq;obtain⟨hv,nv,this,r⟩:=hps i q hq;rw[Addr.add_mid] at this;exact⟨hv,nv,M2 this,r⟩
   subst hpl;refine⟨bs,_,cap,rfl,by omega,λ_=>⟨b,o,rfl,hra,?_⟩⟩;obtain⟨hv,nv,hr,-⟩:=hra 0 bs[0] (by simp[h0]);exact World.block_lt_of_cell? W _ (hr 0 _ rfl)
theorem AiG {H:Type} {enc:TypeId×Value->H} {w:World} {base:Nat} {sp:Nat->Bool} {held:Bool} {fuel:Nat} {cs:List Value} {x:DataW H×List MemPlace}
  (h:DataW.trod enc Tryz.prog w base sp held fuel 25 cs=some x):∃(b:Bk),BkV w (.agg cs.toArray) b:=by
 obtain⟨xs,m,_,rfl,hl,hlen,hf⟩:=DataW.trod_struct Tryz.underlying25 h;rw[AeY] at hl;obtain⟨c0,c1,rfl⟩:=Af9 hl;obtain⟨y0,y1,rfl⟩:=Af9 (hlen.trans rfl:xs.length=2);have h0:DataW.trod enc Tryz.prog w base sp held m 22 (([c0,c1].drop 0).take (Tryz.prog.cellsOf 22))=some y0:=hf 0 {name:= "Things",type:=22,offset:=0,embedded:=false,tag:= "",pkgPath:= "",byteOffset:=0} rfl;have h1:DataW.trod enc Tryz.prog w base sp held m 23 (([c0,c1].drop 1).take (Tryz.prog.cellsOf 23))=some y1:=hf 1 {name:= "Batches",type:=23,offset:=1,embedded:=false,tag:= "",pkgPath:= "",byteOffset:=24} rfl;clear hf h;rw[AeX] at h0;rw[Ahp] at h1;simp only[List.drop_succ_cons,List.drop_zero,List.take_succ_cons,List.take_zero] at h0 h1;obtain⟨ts,l0⟩:=AbX h0;obtain⟨bs,l1⟩:=AiF h1;exact⟨⟨ts,bs⟩,c0,c1,rfl,l0,l1⟩
end Go.Proofs.YtgecdacgmehmbaaGreatDoor
