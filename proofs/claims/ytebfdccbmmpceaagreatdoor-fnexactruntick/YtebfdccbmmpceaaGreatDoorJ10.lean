/- When a recipe is ok: both sides' tests are one. -/
import Derived.Test.YtebfdccbmmpceaaGreatDoorJ9
import Derived.Test.YtebfdccbmmpceaaGreatDoorJ7
import Derived.Lib.SlicesCompact
namespace Go.Proofs.YtebfdccbmmpceaaGreatDoor
def stepI (ps:List Ph) (i:Nat) (p:Ph):Bool:=p.okB && !hasB (ps.drop (i+1)) p.nm&&goesB (ps.drop (i+1)) p.t&&goesB (ps.drop (i+1)) p.e
def stepS (ps:List Ph) (i:Nat) (p:Ph):Bool:=p.okB&&atI ps p.nm==(i:Int) && !(endN p.t==0&&decide (atI ps p.t<=(i:Int))) && !(endN p.e==0&&decide (atI ps p.e<=(i:Int)))
def allI (ps:List Ph) (k:Nat):Prop:=∀(i:Nat) (p:Ph),i<k->ps[i]?=some p->stepI ps i p=true
def allS (ps:List Ph) (k:Nat):Prop:=∀(i:Nat) (p:Ph),i<k->ps[i]?=some p->stepS ps i p=true
def recB (ps:List Ph):Bool:=decide (1<=ps.length)&&decide (ps.length<=12)&&(List.range ps.length).all λi=>(ps[i]?.map (stepI ps i)).getD true
theorem J8 (ps:List Ph):recB ps=true↔1<=ps.length/\ps.length<=12/\allI ps ps.length:=by
 simp only[recB,Bool.and_eq_true,decide_eq_true_eq,List.all_eq_true,List.mem_range,allI,and_assoc];refine and_congr_right λ_=>and_congr_right λ_=>⟨λh i p hi hp=>?_,λh i hi=>?_⟩
 ·have:=h i hi;simpa [hp] using this
 ·have hg:ps[i]?=some ps[i]:=by simp[hi]
  rw[hg];simpa using h i ps[i] hi hg
theorem U0 (ps:List Ph) (nm:ByteArray) (i:Nat):hasB (ps.drop i) nm=true↔∃(j:Nat) (q:Ph),i<=j/\ps[j]?=some q/\(q.nm.toList==nm.toList)=true:=by
 rw[T9];constructor
 ·rintro⟨j,q,hq,he⟩
  exact⟨i+j,q,by omega,by simpa [List.getElem?_drop] using hq,he⟩
 ·rintro⟨j,q,hj,hq,he⟩
  exact⟨j-i,q,by rw[List.getElem?_drop,show i+(j-i)=j by omega];exact hq,he⟩
theorem Z3 (ps:List Ph) (nm:ByteArray):(hasB ps nm=false/\atI ps nm=-1)∨∃(j:Nat) (q:Ph),ps[j]?=some q/\(q.nm.toList==nm.toList)=true/\atI ps nm=(j:Int)/\∀(l:Nat) (r:Ph),l<j->ps[l]?=some r->(r.nm.toList==nm.toList)=false:=by
 cases h:ps.findIdx? λp=>p.nm.toList==nm.toList with
 | none =>
  left
  rw[List.findIdx?_eq_none_iff] at h;exact⟨by simpa [hasB] using h,by simp only[atI,List.findIdx?_eq_none_iff.2 h]⟩
 | some j =>
  right
  have h':=h;rw[List.findIdx?_eq_some_iff_getElem] at h;obtain⟨hj,he,hl⟩:=h;refine⟨j,ps[j],by simp[hj],he,by simp only[atI,h'],λl r hlj hr=>?_⟩;obtain⟨hl',rfl⟩:=A2.1 hr;simpa using hl l hlj
theorem Aez {a b c:List UInt8} (h1:(a==b)=true) (h2:(c==b)=true):(a==c)=true:=by
 rw[beq_iff_eq] at *;rw[h1,h2]
theorem AfH (ps:List Ph):allI ps ps.length↔allS ps ps.length:=by
 have lt_of:∀{i:Nat} {p:Ph},ps[i]?=some p->i<ps.length:=λh=>(A2.1 h).1
 have key:∀(i:Nat) (nm:ByteArray),(∀(l j:Nat) (r q:Ph),ps[l]?=some r->ps[j]?=some q->(r.nm.toList==q.nm.toList)=true->l=j)->
   (goesB (ps.drop (i+1)) nm=true↔(!(endN nm==0&&decide (atI ps nm<=(i:Int))))=true):=by
  intro i nm hu;unfold goesB;by_cases h0:endN nm=0
  ·simp only[h0,bne_self_eq_false,Bool.false_or,beq_self_eq_true,Bool.true_and,Bool.not_eq_true',decide_eq_false_iff_not]
   rw[U0];rcases Z3 ps nm with⟨hn,ha⟩|⟨j,q,hq,he,ha,_⟩
   ·rw[ha]
    constructor
    ·rintro⟨l,r,_,hr,hre⟩
     have:hasB ps nm=true:=(T9 _ _).2 ⟨l,r,hr,hre⟩;rw[hn] at this;cases this
    ·intro h;omega
   ·rw[ha]
    constructor
    ·rintro⟨l,r,hl,hr,hre⟩
     have:=hu l j r q hr hq (Aez hre he);omega
    ·intro h
     exact⟨j,q,by omega,hq,he⟩
  ·have:(endN nm==0)=false:=by simpa using h0
   simp[this,bne]
 constructor
 ·intro h i p hi hp
  have hu:∀(l j:Nat) (r q:Ph),ps[l]?=some r->ps[j]?=some q->(r.nm.toList==q.nm.toList)=true->l=j:=by
   intro l j r q hr hq he;rcases Nat.lt_trichotomy l j with hlj|rfl|hlj
   ·have hs:=h l r (lt_of hr) hr
    simp only[stepI,Bool.and_eq_true,Bool.not_eq_true'] at hs;have:hasB (ps.drop (l+1)) r.nm=true:=(U0 _ _ _).2 ⟨j,q,hlj,hq,by rw[Bool.beq_comm];exact he⟩;rw[hs.1.1.2] at this;cases this
   ·rfl
   ·have hs:=h j q (lt_of hq) hq
    simp only[stepI,Bool.and_eq_true,Bool.not_eq_true'] at hs;have:hasB (ps.drop (j+1)) q.nm=true:=(U0 _ _ _).2 ⟨l,r,hlj,hr,he⟩;rw[hs.1.1.2] at this;cases this
  have hs:=h i p hi hp;simp only[stepI,Bool.and_eq_true] at hs;simp only[stepS,Bool.and_eq_true];refine⟨⟨⟨hs.1.1.1,?_⟩,(key i p.t hu).1 hs.1.2⟩,(key i p.e hu).1 hs.2⟩;rcases Z3 ps p.nm with⟨hn,_⟩|⟨j,q,hq,he,ha,_⟩
  ·have:hasB ps p.nm=true:=(T9 _ _).2 ⟨i,p,hp,by simp⟩
   rw[hn] at this;cases this
  ·rw[ha,hu j i q p hq hp he];simp
 ·intro h i p hi hp
  have hu:∀(l j:Nat) (r q:Ph),ps[l]?=some r->ps[j]?=some q->(r.nm.toList==q.nm.toList)=true->l=j:=by
   intro l j r q hr hq he;have h1:=h l r (lt_of hr) hr;have h2:=h j q (lt_of hq) hq;simp only[stepS,Bool.and_eq_true,beq_iff_eq] at h1 h2
   have:atI ps r.nm=atI ps q.nm:=by
    have e:r.nm.toList=q.nm.toList:=by simpa using he
    simp only[atI,e]
   have:=h1.1.1.2.symm.trans (this.trans h2.1.1.2);omega
  have hs:=h i p hi hp;simp only[stepS,Bool.and_eq_true] at hs;simp only[stepI,Bool.and_eq_true];refine⟨⟨⟨hs.1.1.1,?_⟩,(key i p.t hu).2 hs.1.2⟩,(key i p.e hu).2 hs.2⟩;rw[Bool.not_eq_true',← Bool.not_eq_true];intro hc;obtain⟨j,q,hj,hq,he⟩:=(U0 _ _ _).1 hc;have:=hu j i q p hq hp he;omega
theorem AcW (ps:List Ph):recB ps=true↔1<=ps.length/\ps.length<=12/\allS ps ps.length:=by rw[J8,AfH]
theorem AiD {x:Bool} {Q:Prop} [Decidable Q] (h:¬(x=true/\Q)):(!(x&&decide Q))=true:=by cases x<;>simp_all
theorem Ams (ps:List Ph) (k:Nat) (hk:k<ps.length) (h:stepS ps k ps[k]=false):recB ps=false:=by
 rw[← Bool.not_eq_true,AcW];rintro⟨_,_,ha⟩;have:=ha k ps[k] hk (by simp[hk]);rw[h] at this;cases this
theorem Amt (ps:List Ph) (k:Nat) (hk:k<ps.length) (h:stepI ps k ps[k]=false):recB ps=false:=by
 rw[← Bool.not_eq_true,J8];rintro⟨_,_,ha⟩;have:=ha k ps[k] hk (by simp[hk]);rw[h] at this;cases this
theorem AdT (ps:List Ph) (h:¬(1<=ps.length/\ps.length<=12)):recB ps=false:=by
 rw[← Bool.not_eq_true,J8];rintro⟨h1,h2,_⟩;exact h ⟨h1,h2⟩
theorem AkM {ps:List Ph} {k:Nat} (h:allS ps k) (hk:k<ps.length) (hs:stepS ps k ps[k]=true):allS ps (k+1):=λi p hi hp=>by
 rcases Nat.lt_or_ge i k with h'|h'
 ·exact h i p h' hp
 ·obtain rfl:i=k:=by omega
  obtain⟨_,rfl⟩:=A2.1 hp;exact hs
theorem AkN {ps:List Ph} {k:Nat} (h:allI ps k) (hk:k<ps.length) (hs:stepI ps k ps[k]=true):allI ps (k+1):=λi p hi hp=>by
 rcases Nat.lt_or_ge i k with h'|h'
 ·exact h i p h' hp
 ·obtain rfl:i=k:=by omega
  obtain⟨_,rfl⟩:=A2.1 hp;exact hs
theorem AkO (ps:List Ph):allS ps 0:=λ_ _ h=>by omega
theorem AkP (ps:List Ph):allI ps 0:=λ_ _ h=>by omega
theorem AkQ (ps:List Ph) (k:Nat) (h1:1<=ps.length/\ps.length<=12) (hk:k<=ps.length) (hk':¬k<ps.length) (ha:allS ps k):recB ps=true:=by
 obtain rfl:k=ps.length:=by omega
 exact (AcW ps).2 ⟨h1.1,h1.2,ha⟩
theorem AkR (ps:List Ph) (k:Nat) (h1:1<=ps.length/\ps.length<=12) (hk:k<=ps.length) (hk':¬k<ps.length) (ha:allI ps k):recB ps=true:=by
 obtain rfl:k=ps.length:=by omega
 exact (J8 ps).2 ⟨h1.1,h1.2,ha⟩
def bothL (a:List ByteArray) (b:List ByteArray):List ByteArray:=b.foldl insL a
theorem Ajk (a b:List ByteArray) (k:Nat) (hk:k<b.length):bothL a (b.take (k+1))=insL (bothL a (b.take k)) b[k]:=by
 unfold bothL;rw[A7 hk,List.foldl_append];rfl
theorem Ab3 (a:List ByteArray):∀b:List ByteArray,(bothL a b).length<=a.length+b.length
 | []=>by simp[bothL]
 | x::r=>by
  have h1:=Ab3 (insL a x) r;have h2:=Acj a x;simp only[bothL,List.foldl_cons,List.length_cons] at *;omega
def ofL (p:Ph):List ByteArray:=if p.k=2 then insL [p.a] p.b else [p.a]
theorem AbQ:∀(x y:List UInt8),Op.bytesLess x y=decide (x<y)
 | [],[]=>by simp[Op.bytesLess]
 | _::_,[]=>by simp[Op.bytesLess]
 | [],_::_=>by simp[Op.bytesLess]
 | a::x,b::y=>by
  rw[Op.bytesLess,AbQ x y];simp only[List.cons_lt_cons_iff];by_cases h1:a<b<;>by_cases h2:a=b<;>by_cases h3:x<y<;>simp[h1,h2,h3]
abbrev Key:=List UInt8
theorem V8 (x:Key):¬x<x:=List.lt_irrefl x
theorem Ab4 {x y z:Key} (h:x<y) (k:y<z):x<z:=List.lt_trans h k
theorem AiE (x y:Key):x<y∨x=y∨y<x:=by
 rcases Decidable.em (x<y) with h|h
 ·exact .inl h
 ·rcases Decidable.em (y<x) with k|k
  ·exact .inr (.inr k)
  ·exact .inr (.inl (List.le_antisymm (List.not_lt.1 k) (List.not_lt.1 h)))
theorem Ae0 {x y:Key}:x<=y↔x<y∨x=y:=by
 constructor
 ·intro h
  rcases AiE x y with k|k|k
  ·exact .inl k
  ·exact .inr k
  ·exact absurd k (List.not_lt.2 h)
 ·rintro (h|rfl)
  ·exact List.not_lt.1 λk=>V8 _ (Ab4 h k)
  ·exact List.le_refl _
theorem V9:∀(a b:List Key),a.Pairwise (· < ·)->b.Pairwise (· < ·)->(∀x,x∈a↔x∈b)->a=b
 | [],[],_,_,_=>rfl
 | [],y::s,_,_,h=>by have:=(h y).2 (by simp);simp at this
 | x::r,[],_,_,h=>by have:=(h x).1 (by simp);simp at this
 | x::r,y::s,ha,hb,h=>by
  obtain⟨ha1,ha2⟩:=List.pairwise_cons.1 ha;obtain⟨hb1,hb2⟩:=List.pairwise_cons.1 hb
  have e:x=y:=by
   rcases List.mem_cons.1 ((h x).1 (by simp)) with e|e
   ·exact e
   ·rcases List.mem_cons.1 ((h y).2 (by simp)) with e'|e'
    ·exact e'.symm
    ·exact absurd (Ab4 (hb1 x e) (ha1 y e')) (V8 _)
  subst e;rw[V9 r s ha2 hb2 λz=>?_];constructor
  ·intro hz
   rcases List.mem_cons.1 ((h z).1 (by simp[hz])) with e|e
   ·subst e;exact absurd (ha1 z hz) (V8 _)
   ·exact e
  ·intro hz
   rcases List.mem_cons.1 ((h z).2 (by simp[hz])) with e|e
   ·subst e;exact absurd (hb1 z hz) (V8 _)
   ·exact e
def keys (ss:List ByteArray):List Key:=ss.map (·.toList)
theorem M6 {a b:ByteArray} (h:a.toList=b.toList):a=b:=by
 rw[Go.ByteArray.toList_eq,Go.ByteArray.toList_eq] at h;cases a;cases b;simp at h;rw[h]
theorem AdU (ss:List ByteArray) (x:ByteArray):(∀z,z∈keys (insL ss x)↔z∈keys ss∨z=x.toList)/\((keys ss).Pairwise (· < ·)->(keys (insL ss x)).Pairwise (· < ·)):=by
 induction ss with
 | nil=>simp[insL,keys]
 | cons y r ih =>
  obtain⟨im,ip⟩:=ih;rw[insL];by_cases h1:lessB y x=true
  ·rw[if_pos h1]
   have h1':y.toList<x.toList:=by rw[lessB,AbQ] at h1;simpa using h1
   refine⟨λz=>?_,λhp=>?_⟩
   ·have:=im z
    simp only[keys,List.map_cons,List.mem_cons] at this ⊢
    rw[this];constructor
    ·rintro (h|h|h)
     ·exact .inl (.inl h)
     ·exact .inl (.inr h)
     ·exact .inr h
    ·rintro ((h|h)|h)
     ·exact .inl h
     ·exact .inr (.inl h)
     ·exact .inr (.inr h)
   ·simp only[keys,List.map_cons] at hp ⊢
    obtain⟨p1,p2⟩:=List.pairwise_cons.1 hp;refine List.pairwise_cons.2 ⟨λz hz=>?_,ip p2⟩;rcases (im z).1 hz with h|h
    ·exact p1 z h
    ·subst h;exact h1'
  ·rw[if_neg h1]
   have h1':¬y.toList<x.toList:=by rw[lessB,AbQ] at h1;simpa using h1
   by_cases h2:sameB y x=true
   ·rw[if_pos h2]
    have e:y.toList=x.toList:=by simpa [sameB] using h2
    refine⟨λz=>?_,λhp=>hp⟩;simp only[keys,List.map_cons,List.mem_cons];rw[e];constructor
    ·exact .inl
    ·rintro (h|h)
     ·exact h
     ·exact .inl h
   ·rw[if_neg h2]
    have e:y.toList≠x.toList:=by simpa [sameB] using h2
    have lt:x.toList<y.toList:=by
     rcases AiE y.toList x.toList with k|k|k
     ·exact absurd k h1'
     ·exact absurd k e
     ·exact k
    refine⟨λz=>?_,λhp=>?_⟩
    ·simp only[keys,List.map_cons,List.mem_cons]
     constructor
     ·rintro (h|h|h)
      ·exact .inr h
      ·exact .inl (.inl h)
      ·exact .inl (.inr h)
     ·rintro ((h|h)|h)
      ·exact .inr (.inl h)
      ·exact .inr (.inr h)
      ·exact .inl h
    ·simp only[keys,List.map_cons] at hp ⊢
     refine List.pairwise_cons.2 ⟨λz hz=>?_,hp⟩;rcases List.mem_cons.1 hz with h|h
     ·subst h;exact lt
     ·exact Ab4 lt ((List.pairwise_cons.1 hp).1 z h)
theorem O7 (b:List ByteArray):∀a:List ByteArray,(∀z,z∈keys (bothL a b)↔z∈keys a∨z∈keys b)/\((keys a).Pairwise (· < ·)->(keys (bothL a b)).Pairwise (· < ·)):=by
 induction b with
 | nil=>intro a;exact⟨λz=>by simp[bothL,keys],λh=>h⟩
 | cons x r ih =>
  intro a;obtain⟨im,ip⟩:=ih (insL a x);obtain⟨jm,jp⟩:=AdU a x;refine⟨λz=>?_,λh=>ip (jp h)⟩;have h1:=im z;have h2:=jm z;show z∈keys (bothL (insL a x) r)↔_
  rw[h1,h2];simp only[keys,List.map_cons,List.mem_cons];constructor
  ·rintro ((h|h)|h)
   ·exact .inl h
   ·exact .inr (.inl h)
   ·exact .inr (.inr h)
  ·rintro (h|h|h)
   ·exact .inl (.inl h)
   ·exact .inl (.inr h)
   ·exact .inr h
theorem Agx (zs:List Key) (hs:zs.Pairwise (·<=·)):∀m,m<=zs.length->(Lib.compactUpTo zs.toArray m).Pairwise (· < ·)/\(∀x,x∈Lib.compactUpTo zs.toArray m↔∃j,j<m/\zs[j]?=some x)/\(∀x∈Lib.compactUpTo zs.toArray m,∀y,zs[m-1]?=some y->x<=y):=by
 intro m;induction m with
 | zero=>intro _;simp[Lib.compactUpTo]
 | succ m ih =>
  intro hm;obtain⟨h1,h2,h3⟩:=ih (by omega);have hml:m<zs.length:=by omega
  have hd:(zs.toArray)[m]! = zs[m]:=by simp[hml]
  rw[Lib.compactUpTo_succ,hd];by_cases hk:Lib.keeps zs.toArray m=true
  ·rw[if_pos hk]
   have hlt:∀x∈Lib.compactUpTo zs.toArray m,x<zs[m]:=by
    intro x hx;rcases C4 m with h0|h0
    ·subst h0;simp[Lib.compactUpTo] at hx
    ·have hm1:m-1<zs.length:=by omega
     have hle:=h3 x hx zs[m-1] (by simp[hm1])
     have hne:zs[m]≠zs[m-1]:=by
      simp only[Lib.keeps,decide_eq_true_eq] at hk;rcases hk with hk|hk
      ·omega
      ·simpa [hml,hm1] using hk
     have hle2:zs[m-1]<=zs[m]:=List.pairwise_iff_getElem.1 hs (m-1) m hm1 hml (by omega)
     have hlt2:zs[m-1]<zs[m]:=by
      rcases Ae0.1 hle2 with k|k
      ·exact k
      ·exact absurd k.symm hne
     rcases Ae0.1 hle with k|k
     ·exact Ab4 k hlt2
     ·rw[k];exact hlt2
   refine⟨List.pairwise_append.2 ⟨h1,by simp,λx hx y hy=>by simp at hy;subst hy;exact hlt x hx⟩,λx=>?_,λx hx y hy=>?_⟩
   ·rw[D1,h2,D2]
    constructor
    ·rintro (⟨j,hj,e⟩|rfl)
     ·exact⟨j,by omega,e⟩
     ·exact⟨m,by omega,by simp[hml]⟩
    ·rintro⟨j,hj,e⟩
     rcases Nat.lt_or_ge j m with h|h
     ·exact .inl ⟨j,h,e⟩
     ·obtain rfl:j=m:=by omega
      right;rw[A0 hml] at e;exact (A5 e).symm
   ·simp only[Nat.add_sub_cancel] at hy
    rw[A0 hml] at hy;obtain rfl:=A5 hy;rcases D1.1 hx with h|h
    ·exact Ae0.2 (.inl (hlt x h))
    ·simp at h;subst h;exact List.le_refl _
  ·rw[if_neg hk,List.append_nil]
   have h0:0<m:=by
    rcases C4 m with h|h
    ·subst h;simp[Lib.keeps] at hk
    ·exact h
   have hm1:m-1<zs.length:=by omega
   have he:zs[m]=zs[m-1]:=by
    simp only[Lib.keeps,decide_eq_true_eq,not_or,Decidable.not_not] at hk;have:=hk.2;simpa [hml,hm1] using this
   refine⟨h1,λx=>?_,λx hx y hy=>?_⟩
   ·rw[h2]
    constructor
    ·rintro⟨j,hj,e⟩;exact⟨j,by omega,e⟩
    ·rintro⟨j,hj,e⟩
     rcases Nat.lt_or_ge j m with h|h
     ·exact⟨j,h,e⟩
     ·obtain rfl:j=m:=by omega
      exact⟨j-1,by omega,by rw[A0 hml] at e;rw[A0 hm1,← he];exact e⟩
   ·simp only[Nat.add_sub_cancel] at hy
    rw[A0 hml,he] at hy;exact h3 x hx y (by rw[A0 hm1];exact hy)
def uniq (l:List Key):List Key:=Lib.compact (l.mergeSort λx y=>decide (x<=y))
theorem Z4 (l:List Key):(uniq l).Pairwise (· < ·)/\∀x,x∈uniq l↔x∈l:=by
 have hs:(l.mergeSort λx y=>decide (x<=y)).Pairwise (·<=·):=by
  have:=List.pairwise_mergeSort (le:=λ(x y:Key)=>decide (x<=y)) (λa b c h k=>by
   simp only[decide_eq_true_eq] at *;exact List.le_trans h k) (λa b=>by
   simp only[Bool.or_eq_true,decide_eq_true_eq];exact List.le_total a b) l
  simpa using this
 obtain⟨h1,h2,_⟩:=Agx _ hs _ (A3 _);refine⟨h1,λx=>?_⟩;have:=h2 x;unfold uniq Lib.compact;rw[this];have hm:x∈(l.mergeSort λx y=>decide (x<=y))↔x∈l:=List.mem_mergeSort;rw[← hm,C6];constructor
 ·rintro⟨j,_,e⟩;exact⟨j,e⟩
 ·rintro⟨j,e⟩;exact⟨j,(A2.1 e).1,e⟩
end Go.Proofs.YtebfdccbmmpceaaGreatDoor
