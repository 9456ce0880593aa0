/- Names in order: plain facts. -/
import Derived.Test.YtmonodehegcfhaaGreatDoorJ2
import Derived.Lib.SlicesCompact
import Derived.Test.YtmonodehegcfhaaGreatDoorPt
import Derived.Stop.Asserts
import Derived.Deep.RegionHeld
import Derived.Test.YtmonodehegcfhaaGreatDoorXr
set_option maxHeartbeats 2000000
namespace Go.Proofs.YtmonodehegcfhaaGreatDoor
open Go.Proofs.Tryz
variable{ops:Array Oper}{a b:BA}{ps:List Ph}{B g m:Nat}{P:Program}{x0 x1 x2 x3 x4 x5 x6 x7:Value}{W1 w w' w0:World}
theorem Ib:∀(x y:List UInt8),Op.bytesLess x y=decide (x<y)
 | [],[]=>by simp[Op.bytesLess]
 | _::_,[]=>by simp[Op.bytesLess]
 | [],_::_=>by simp[Op.bytesLess]
 | a::x,b::y=>by
  rw[Op.bytesLess,Ib x y];simp only[List.cons_lt_cons_iff];by_cases h1:a<b<;>by_cases h2:a=b<;>by_cases h3:x<y<;>simp[h1,h2,h3]
abbrev Ae:=List UInt8
theorem Di(x:Ae):¬x<x:=List.lt_irrefl x
theorem Gw{x y z:Ae}(h:x<y)(k:y<z):x<z:=List.lt_trans h k
theorem Rq(x y:Ae):x<y∨x=y∨y<x:=by
 rcases Decidable.em (x<y) with h|h
 ·exact .inl h
 ·rcases Decidable.em (y<x) with k|k
  ·exact .inr (.inr k)
  ·exact .inr (.inl (List.le_antisymm (List.not_lt.1 k) (List.not_lt.1 h)))
theorem LH{x y:Ae}:x<=y↔x<y∨x=y:=by
 constructor
 ·intro h;rcases Rq x y with k|k|k
  ·exact .inl k
  ·exact .inr k
  ·exact absurd k (List.not_lt.2 h)
 ·rintro (h|rfl)
  ·exact List.not_lt.1 λk=>Di _ (Gw h k)
  ·exact List.le_refl _
theorem Ed:∀(a b:List Ae),a.Pairwise (· < ·)->b.Pairwise (· < ·)->(∀x,x∈a↔x∈b)->a=b
 | [],[],_,_,_=>rfl
 | [],y::s,_,_,h=>by have:=(h y).2 (by simp);simp at this
 | x::r,[],_,_,h=>by have:=(h x).1 (by simp);simp at this
 | x::r,y::s,ha,hb,h=>by
  obtain⟨ha1,ha2⟩:=List.pairwise_cons.1 ha;obtain⟨hb1,hb2⟩:=List.pairwise_cons.1 hb
  have e:x=y:=by
   rcases List.mem_cons.1 ((h x).1 (by simp)) with e|e
   ·exact e
   ·rcases List.mem_cons.1 ((h y).2 (by simp)) with e'|e'
    ·exact e'.symm
    ·exact absurd (Gw (hb1 x e) (ha1 y e')) (Di _)
  subst e;rw[Ed r s ha2 hb2 λz=>?_];constructor
  ·intro hz;rcases List.mem_cons.1 ((h z).1 (by simp[hz])) with e|e
   ·subst e;exact absurd (ha1 z hz) (Di _)
   ·exact e
  ·intro hz;rcases List.mem_cons.1 ((h z).2 (by simp[hz])) with e|e
   ·subst e;exact absurd (hb1 z hz) (Di _)
   ·exact e
def F1(ss:List BA):List Ae:=ss.map (·.toList)
theorem AE(h:a.toList=b.toList):a=b:=by
 rw[Go.ByteArray.toList_eq,Go.ByteArray.toList_eq] at h;cases a;cases b;simp at h;rw[h]
theorem Le(ss:List BA)(x:BA):(∀z,z∈F1 (M7 ss x)↔z∈F1 ss∨z=x.toList)/\((F1 ss).Pairwise (· < ·)->(F1 (M7 ss x)).Pairwise (· < ·)):=by
 induction ss with
 | nil=>simp[M7,F1]
 | cons y r ih =>
  obtain⟨im,ip⟩:=ih;rw[M7];by_cases h1:DD y x=true
  ·rw[if_pos h1];have a0:y.toList<x.toList:=by rw[DD,Ib] at h1;simpa using h1
   refine⟨λz=>?_,λhp=>?_⟩
   ·have:=im z;simp only[F1,List.map_cons,List.mem_cons] at this ⊢
    rw[this];constructor
    ·rintro (h|h|h)
     ·exact .inl (.inl h)
     ·exact .inl (.inr h)
     ·exact .inr h
    ·rintro ((h|h)|h)
     ·exact .inl h
     ·exact .inr (.inl h)
     ·exact .inr (.inr h)
   ·simp only[F1,List.map_cons] at hp ⊢
    obtain⟨p1,p2⟩:=List.pairwise_cons.1 hp;refine List.pairwise_cons.2 ⟨λz hz=>?_,ip p2⟩;rcases (im z).1 hz with h|h
    ·exact p1 z h
    ·subst h;exact a0
  ·rw[if_neg h1];have a0:¬y.toList<x.toList:=by rw[DD,Ib] at h1;simpa using h1
   by_cases h2:Iv y x=true
   ·rw[if_pos h2];have e:y.toList=x.toList:=by simpa [Iv] using h2
    refine⟨λz=>?_,λhp=>hp⟩;simp only[F1,List.map_cons,List.mem_cons];rw[e];constructor
    ·exact .inl
    ·rintro (h|h)
     ·exact h
     ·exact .inl h
   ·rw[if_neg h2];have e:y.toList≠x.toList:=by simpa [Iv] using h2
    have lt:x.toList<y.toList:=by
     rcases Rq y.toList x.toList with k|k|k
     ·exact absurd k a0
     ·exact absurd k e
     ·exact k
    refine⟨λz=>?_,λhp=>?_⟩
    ·simp only[F1,List.map_cons,List.mem_cons];constructor
     ·rintro (h|h|h)
      ·exact .inr h
      ·exact .inl (.inl h)
      ·exact .inl (.inr h)
     ·rintro ((h|h)|h)
      ·exact .inr (.inl h)
      ·exact .inr (.inr h)
      ·exact .inl h
    ·simp only[F1,List.map_cons] at hp ⊢
     refine List.pairwise_cons.2 ⟨λz hz=>?_,hp⟩;rcases List.mem_cons.1 hz with h|h
     ·subst h;exact lt
     ·exact Gw lt ((List.pairwise_cons.1 hp).1 z h)
theorem BJ(b:List BA):∀a:List BA,(∀z,z∈F1 (Z0 a b)↔z∈F1 a∨z∈F1 b)/\((F1 a).Pairwise (· < ·)->(F1 (Z0 a b)).Pairwise (· < ·)):=by
 induction b with
 | nil=>intro a;exact⟨λz=>by simp[Z0,F1],λh=>h⟩
 | cons x r ih =>
  intro a;obtain⟨im,ip⟩:=ih (M7 a x);obtain⟨jm,jp⟩:=Le a x;refine⟨λz=>?_,λh=>ip (jp h)⟩;have h1:=im z;have h2:=jm z;show z∈F1 (Z0 (M7 a x) r)↔_
  rw[h1,h2];simp only[F1,List.map_cons,List.mem_cons];constructor
  ·rintro ((h|h)|h)
   ·exact .inl h
   ·exact .inr (.inl h)
   ·exact .inr (.inr h)
  ·rintro (h|h|h)
   ·exact .inl (.inl h)
   ·exact .inl (.inr h)
   ·exact .inr h
theorem OD(zs:List Ae)(hs:zs.Pairwise (·<=·)):∀m,m<=zs.length->(Lib.compactUpTo zs.toArray m).Pairwise (· < ·)/\(∀x,x∈Lib.compactUpTo zs.toArray m↔∃j,j<m/\zs[j]?=some x)/\(∀x∈Lib.compactUpTo zs.toArray m,∀y,zs[m-1]?=some y->x<=y):=by
 intro m;induction m with
 | zero=>intro _;simp[Lib.compactUpTo]
 | succ m ih =>
  intro hm;obtain⟨h1,h2,h3⟩:=ih (by omega);have a0:m<zs.length:=by omega
  have hd:(zs.toArray)[m]! = zs[m]:=by simp[a0]
  rw[Lib.compactUpTo_succ,hd];by_cases hk:Lib.keeps zs.toArray m=true
  ·rw[if_pos hk]
   have a4:∀x∈Lib.compactUpTo zs.toArray m,x<zs[m]:=by
    intro x hx;rcases C3 m with h0|h0
    ·subst h0;simp[Lib.compactUpTo] at hx
    ·have a1:m-1<zs.length:=by omega
     have a5:=h3 x hx zs[m-1] (by simp[a1])
     have a6:zs[m]≠zs[m-1]:=by
      simp only[Lib.keeps,decide_eq_true_eq] at hk;rcases hk with hk|hk
      ·omega
      ·simpa [a0,a1] using hk
     have a3:zs[m-1]<=zs[m]:=List.pairwise_iff_getElem.1 hs (m-1) m a1 a0 (by omega)
     have a2:zs[m-1]<zs[m]:=by
      rcases LH.1 a3 with k|k
      ·exact k
      ·exact absurd k.symm a6
     rcases LH.1 a5 with k|k
     ·exact Gw k a2
     ·rw[k];exact a2
   refine⟨List.pairwise_append.2 ⟨h1,by simp,λx hx y hy=>by simp at hy;subst hy;exact a4 x hx⟩,λx=>?_,λx hx y hy=>?_⟩
   ·rw[D0,h2,D1];constructor
    ·rintro (⟨j,hj,e⟩|rfl)
     ·exact⟨j,by omega,e⟩
     ·exact⟨m,by omega,by simp[a0]⟩
    ·rintro⟨j,hj,e⟩;rcases Nat.lt_or_ge j m with h|h
     ·exact .inl ⟨j,h,e⟩
     ·obtain rfl:j=m:=by omega
      right;rw[A0 a0] at e;exact (A6 e).symm
   ·simp only[Nat.add_sub_cancel] at hy;rw[A0 a0] at hy;obtain rfl:=A6 hy;rcases D0.1 hx with h|h
    ·exact LH.2 (.inl (a4 x h))
    ·simp at h;subst h;exact List.le_refl _
  ·rw[if_neg hk,List.append_nil]
   have h0:0<m:=by
    rcases C3 m with h|h
    ·subst h;simp[Lib.keeps] at hk
    ·exact h
   have a1:m-1<zs.length:=by omega
   have he:zs[m]=zs[m-1]:=by
    simp only[Lib.keeps,decide_eq_true_eq,not_or,Decidable.not_not] at hk;have:=hk.2;simpa [a0,a1] using this
   refine⟨h1,λx=>?_,λx hx y hy=>?_⟩
   ·rw[h2];constructor
    ·rintro⟨j,hj,e⟩;exact⟨j,by omega,e⟩
    ·rintro⟨j,hj,e⟩;rcases Nat.lt_or_ge j m with h|h
     ·exact⟨j,h,e⟩
     ·obtain rfl:j=m:=by omega
      exact⟨j-1,by omega,by rw[A0 a0] at e;rw[A0 a1,← he];exact e⟩
   ·simp only[Nat.add_sub_cancel] at hy;rw[A0 a0,he] at hy;exact h3 x hx y (by rw[A0 a1];exact hy)
def uniq(l:List Ae):List Ae:=Lib.compact (l.mergeSort λx y=>decide (x<=y))
theorem DT(l:List Ae):(uniq l).Pairwise (· < ·)/\∀x,x∈uniq l↔x∈l:=by
 have hs:(l.mergeSort λx y=>decide (x<=y)).Pairwise (·<=·):=by
  have:=List.pairwise_mergeSort (le:=λ(x y:Ae)=>decide (x<=y)) (λa b c h k=>by
   simp only[decide_eq_true_eq] at *;exact List.le_trans h k) (λa b=>by
   simp only[Bool.or_eq_true,decide_eq_true_eq];exact List.le_total a b) l
  simpa using this
 obtain⟨h1,h2,_⟩:=OD _ hs _ (A4 _);refine⟨h1,λx=>?_⟩;have:=h2 x;unfold uniq Lib.compact;rw[this];have hm:x∈(l.mergeSort λx y=>decide (x<=y))↔x∈l:=List.mem_mergeSort;rw[← hm,C5];constructor
 ·rintro⟨j,_,e⟩;exact⟨j,e⟩
 ·rintro⟨j,e⟩;exact⟨j,(A3.1 e).1,e⟩
def Ex(p:Ph):List Ae:=if p.k=2 then [p.a.toList,p.b.toList] else [p.a.toList]
def O9(ps:List Ph)(nm:BA):List BA:=Bi (λ_=>[]) (λp a b=>Z0 (Z0 (CA p) a) b) [] ps nm
def Fx(p:Ph)(a b:List Ae):List Ae:=uniq (Ex p++a++b)
def LI(_:Int):List Ae:=[]
def Ic(ps:List Ph)(nm:BA):List Ae:=Bi LI Fx [] ps nm
theorem Rr(p:Ph):(F1 (CA p)).Pairwise (· < ·)/\∀x,x∈F1 (CA p)↔x∈Ex p:=by
 unfold CA Ex;by_cases h:p.k=2
 ·rw[if_pos h,if_pos h];obtain⟨h1,h2⟩:=Le [p.a] p.b;refine⟨h2 (by simp[F1]),λx=>?_⟩;rw[h1];simp[F1]
 ·rw[if_neg h,if_neg h];exact⟨by simp[F1],λx=>by simp[F1]⟩
theorem TV(p:Ph)(a b:List BA):F1 (Z0 (Z0 (CA p) a) b)=Fx p (F1 a) (F1 b):=by
 obtain⟨o1,o2⟩:=Rr p;obtain⟨m1,p1⟩:=BJ a (CA p);obtain⟨m2,p2⟩:=BJ b (Z0 (CA p) a);obtain⟨u1,u2⟩:=DT (Ex p++F1 a++F1 b);refine Ed _ _ (p2 (p1 o1)) u1 λx=>?_;rw[m2,m1,o2];show _↔x∈uniq _
 rw[u2,D0,D0]
theorem Ee:∀(ps:List Ph)(nm:BA),F1 (O9 ps nm)=Ic ps nm
 | [],nm=>by unfold O9 Ic Bi;split<;>rfl
 | p::rest,nm=>by
  have ih:=Ee rest;unfold O9 Ic at *;rw[Bi,Bi];split
  ·rw[TV,ih,ih]
  ·exact ih nm
theorem JN:∀(ps:List Ph)(nm:BA),(Ic ps nm).Pairwise (· < ·)
 | [],nm=>by unfold Ic Bi;split<;>simp[LI]
 | p::rest,nm=>by
  have ih:=JN rest;unfold Ic at *;rw[Bi];split
  ·exact (DT _).1
  ·exact ih nm
theorem JO:∀(ps:List Ph)(nm:BA)(x:Ae),x∈Ic ps nm->x∈ps.flatMap Ex
 | [],nm,x,h=>by
  unfold Ic Bi at h;split at h<;>simp[LI] at h
 | p::rest,nm,x,h=>by
  have ih:=JO rest;unfold Ic at *;rw[Bi] at h;rw[List.flatMap_cons,D0];split at h
  ·have:=((DT _).2 x).1 h;rw[D0,D0] at this;rcases this with (h1|h1)|h1
   ·exact .inl h1
   ·exact .inr (ih _ x h1)
   ·exact .inr (ih _ x h1)
  ·exact .inr (ih _ x h)
theorem Ey:∀(m l:List Ae),l.Nodup->(∀x∈l,x∈m)->l.length<=m.length
 | [],l,_,h=>by
  cases l with
  | nil=>simp
  | cons x r=>have:=h x (by simp);simp at this
 | a::m,l,hn,h=>by
  have ih:=Ey m (l.erase a) (hn.erase a) (λx hx=>by
   have hx':=(List.Nodup.mem_erase_iff hn).1 hx;rcases List.mem_cons.1 (h x hx'.2) with e|e
   ·exact absurd e hx'.1
   ·exact e)
  have:=List.length_erase (a:=a) (l:=l);split at this<;>simp only[List.length_cons]<;>omega
theorem MZ(ps:List Ph)(nm:BA):(Ic ps nm).length<=2*ps.length:=by
 have hn:(Ic ps nm).Nodup:=(JN ps nm).imp λh e=>by subst e;exact Di _ h
 have h1:=Ey (ps.flatMap Ex) _ hn (JO ps nm)
 have h2:∀l:List Ph,(l.flatMap Ex).length<=2*l.length:=by
  intro l;induction l with
  | nil=>simp
  | cons p r ih =>
   rw[List.flatMap_cons,B0,List.length_cons];have:(Ex p).length<=2:=by unfold Ex;split<;>simp
   omega
 exact B3 h1 (h2 ps)
theorem DU(ps:List Ph)(nm:BA):(O9 ps nm).length<=2*ps.length:=by
 have:=MZ ps nm;rw[← Ee] at this;simpa [F1] using this
def CO(ps:List Ph)(nm:BA):List BA:=if P3 ps=true then O9 ps nm else []
end Go.Proofs.YtmonodehegcfhaaGreatDoor
namespace Go.Proofs.YtmonodehegcfhaaGreatDoor
open Go.Proofs.Tryz
open Go.RowKit
variable{ops:Array Oper}{a b:BA}{ps:List Ph}{B g m:Nat}{P:Program}{x0 x1 x2 x3 x4 x5 x6 x7:Value}{W1 w w' w0:World}
theorem Ds(s:BA)(w:World)(hs:s.size<=maxLen):
  Calls prog 132 #[Tz s] w λe w'=>e=.returned (.bool (G0 s&&M6 s==0))/\w'=w:=by
 cases hn:G0 s
 all_goals
  go_in;go_wp2_with (first|(go_at_call 28;refine (O1 _ _ (by assumption)).mono ?_;rintro e w' ⟨rfl,rfl⟩)|(go_at_call 78;refine (V6 _ _).mono ?_;rintro e w' ⟨rfl,rfl⟩))
  go_ret;exact⟨D8 (by simp),rfl⟩
theorem IB(nm:BA)(k:Int)(a b:BA)(n wi:Int)(t e:BA)(w:World)(ha:a.size<=maxLen)(hb:b.size<=maxLen):
  Calls prog 133 #[.agg #[Tz nm,Iz k,Tz a,Tz b,Iz n,Iz wi,Tz t,Tz e]] w
   λe w'=>e=.returned (.bool (T0 k a b n wi))/\Up w w':=by
 by_cases h1:k=1
 ·subst h1;cases hA:G0 a<;>cases hB:G0 b
  all_goals
   go_in;go_wp2_with (first|(go_at_call 28;refine (O1 _ _ (by assumption)).mono ?_;rintro e w' ⟨rfl,rfl⟩)|(go_at_call 41;refine (O7 _ _ _ _).mono ?_;rintro e w' ⟨rfl,rfl⟩))
   go_ret;exact⟨D8 (by simp[T0,hA,hB]),(A5 _ _).alloc (A4 _) _⟩
 by_cases h2:k=2
 ·subst h2;cases hA:G0 a<;>cases hB:G0 b<;>cases hE:(a.toList==b.toList)
  all_goals
   go_in;go_wp2_with (first|(go_at_call 28;refine (O1 _ _ (by assumption)).mono ?_;rintro e w' ⟨rfl,rfl⟩)|(go_at_call 41;refine (O7 _ _ _ _).mono ?_;rintro e w' ⟨rfl,rfl⟩))
   go_ret;exact⟨D8 (by simp[T0,hA,hB,hE]),(A5 _ _).alloc (A4 _) _⟩
 by_cases h3:k=3
 ·subst h3;cases hA:G0 a<;>cases hE:b.toList.isEmpty
  all_goals
   go_in;go_wp2_with (first|(go_at_call 28;refine (O1 _ _ (by assumption)).mono ?_;rintro e w' ⟨rfl,rfl⟩)|(go_at_call 41;refine (O7 _ _ _ _).mono ?_;rintro e w' ⟨rfl,rfl⟩))
   go_ret;exact⟨D8 (by simp[T0,hA,hE]),(A5 _ _).alloc (A4 _) _⟩
 by_cases h4:k=4
 ·subst h4;cases hA:G0 a<;>cases hE:b.toList.isEmpty
  all_goals
   go_in;go_wp2_with (first|(go_at_call 28;refine (O1 _ _ (by assumption)).mono ?_;rintro e w' ⟨rfl,rfl⟩)|(go_at_call 41;refine (O7 _ _ _ _).mono ?_;rintro e w' ⟨rfl,rfl⟩))
   go_ret;exact⟨D8 (by simp[T0,hA,hE]),(A5 _ _).alloc (A4 _) _⟩
 by_cases h5:k=5
 ·subst h5;cases hA:G0 a<;>cases hE:b.toList.isEmpty
  all_goals
   go_in;go_wp2_with (first|(go_at_call 28;refine (O1 _ _ (by assumption)).mono ?_;rintro e w' ⟨rfl,rfl⟩)|(go_at_call 41;refine (O7 _ _ _ _).mono ?_;rintro e w' ⟨rfl,rfl⟩))
   go_ret;exact⟨D8 (by simp[T0,hA,hE]),(A5 _ _).alloc (A4 _) _⟩
 have hr:Hid (T0 k a b n wi=false):=by show _=_;simp[T0,h1,h2,h3,h4,h5]
 have e1:(k==1)=false:=by simpa using h1
 have e2:(k==2)=false:=by simpa using h2
 have e3:(k==3)=false:=by simpa using h3
 have e4:(k==4)=false:=by simpa using h4
 have e5:(k==5)=false:=by simpa using h5
 clear h1 h2 h3 h4 h5;go_in;go_wp2_with (first|(go_at_call 28;refine (O1 _ _ (by assumption)).mono ?_;rintro e w' ⟨rfl,rfl⟩)|(go_at_call 41;refine (O7 _ _ _ _).mono ?_;rintro e w' ⟨rfl,rfl⟩))
 go_ret;exact⟨D8 hr.out.symm,(A5 _ _).alloc (A4 _) _⟩
theorem Z1(nm:BA)(k:Int)(a b:BA)(n wi:Int)(t e:BA)(w:World)(hnm:nm.size<=maxLen)(ha:a.size<=maxLen)(hb:b.size<=maxLen)(ht:t.size<=maxLen)(he:e.size<=maxLen):
  Calls prog 76 #[.agg #[Tz nm,Iz k,Tz a,Tz b,Iz n,Iz wi,Tz t,Tz e]] w
   λe' w'=>e'=.returned (.bool (V9 nm k a b n wi t e))/\Up w w':=by
 cases h1:(G0 nm&&M6 nm==0)
 ·go_in;go_wp2_with (go_at_call 132;refine (Ds _ _ (by assumption)).mono ?_;rintro e w' ⟨rfl,rfl⟩)
  go_ret;exact⟨D8 (by simp[V9,h1]),(A5 _ _).alloc (A4 _) _⟩
 cases h2:Ai wi 1 1000
 ·go_in;go_wp2_with (first|(go_at_call 132;refine (Ds _ _ (by assumption)).mono ?_;rintro e w' ⟨rfl,rfl⟩)|(go_at_call 41;refine (O7 _ _ _ _).mono ?_;rintro e w' ⟨rfl,rfl⟩))
  go_ret;exact⟨D8 (by simp[V9,h2]),(A5 _ _).alloc (A4 _) _⟩
 cases h3:T0 k a b n wi
 ·go_in;go_wp2_with (first|(go_at_call 132;refine (Ds _ _ (by assumption)).mono ?_;rintro e w' ⟨rfl,rfl⟩)|(go_at_call 41;refine (O7 _ _ _ _).mono ?_;rintro e w' ⟨rfl,rfl⟩)|(go_at_call 133;refine (IB _ _ _ _ _ _ _ _ _ (by assumption) (by assumption)).mono ?_;rintro e w' ⟨rfl,a0⟩;obtain⟨hc,hf⟩:=G9 a0)|(go_at_call 28;refine (O1 _ _ (by assumption)).mono ?_;rintro e w' ⟨rfl,rfl⟩))
  go_ret;exact⟨D8 (by simp[V9,h3]),D5 ((A5 _ _).alloc (A4 _) _) a0⟩
 cases h4:G0 t
 ·go_in;go_wp2_with (first|(go_at_call 132;refine (Ds _ _ (by assumption)).mono ?_;rintro e w' ⟨rfl,rfl⟩)|(go_at_call 41;refine (O7 _ _ _ _).mono ?_;rintro e w' ⟨rfl,rfl⟩)|(go_at_call 133;refine (IB _ _ _ _ _ _ _ _ _ (by assumption) (by assumption)).mono ?_;rintro e w' ⟨rfl,a0⟩;obtain⟨hc,hf⟩:=G9 a0)|(go_at_call 28;refine (O1 _ _ (by assumption)).mono ?_;rintro e w' ⟨rfl,rfl⟩))
  go_ret;exact⟨D8 (by simp[V9,h4]),D5 ((A5 _ _).alloc (A4 _) _) a0⟩
 ·go_in;go_wp2_with (first|(go_at_call 132;refine (Ds _ _ (by assumption)).mono ?_;rintro e w' ⟨rfl,rfl⟩)|(go_at_call 41;refine (O7 _ _ _ _).mono ?_;rintro e w' ⟨rfl,rfl⟩)|(go_at_call 133;refine (IB _ _ _ _ _ _ _ _ _ (by assumption) (by assumption)).mono ?_;rintro e w' ⟨rfl,a0⟩;obtain⟨hc,hf⟩:=G9 a0)|(go_at_call 28;refine (O1 _ _ (by assumption)).mono ?_;rintro e w' ⟨rfl,rfl⟩))
  go_ret;exact⟨D8 (by simp[V9,h1,h2,h3,h4]),D5 ((A5 _ _).alloc (A4 _) _) a0⟩
theorem OE(s t:BA)(w:World):
  Calls prog 262 #[.agg #[Tz s,Tz t]] w λe w'=>e=.returned (Iz 1000)/\Up w w':=by
 go_in;go_wp2;go_ret;exact⟨rfl,by go_grown⟩
theorem OG(s t:BA)(w:World):
  Calls prog 265 #[.agg #[Tz s,Tz t]] w λe w'=>e=.returned (Iz 1000)/\Up w w':=by
 go_in;go_wp2;go_ret;exact⟨rfl,by go_grown⟩
theorem OH(s:BA)(n:Int)(w:World):
  Calls prog 268 #[.agg #[Tz s,Iz n]] w λe w'=>e=.returned (Iz n)/\Up w w':=by
 go_in;go_wp2;go_ret;exact⟨rfl,by go_grown⟩
theorem VT(s t:BA)(w:World)(ht:t.size<=maxLen):
  Calls prog 263 #[.agg #[Tz s,Tz t]] w λe w'=>e=.returned (.bool (G0 t))/\Up w w':=by
 go_in;go_wp2_with (go_at_call 153;refine (V5 _ _ (by assumption)).mono ?_;rintro e w' ⟨rfl,hb⟩)
 go_ret;exact⟨rfl,D5 ((A5 _ _).alloc (A4 _) _) hb⟩
theorem VU(s t:BA)(w:World)(ht:t.size<=maxLen):
  Calls prog 266 #[.agg #[Tz s,Tz t]] w λe w'=>e=.returned (.bool (G0 t && !(s.toList==t.toList)))/\Up w w':=by
 have a0:(t.toList==s.toList)=(s.toList==t.toList):=Bool.beq_comm;have Hs:Hid ((t.toList==s.toList)=(s.toList==t.toList)):=a0;clear a0;cases hn:G0 t
 all_goals
  go_in;go_wp2_with (go_at_call 153;refine (V5 _ _ (by assumption)).mono ?_;rintro e w' ⟨rfl,hb⟩;obtain⟨hc,hf⟩:=G9 hb)
  go_ret;exact⟨D8 (by simp[Hs.out]),D5 ((A5 _ _).alloc (A4 _) _) hb⟩
theorem OI(nm a b:BA)(n wi:Int)(t e:BA)(w:World):
  Calls prog 181 #[.agg #[Tz nm,Iz 1,Tz a,Tz b,Iz n,Iz wi,Tz t,Tz e]] w
   λe w'=>e=.returned (.tuple #[.iface 282 (.agg #[Tz a,Tz b]),.bool true])/\Up w w':=by
 go_in;go_wp2;go_ret2
 exact⟨rfl,by go_grown⟩
theorem OJ(nm a b:BA)(n wi:Int)(t e:BA)(w:World):
  Calls prog 181 #[.agg #[Tz nm,Iz 2,Tz a,Tz b,Iz n,Iz wi,Tz t,Tz e]] w
   λe w'=>e=.returned (.tuple #[.iface 284 (.agg #[Tz a,Tz b]),.bool true])/\Up w w':=by
 go_in;go_wp2;go_ret2
 exact⟨rfl,by go_grown⟩
theorem OK(nm a b:BA)(n wi:Int)(t e:BA)(w:World):
  Calls prog 181 #[.agg #[Tz nm,Iz 3,Tz a,Tz b,Iz n,Iz wi,Tz t,Tz e]] w
   λe w'=>e=.returned (.tuple #[.iface 286 (.agg #[Tz a,Iz wi]),.bool true])/\Up w w':=by
 go_in;go_wp2;go_ret2
 exact⟨rfl,by go_grown⟩
theorem Na(nm a b:BA)(n wi:Int)(t e:BA)(w:World):
  Calls prog 181 #[.agg #[Tz nm,Iz 4,Tz a,Tz b,Iz n,Iz wi,Tz t,Tz e]] w
   λe w'=>e=.returned (.tuple #[.iface 288 (.agg #[Tz a]),.bool true])/\Up w w':=by
 go_in;go_wp2;go_ret2
 exact⟨rfl,by go_grown⟩
theorem OL(nm a b:BA)(n wi:Int)(t e:BA)(w:World):
  Calls prog 181 #[.agg #[Tz nm,Iz 5,Tz a,Tz b,Iz n,Iz wi,Tz t,Tz e]] w
   λe w'=>e=.returned (.tuple #[.iface 289 (.agg #[Tz a]),.bool true])/\Up w w':=by
 go_in;go_wp2;go_ret2
 exact⟨rfl,by go_grown⟩
theorem VV(nm:BA)(k:Int)(a b:BA)(n wi:Int)(t e:BA)(w:World)(h1:(k==1)=false)(h2:(k==2)=false)(h3:(k==3)=false)(h4:(k==4)=false)(h5:(k==5)=false):
  Calls prog 181 #[.agg #[Tz nm,Iz k,Tz a,Tz b,Iz n,Iz wi,Tz t,Tz e]] w
   λe w'=>e=.returned (.tuple #[.nilIface,.bool false])/\Up w w':=by
 go_in;go_wp2;go_ret2
 exact⟨rfl,by go_grown⟩
theorem Qq(s t:BA)(b:BA)(w:World)(ht:t.size<=maxLen):
  Calls prog 185 #[.iface 282 (.agg #[Tz s,Tz t]),Tz b] w λe w'=>e=.returned (.bool (G0 t))/\Up w w':=by
 have ta:∀w,(Instr.typeAssert (.iface 282 (.agg #[Tz s,Tz t])) 246 291 true).run prog w=.ok (.tuple #[.iface 282 (.agg #[Tz s,Tz t]),.bool true]) w:=λ_=>by kernel_rfl
 go_in;go_wp2_with (go_at_call 263;refine (VT _ _ _ (by assumption)).mono ?_;rintro e w' ⟨rfl,hb⟩)
 go_ret;exact⟨rfl,hb⟩
theorem Qr(s t:BA)(b:BA)(w:World)(ht:t.size<=maxLen):
  Calls prog 185 #[.iface 284 (.agg #[Tz s,Tz t]),Tz b] w λe w'=>e=.returned (.bool (G0 t && !(s.toList==t.toList)))/\Up w w':=by
 have ta:∀w,(Instr.typeAssert (.iface 284 (.agg #[Tz s,Tz t])) 246 291 true).run prog w=.ok (.tuple #[.iface 284 (.agg #[Tz s,Tz t]),.bool true]) w:=λ_=>by kernel_rfl
 go_in;go_wp2_with (go_at_call 266;refine (VU _ _ _ (by assumption)).mono ?_;rintro e w' ⟨rfl,hb⟩)
 go_ret;exact⟨rfl,hb⟩
theorem Qs(s:BA)(m:Int)(b:BA)(w:World):
  Calls prog 185 #[.iface 286 (.agg #[Tz s,Iz m]),Tz b] w λe w'=>e=.returned (.bool (b.toList.isEmpty))/\Up w w':=by
 have ta:∀w,(Instr.typeAssert (.iface 286 (.agg #[Tz s,Iz m])) 246 291 true).run prog w=.ok (.tuple #[.nilIface,.bool false]) w:=λw=>run_typeAssert_lacksB underlying291 (by kernel_rfl) (by kernel_rfl) _ _ w;go_in;go_wp2;go_ret;exact⟨rfl,A5 _ _⟩
theorem OM(s:BA)(b:BA)(w:World):
  Calls prog 185 #[.iface 288 (.agg #[Tz s]),Tz b] w λe w'=>e=.returned (.bool (b.toList.isEmpty))/\Up w w':=by
 have ta:∀w,(Instr.typeAssert (.iface 288 (.agg #[Tz s])) 246 291 true).run prog w=.ok (.tuple #[.nilIface,.bool false]) w:=λw=>run_typeAssert_lacksB underlying291 (by kernel_rfl) (by kernel_rfl) _ _ w;go_in;go_wp2;go_ret;exact⟨rfl,A5 _ _⟩
theorem Qt(s:BA)(b:BA)(w:World):
  Calls prog 185 #[.iface 289 (.agg #[Tz s]),Tz b] w λe w'=>e=.returned (.bool (b.toList.isEmpty))/\Up w w':=by
 have ta:∀w,(Instr.typeAssert (.iface 289 (.agg #[Tz s])) 246 291 true).run prog w=.ok (.tuple #[.nilIface,.bool false]) w:=λw=>run_typeAssert_lacksB underlying291 (by kernel_rfl) (by kernel_rfl) _ _ w;go_in;go_wp2;go_ret;exact⟨rfl,A5 _ _⟩
theorem NQ(s t:BA)(n:Int)(w:World):
  Calls prog 186 #[.iface 282 (.agg #[Tz s,Tz t]),Iz n] w λe w'=>e=.returned (.bool (Ai n 1 1000))/\Up w w':=by
 have ta:∀w,(Instr.typeAssert (.iface 282 (.agg #[Tz s,Tz t])) 246 294 true).run prog w=.ok (.tuple #[.iface 282 (.agg #[Tz s,Tz t]),.bool true]) w:=λ_=>by kernel_rfl
 by_cases h1:1<=n
 ·go_in;go_wp2_with (go_at_call 262;refine (OE _ _ _).mono ?_;rintro e w' ⟨rfl,hb⟩)
  go_ret;exact⟨D8 (by simp[Ai,h1]),hb⟩
 ·go_in;go_wp2_with (go_at_call 262;refine (OE _ _ _).mono ?_;rintro e w' ⟨rfl,hb⟩)
  go_ret;exact⟨D8 (by simp[Ai];omega),A5 _ _⟩
theorem NR(s t:BA)(n:Int)(w:World):
  Calls prog 186 #[.iface 284 (.agg #[Tz s,Tz t]),Iz n] w λe w'=>e=.returned (.bool (Ai n 1 1000))/\Up w w':=by
 have ta:∀w,(Instr.typeAssert (.iface 284 (.agg #[Tz s,Tz t])) 246 294 true).run prog w=.ok (.tuple #[.iface 284 (.agg #[Tz s,Tz t]),.bool true]) w:=λ_=>by kernel_rfl
 by_cases h1:1<=n
 ·go_in;go_wp2_with (go_at_call 265;refine (OG _ _ _).mono ?_;rintro e w' ⟨rfl,hb⟩)
  go_ret;exact⟨D8 (by simp[Ai,h1]),hb⟩
 ·go_in;go_wp2_with (go_at_call 265;refine (OG _ _ _).mono ?_;rintro e w' ⟨rfl,hb⟩)
  go_ret;exact⟨D8 (by simp[Ai];omega),A5 _ _⟩
theorem NS(s:BA)(m:Int)(n:Int)(w:World):
  Calls prog 186 #[.iface 286 (.agg #[Tz s,Iz m]),Iz n] w λe w'=>e=.returned (.bool (Ai n 1 m))/\Up w w':=by
 have ta:∀w,(Instr.typeAssert (.iface 286 (.agg #[Tz s,Iz m])) 246 294 true).run prog w=.ok (.tuple #[.iface 286 (.agg #[Tz s,Iz m]),.bool true]) w:=λ_=>by kernel_rfl
 by_cases h1:1<=n
 ·go_in;go_wp2_with (go_at_call 268;refine (OH _ _ _).mono ?_;rintro e w' ⟨rfl,hb⟩)
  go_ret;exact⟨D8 (by simp[Ai,h1]),hb⟩
 ·go_in;go_wp2_with (go_at_call 268;refine (OH _ _ _).mono ?_;rintro e w' ⟨rfl,hb⟩)
  go_ret;exact⟨D8 (by simp[Ai];omega),A5 _ _⟩
theorem Mx(s:BA)(n:Int)(w:World):
  Calls prog 186 #[.iface 288 (.agg #[Tz s]),Iz n] w λe w'=>e=.returned (.bool (n==0))/\Up w w':=by
 have ta:∀w,(Instr.typeAssert (.iface 288 (.agg #[Tz s])) 246 294 true).run prog w=.ok (.tuple #[.nilIface,.bool false]) w:=λw=>run_typeAssert_lacksB underlying294 (by kernel_rfl) (by kernel_rfl) _ _ w;go_in;go_wp2;go_ret;exact⟨rfl,A5 _ _⟩
theorem NT(s:BA)(n:Int)(w:World):
  Calls prog 186 #[.iface 289 (.agg #[Tz s]),Iz n] w λe w'=>e=.returned (.bool (n==0))/\Up w w':=by
 have ta:∀w,(Instr.typeAssert (.iface 289 (.agg #[Tz s])) 246 294 true).run prog w=.ok (.tuple #[.nilIface,.bool false]) w:=λw=>run_typeAssert_lacksB underlying294 (by kernel_rfl) (by kernel_rfl) _ _ w;go_in;go_wp2;go_ret;exact⟨rfl,A5 _ _⟩
theorem Rs{w1:World}(hB:B<W1.heap.size)(h:Up W1 w0/\At w0 B 0 x0/\At w0 B 1 x1/\At w0 B 2 x2/\At w0 B 3 x3/\At w0 B 4 x4/\At w0 B 5 x5/\At w0 B 6 x6/\At w0 B 7 x7)(hb:Up w0 w1):Up W1 w1/\At w1 B 0 x0/\At w1 B 1 x1/\At w1 B 2 x2/\At w1 B 3 x3/\At w1 B 4 x4/\At w1 B 5 x5/\At w1 B 6 x6/\At w1 B 7 x7:=by
 obtain⟨h1,a0,a1,a2,a3,a4,a5,a6,a7⟩:=h;have hl:B<w0.heap.size:=A2 hB h1.size;exact⟨D5 h1 hb,(hb.cell (p:=⟨B,0,none⟩) hl).trans a0,(hb.cell (p:=⟨B,1,none⟩) hl).trans a1,(hb.cell (p:=⟨B,2,none⟩) hl).trans a2,(hb.cell (p:=⟨B,3,none⟩) hl).trans a3,(hb.cell (p:=⟨B,4,none⟩) hl).trans a4,(hb.cell (p:=⟨B,5,none⟩) hl).trans a5,(hb.cell (p:=⟨B,6,none⟩) hl).trans a6,(hb.cell (p:=⟨B,7,none⟩) hl).trans a7⟩
theorem Nd(h:Up W1 w0/\At w0 B 0 x0/\At w0 B 1 x1/\At w0 B 2 x2/\At w0 B 3 x3/\At w0 B 4 x4/\At w0 B 5 x5/\At w0 B 6 x6/\At w0 B 7 x7):Up W1 w0.drew/\w0.drew.cell? ⟨B,0,none⟩=some x0/\w0.drew.cell? ⟨B,1,none⟩=some x1/\w0.drew.cell? ⟨B,2,none⟩=some x2/\w0.drew.cell? ⟨B,3,none⟩=some x3/\w0.drew.cell? ⟨B,4,none⟩=some x4/\w0.drew.cell? ⟨B,5,none⟩=some x5/\w0.drew.cell? ⟨B,6,none⟩=some x6/\w0.drew.cell? ⟨B,7,none⟩=some x7:=by
 obtain⟨h1,a0,a1,a2,a3,a4,a5,a6,a7⟩:=h;exact⟨h1.drew,a0,a1,a2,a3,a4,a5,a6,a7⟩
end Go.Proofs.YtmonodehegcfhaaGreatDoor
namespace Go.Proofs.YtmonodehegcfhaaGreatDoor
open Go.Proofs.Tryz
open Go
variable{ops:Array Oper}{a b:BA}{ps:List Ph}{B g m:Nat}{P:Program}{x0 x1 x2 x3 x4 x5 x6 x7:Value}{W1 w w' w0:World}
theorem Sg{Q:Exit->Act->World->Prop}{md:Region.Mode}{S:World->Prop}{L i j l:Nat}{o o' o'':Oper}{fuel:Nat}{listed:Array Bool}{a:Act}(hr:Region.ready md ops listed=[i,j,l])(ho:ops[i]?=some o)(ho':ops[j]?=some o')(ho'':ops[l]?=some o'')
  (h:∀K':Act->World->Prop,Shut (∀a w,(i≠L->S w)->AY P md ops Q S L fuel (listed.setIfInBounds i true) a w->K' a w)->if Region.wanted o (yielded ops a.tmps)=true then Oper.wp P o a w K' Q else K' (a.put o.dst undef) w)
  (h':∀K':Act->World->Prop,Shut (∀a w,(j≠L->S w)->AY P md ops Q S L fuel (listed.setIfInBounds j true) a w->K' a w)->if Region.wanted o' (yielded ops a.tmps)=true then Oper.wp P o' a w K' Q else K' (a.put o'.dst undef) w)
  (h'':∀K':Act->World->Prop,Shut (∀a w,(l≠L->S w)->AY P md ops Q S L fuel (listed.setIfInBounds l true) a w->K' a w)->if Region.wanted o'' (yielded ops a.tmps)=true then Oper.wp P o'' a w K' Q else K' (a.put o''.dst undef) w) :
  AY P md ops Q S L (fuel+1) listed a w:=by
 refine⟨λh0=>(by rw[hr] at h0;cases h0),λk hk=>?_⟩;rw[hr] at hk;rcases (by simpa using hk:k=i∨k=j∨k=l) with rfl|rfl|rfl
 ·exact wpOp_step ho λK' hK=>h K' λa w hS hA=>hK a w ⟨hS,hA⟩
 ·exact wpOp_step ho' λK' hK=>h' K' λa w hS hA=>hK a w ⟨hS,hA⟩
 ·exact wpOp_step ho'' λK' hK=>h'' K' λa w hS hA=>hK a w ⟨hS,hA⟩
end Go.Proofs.YtmonodehegcfhaaGreatDoor
namespace Go.Proofs.YtmonodehegcfhaaGreatDoor
open Go.Proofs.Tryz
open Go.RowKit
variable{ops:Array Oper}{a b:BA}{ps:List Ph}{B g m:Nat}{P:Program}{x0 x1 x2 x3 x4 x5 x6 x7:Value}{W1 w w' w0:World}
def BK:List (BA×Int)->List Value
 | []=>[]
 | r::rest=>.string r.1::.int .i64 (r.2)::BK rest
theorem ON(a b:List (BA×Int)):BK (a++b)=BK a++BK b:=by
 induction a with
 | nil=>rfl
 | cons r rest ih=>simp[BK,ih]
theorem OO(a:List (BA×Int)):(BK a).length=a.length*2:=by
 induction a with
 | nil=>rfl
 | cons r rest ih=>simp[BK,ih];omega
theorem OP:∀(a:List (BA×Int)) (i:Nat) (h:i<a.length),(BK a)[i*2]?=some (Tz (a[i]).1)/\(BK a)[i*2+1]?=some (Iz ((a[i]).2))
 | r::rest,0,_=>⟨rfl,rfl⟩
 | r::rest,i+1,h=>by
  have:=OP rest i (by simpa using h);rw[show (i+1)*2=i*2+1+1 by omega];simpa [BK] using this
def GS(w:World)(g:Nat)(rows:List (BA×Int)):Prop:=w.rangeAt g 0 (BK rows)/\g<w.heap.size
theorem GS.up{rows:List (BA×Int)}(h:GS w g rows)(hb:Up w w'):GS w' g rows :=
 ⟨λj v hv=>by rw[hb.cell (p:=⟨g,0+j,none⟩) h.2];exact h.1 j v hv,A2 h.2 hb.size⟩
theorem GS.cells{rows:List (BA×Int)}(h:GS w g rows)(i:Nat)(hi:i<rows.length):At w g (i*2) (Tz (rows[i]).1)/\At w g (i*2+1) (Iz ((rows[i]).2)):=by
 obtain⟨h1,h2⟩:=OP rows i hi;exact⟨by simpa using h.1 _ _ h1,by simpa using h.1 _ _ h2⟩
theorem GS.of_own{base e cap:Nat}{rows:List (BA×Int)}(h:w.ownsRow base e 2 (Sz g rows.length cap) rows.length (BK rows)):GS w g rows:=by
 refine⟨λj v hv=>?_,(h.lt g rfl).2⟩;have hj:j<rows.length*2:=by rw[← OO];exact (A3.1 hv).1
 rw[Nat.zero_add,h.cellAt j hj];exact hv
theorem Rt(rows:List (BA×Int))(g c:Nat)(nm:BA)(w:World)(hr:GS w g rows)(hn:rows.length<=1048576):
  Calls prog 59 #[Sz g rows.length c,Tz nm] w λe w'=>e=.returned (Iz (look rows nm 0))/\Up w w':=by
 have hg:=hr.2;go_in;go_wp2;go_loopw [10] (λi w'=>∃k:Nat,k<=rows.length/\i=.int .i64 k/\Gt rows nm k/\Up w w') (λi _=>rows.length-(intOf i).toNat)
 case atStart=>exact⟨0,by omega,rfl,λ_ _ h=>by omega,A5 _ _⟩
 case round =>
  obtain⟨k,hk,rfl,a0,hB⟩:=hrel;have Hal:Hid (Gt rows nm k):=a0;clear a0;by_cases hp:k<rows.length
  ·obtain⟨c0,c1⟩:=hr.cells k hp;obtain⟨hc,hf⟩:=G9 hB;cases hq:((rows[k]).1.toList==nm.toList)
   ·have Hq:Hid (((rows[k]).1.toList==nm.toList)=false):=hq;go_wp2;go_roundw
    case rel=>exact⟨k+1,by omega,by go_num,LF Hal.out hp Hq.out,hB.alloc hB.size _⟩
    case measure=>simp[intOf];omega
   ·have Hq:Hid (look rows nm 0=(rows[k]).2):=Oo 0 Hal.out hp hq;go_wp2;go_ret;exact⟨by show Ending.returned (Iz ((rows[k]).2))=_;rw[Hq.out],hB.alloc hB.size _⟩
  ·have Hq:Hid (look rows nm 0=0):=MT 0 Hal.out hp;go_wp2;go_ret;exact⟨by show Ending.returned (Iz (0))=_;rw[Hq.out],hB⟩
def BR(_:Int):Int:=0
def CD(p:Ph)(a b:Int):Int:=p.wi+max a b
theorem LK:∀(l:List Ph),(∀p∈l,1<=p.wi/\p.wi<=1000)->∀nm,0<=Bi BR CD 0 l nm/\Bi BR CD 0 l nm<=1000*l.length
 | [],_,nm=>by simp[Bi,BR]
 | p::rest,h,nm=>by
  have ih:=LK rest λq hq=>h q (by simp[hq]);have hp:=h p (by simp);have h1:=ih p.t;have h2:=ih p.e;have h3:=ih nm;rw[Bi];split
  ·simp only[CD,List.length_cons];omega
  ·simp only[List.length_cons];omega
theorem IC(h:P3 ps=true):∀p∈ps,1<=p.wi/\p.wi<=1000:=by
 obtain⟨_,_,ha⟩:=(M3 ps).1 h;intro p hp;obtain⟨i,hi,rfl⟩:=B7 hp;have hs:=ha i ps[i] hi (by simp[hi]);simp only[Be,Bool.and_eq_true,Ph.okB,V9,Ai,decide_eq_true_eq] at hs;exact hs.1.1.1.1.1.1.2
theorem VW(hok:P3 ps=true)(hm:m<ps.length):
  (0<=look (fill BR CD 0 (ps.drop (m+1))) (ps[m]).t 0/\look (fill BR CD 0 (ps.drop (m+1))) (ps[m]).t 0<=12000)/\(0<=look (fill BR CD 0 (ps.drop (m+1))) (ps[m]).e 0/\look (fill BR CD 0 (ps.drop (m+1))) (ps[m]).e 0<=12000):=by
 have a0:ps.length<=12:=((M3 ps).1 hok).2.1;have hw:∀p∈ps.drop (m+1),1<=p.wi/\p.wi<=1000:=λp hp=>IC hok p (List.mem_of_mem_drop hp);have h1:=LK _ hw (ps[m]).t;have h2:=LK _ hw (ps[m]).e;rw[DR _ _ _ _ (Fg hok (m+1)),DR _ _ _ _ (Fg hok (m+1))];rw[A9] at h1 h2;omega
theorem FX(n:Int)(w:World):Calls prog 57 #[Iz n] w λe w'=>e=.returned (Iz 0)/\w'=w:=by
 go_in;go_wp2;go_ret;exact⟨rfl,rfl⟩
theorem NU(nm:BA)(k:Int)(a b:BA)(n wi:Int)(t e:BA)(x y:Int)(w:World)(h1:1<=wi)(h2:wi<=1000)(hx:0<=x)(hx':x<=12000)(hy:0<=y)(hy':y<=12000):
  Calls prog 58 #[.agg #[Tz nm,Iz k,Tz a,Tz b,Iz n,Iz wi,Tz t,Tz e],Iz x,Iz y] w λe w'=>e=.returned (Iz (wi+max x y))/\Up w w':=by
 go_in;go_wp2
 all_goals
  go_ret;exact⟨U5 (by omega),(A5 _ _).alloc (A4 _) _⟩
theorem VX:(prog.info? 145).map (λi=>(i.zero,i.size,i.bytes))=some (some (.agg #[Ez,Iz 0]),2,24):=by kernel_rfl
theorem TW(ps:List Ph)(b o c:Nat)(w:World)(hE:P2 w)(hr:M2 w b o ps)(hb:b<w.heap.size)(hok:P3 ps=true):
  Calls prog 56 #[.slice (some ⟨b,o,none⟩) ps.length c,.func (.func 57) #[] #[],.func (.func 58) #[] #[]] w
   λe w'=>(∃g cap,e=.returned (.slice (some ⟨g,0,none⟩) (fill BR CD 0 ps).length cap)/\GS w' g (fill BR CD 0 ps))/\Up w w':=by
 have HE:Hid (P2 w):=hE;obtain⟨g0,g1,g2,_⟩:=hE;have i0:∀w,(Instr.index 143 (.agg #[.string ⟨#[103,111,111,100]⟩,.string ⟨#[115,97,118,101,100]⟩,.string ⟨#[115,99,114,97,112,112,101,100]⟩]) (.int .i64 0)).run prog w=.ok (.string ⟨#[103,111,111,100]⟩) w:=λ_=>by kernel_rfl
 have i1:∀w,(Instr.index 143 (.agg #[.string ⟨#[103,111,111,100]⟩,.string ⟨#[115,97,118,101,100]⟩,.string ⟨#[115,99,114,97,112,112,101,100]⟩]) (.int .i64 1)).run prog w=.ok (.string ⟨#[115,97,118,101,100]⟩) w:=λ_=>by kernel_rfl
 have i2:∀w,(Instr.index 143 (.agg #[.string ⟨#[103,111,111,100]⟩,.string ⟨#[115,97,118,101,100]⟩,.string ⟨#[115,99,114,97,112,112,101,100]⟩]) (.int .i64 2)).run prog w=.ok (.string ⟨#[115,99,114,97,112,112,101,100]⟩) w:=λ_=>by kernel_rfl
 go_in;obtain⟨ii,hi,a6,a7,a8⟩:=info_parts VX;go_wp2_with fail;go_loopw [7,14] (λv i w'=>∃(k:Nat)(j:Int),k<=3/\j=k/\i=.int .i64 j/\w'.ownsRow w.heap.size 145 2 v ((BT BR).take k).length (BK ((BT BR).take k))/\Up w w') (λ_ i _=>3-(intOf i).toNat)
 case atStart=>exact⟨0,0,by omega,by omega,rfl,B9 _ _ _ _,A5 _ _⟩
 case round =>
  obtain⟨k,j,hk,hj,rfl,a0,hB⟩:=hrel;obtain rfl|rfl|rfl|rfl:k=0∨k=1∨k=2∨k=3:=by omega
  ·obtain rfl:j=0:=by omega
   clear hj;go_wp2_with (first|(go_at_call 112;refine (Y8 _ _ (HE.out.up hB)).mono ?_;rintro e w' ⟨rfl,hw⟩;obtain rfl:=hw.symm;clear hw)|(go_at_call 57;refine (FX _ _).mono ?_;rintro e w' ⟨rfl,hw⟩;obtain rfl:=hw.symm;clear hw)|(at_builtin;refine wpList_append_own _ rfl _ _ 90 rfl w.heap.size 145 ii _ 2 24 underlying90 hi a6 a7 a8 rfl (by decide) _ _ _ rfl (a0.alloc _) ⟨wr.heap.size,0,none⟩ 1 1 [.string ⟨#[103,111,111,100]⟩,.int .i64 0] rfl rfl (λj u hj=>FO _ _ _ _ hj) (λu hu=>JF rfl hu) (by simp[maxLen,BT]) (by simp[BT]) (by have:=hB.size;simp;omega) ?_))
   intro v' w1 hown' hgrow _;have a4:Up w w1:=(hB.alloc hB.size _).grown hgrow (by have:=hB.size;simp;omega) (λk hk=>(a0.lt k hk).1);clear hgrow a0 hB;go_wp2_with fail;go_roundw
   case rel=>exact⟨1,1,by omega,by omega,rfl,by simpa [BT,BK,BR,GP,ER,BO] using hown',a4⟩
   case measure=>simp[intOf]
  ·obtain rfl:j=1:=by omega
   clear hj;go_wp2_with (first|(go_at_call 112;refine (Y8 _ _ (HE.out.up hB)).mono ?_;rintro e w' ⟨rfl,hw⟩;obtain rfl:=hw.symm;clear hw)|(go_at_call 57;refine (FX _ _).mono ?_;rintro e w' ⟨rfl,hw⟩;obtain rfl:=hw.symm;clear hw)|(at_builtin;refine wpList_append_own _ rfl _ _ 90 rfl w.heap.size 145 ii _ 2 24 underlying90 hi a6 a7 a8 rfl (by decide) _ _ _ rfl (a0.alloc _) ⟨wr.heap.size,0,none⟩ 1 1 [.string ⟨#[115,97,118,101,100]⟩,.int .i64 0] rfl rfl (λj u hj=>FO _ _ _ _ hj) (λu hu=>JF rfl hu) (by simp[maxLen,BT]) (by simp[BT]) (by have:=hB.size;simp;omega) ?_))
   intro v' w1 hown' hgrow _;have a4:Up w w1:=(hB.alloc hB.size _).grown hgrow (by have:=hB.size;simp;omega) (λk hk=>(a0.lt k hk).1);clear hgrow a0 hB;go_wp2_with fail;go_roundw
   case rel=>exact⟨2,2,by omega,by omega,rfl,by simpa [BT,BK,BR,GP,ER,BO] using hown',a4⟩
   case measure=>simp[intOf]
  ·obtain rfl:j=2:=by omega
   clear hj;go_wp2_with (first|(go_at_call 112;refine (Y8 _ _ (HE.out.up hB)).mono ?_;rintro e w' ⟨rfl,hw⟩;obtain rfl:=hw.symm;clear hw)|(go_at_call 57;refine (FX _ _).mono ?_;rintro e w' ⟨rfl,hw⟩;obtain rfl:=hw.symm;clear hw)|(at_builtin;refine wpList_append_own _ rfl _ _ 90 rfl w.heap.size 145 ii _ 2 24 underlying90 hi a6 a7 a8 rfl (by decide) _ _ _ rfl (a0.alloc _) ⟨wr.heap.size,0,none⟩ 1 1 [.string ⟨#[115,99,114,97,112,112,101,100]⟩,.int .i64 0] rfl rfl (λj u hj=>FO _ _ _ _ hj) (λu hu=>JF rfl hu) (by simp[maxLen,BT]) (by simp[BT]) (by have:=hB.size;simp;omega) ?_))
   intro v' w1 hown' hgrow _;have a4:Up w w1:=(hB.alloc hB.size _).grown hgrow (by have:=hB.size;simp;omega) (λk hk=>(a0.lt k hk).1);clear hgrow a0 hB;go_wp2_with fail;go_roundw
   case rel=>exact⟨3,3,by omega,by omega,rfl,by simpa [BT,BK,BR,GP,ER,BO] using hown',a4⟩
   case measure=>simp[intOf]
  ·obtain rfl:j=3:=by omega
   clear i0 i1 i2 g0 g1 g2 hj;have d0:ps.length<=12:=((M3 ps).1 hok).2.1;go_wp2_with fail;go_loopw [7,10] (λv i w'=>∃k:Nat,k<=ps.length/\i=.int .i64 ((k:Int)-1)/\w'.ownsRow w.heap.size 145 2 v (fill BR CD 0 (ps.drop k)).length (BK (fill BR CD 0 (ps.drop k)))/\Up w w') (λ_ i _=>(intOf i+1).toNat)
   case atStart=>exact⟨ps.length,A4 _,rfl,by rw[List.drop_length];exact a0,hB⟩
   case round =>
    obtain⟨k,c9,rfl,a1,b0⟩:=hrel;obtain⟨g,cap,rfl⟩:=Rh a1 (VO _ _ _ _);have hT:=GS.of_own a1;cases k with
    | zero =>
     simp only[List.drop_zero] at hT a1;go_wp2_with fail;go_ret;exact⟨⟨g,cap,rfl,hT⟩,b0⟩
    | succ m =>
     have hm:m<ps.length:=by omega
     obtain⟨c0,c1,c2,c3,c4,c5,c6,c7⟩:=hr.cells m hm;obtain⟨hc,hf⟩:=G9 b0;go_wp2_with fail;have hS:∃W1,W1=wr.alloc (.cells #[.string (ps[m]).nm,.int .i64 (ps[m]).k,.string (ps[m]).a,.string (ps[m]).b,.int .i64 (ps[m]).n,.int .i64 (ps[m]).wi,.string (ps[m]).t,.string (ps[m]).e] 43):=⟨_,rfl⟩;obtain⟨W1,a3⟩:=hS;rw[← a3];have b8:wr.heap.size<W1.heap.size:=by rw[a3];simp
     have hS:Up W1 W1/\W1.cell? ⟨wr.heap.size,0,none⟩=some (.string (ps[m]).nm)/\W1.cell? ⟨wr.heap.size,1,none⟩=some (.int .i64 (ps[m]).k)/\W1.cell? ⟨wr.heap.size,2,none⟩=some (.string (ps[m]).a)/\W1.cell? ⟨wr.heap.size,3,none⟩=some (.string (ps[m]).b)/\W1.cell? ⟨wr.heap.size,4,none⟩=some (.int .i64 (ps[m]).n)/\W1.cell? ⟨wr.heap.size,5,none⟩=some (.int .i64 (ps[m]).wi)/\W1.cell? ⟨wr.heap.size,6,none⟩=some (.string (ps[m]).t)/\W1.cell? ⟨wr.heap.size,7,none⟩=some (.string (ps[m]).e):=by rw[a3];exact⟨A5 _ _,by simp,by simp,by simp,by simp,by simp,by simp,by simp,by simp⟩
     have a9:Up wr W1:=by rw[a3];exact (A5 _ _).alloc (A4 _) _
     have b4:=hT.up a9;have Hown:=E4 a1 a9;have b5:=D5 b0 a9;clear a3 c0 c1 c2 c3 c4 c5 c6 c7 hc hf hT a1 a9 a0;obtain⟨b1,b2⟩:=VW hok hm;have b3:(fill BR CD 0 (ps.drop (m+1))).length<=1048576:=by rw[DH,A9];omega
     have b6:=IC hok ps[m] (by simp)
     go_region_held (λw'=>Up W1 w'/\w'.cell? ⟨wr.heap.size,0,none⟩=some (.string (ps[m]).nm)/\w'.cell? ⟨wr.heap.size,1,none⟩=some (.int .i64 (ps[m]).k)/\w'.cell? ⟨wr.heap.size,2,none⟩=some (.string (ps[m]).a)/\w'.cell? ⟨wr.heap.size,3,none⟩=some (.string (ps[m]).b)/\w'.cell? ⟨wr.heap.size,4,none⟩=some (.int .i64 (ps[m]).n)/\w'.cell? ⟨wr.heap.size,5,none⟩=some (.int .i64 (ps[m]).wi)/\w'.cell? ⟨wr.heap.size,6,none⟩=some (.string (ps[m]).t)/\w'.cell? ⟨wr.heap.size,7,none⟩=some (.string (ps[m]).e)) (first|exact Nd hS|exact Rs b8 (by assumption) (by assumption))
      (first|(go_at_call 59;refine (Rt _ _ _ _ _ (b4.up (And.left (by assumption))) b3).mono ?_;rintro e w1 ⟨rfl,c8⟩)|(go_at_call 58;refine (NU _ _ _ _ _ _ _ _ _ _ _ b6.1 b6.2 b1.1 b1.2 b2.1 b2.2).mono ?_;rintro e w1 ⟨rfl,c8⟩))
     rename_i hHeld;obtain⟨hU,e0,-⟩:=hHeld;have a2:=E4 Hown hU;have a5:=D5 b5 hU;obtain⟨X,hX⟩:∃X,X=CD ps[m] (look (fill BR CD 0 (ps.drop (m+1))) (ps[m]).t 0) (look (fill BR CD 0 (ps.drop (m+1))) (ps[m]).e 0):=⟨_,rfl⟩;have b7:(ps[m]).wi+max (look (fill BR CD 0 (ps.drop (m+1))) (ps[m]).t 0) (look (fill BR CD 0 (ps.drop (m+1))) (ps[m]).e 0)=X:=hX.symm;rw[b7];have HX:Hid (X=CD ps[m] (look (fill BR CD 0 (ps.drop (m+1))) (ps[m]).t 0) (look (fill BR CD 0 (ps.drop (m+1))) (ps[m]).e 0)):=hX;have Hlen:(fill BR CD 0 (ps.drop (m+1))).length<=16:=by rw[DH,A9];omega
     clear hX b7 hS b4 Hown b1 b2 hU b5;go_wp2_with (at_builtin;refine wpList_append_own _ rfl _ _ 90 rfl w.heap.size 145 ii _ 2 24 underlying90 hi a6 a7 a8 rfl (by decide) _ _ _ rfl (a2.alloc _) ⟨w1.heap.size,0,none⟩ 1 1 [.string (ps[m]).nm,.int .i64 X] rfl rfl (λj u hj=>FO _ _ _ _ hj) (λu hu=>JF rfl hu) (by simp only[maxLen];omega) (by omega) (by have:=a5.size;simp;omega) ?_)
     intro v' w2 hown' hgrow _;have b9:Up w w2:=(a5.alloc a5.size _).grown hgrow (by have:=a5.size;simp;omega) (λk hk=>(a2.lt k hk).1);clear hgrow a2 a5;go_wp2_with fail;go_roundw
     case rel=>exact⟨m,by omega,by go_num,by rw[MU _ _ _ hm,← HX.out,ON,B0];exact hown',b9⟩
     case measure=>simp[intOf]
end Go.Proofs.YtmonodehegcfhaaGreatDoor
