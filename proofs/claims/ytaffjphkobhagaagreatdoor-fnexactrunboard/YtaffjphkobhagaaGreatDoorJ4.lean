/- What opening an argument leans on: lists, cells, texts and numbers that can be read. -/
import Derived.Test.YtaffjphkobhagaaGreatDoorRows
import Derived.Test.YtaffjphkobhagaaGreatDoorJ2
import Derived.OpenVars
import Derived.LaidLaws
import Derived.Lib.LaidTab
import Derived.Deep.DeepHandedRow
import Derived.Lib.SlicesCompact
namespace Go.Proofs.YtaffjphkobhagaaGreatDoor
open Proofs.Tryz
variable{held:Bool}{a b nm s:BA}{ps:List Ph}{l:List UInt8}{cs:List Value}{base fuel k m:Nat}{sp:Nat->Bool}{c:Value}{W w w':World}
section
open Go.ChangeShapes Go.WideShapes Go.ChangeAt Go.RowKit
theorem own:ownKnob prog.godebug=none:=sI
theorem VC:laidOutB prog=true:=sI
theorem AM:prog.cellsOf 9=1:=sI
theorem Jv:prog.cellsOf 3=1:=sI
theorem L8{H:Type}{enc:TypeId×Value->H}{y:DataW H×List MemPlace}
  (h:DataW.trod enc prog w base sp held fuel 9 [c]=some y):∃s:BA,c=Tz s/\y=(.lit (.string s.data.toList),[])/\s.size<=maxLen:=by
 obtain⟨s,hc,hy,hs⟩:=DataW.trod_string underlying9 h;simp only[List.cons.injEq,and_true] at hc;exact⟨s,hc,hy,hs⟩
theorem Y5{H:Type}{enc:TypeId×Value->H}{y:DataW H×List MemPlace}
  (h:DataW.trod enc prog w base sp held fuel 3 [c]=some y):∃n:Int,c=.int .i64 n/\y=(.lit (.int .i64 n),[])/\(Lit.int .i64 n).wf=true:=by
 obtain⟨s,hc,hy,hs⟩:=DataW.trod_int underlying3 h;simp only[List.cons.injEq,and_true] at hc;exact⟨s,hc,hy,hs⟩
theorem Jw(h:s.data.toList=l):s=⟨l.toArray⟩:=by cases s;simp_all [← h]
theorem AdQ{H:Type}{enc:TypeId×Value->H}{n:String}{gs:List (DataW H)}{q:List MemPlace}(h:DataW.TrodVars enc prog W sp [n] gs q):∃g,gs=[g]:=by
 match gs,h with
 | [],h=>exact h.elim
 | [g],_=>exact⟨g,rfl⟩
 | _::_::_,⟨_,_,_,_,_,_,_,_,_,_,h,_⟩=>exact h.elim
theorem FA{α:Type}(n:Nat)(Q:Nat->α->Prop)(h:∀i,i<n->∃p,Q i p):∃ps:List α,ps.length=n/\∀(i:Nat)(p:α),ps[i]?=some p->Q i p:=by
 induction n with
 | zero=>exact⟨[],rfl,λi p hp=>by simp at hp⟩
 | succ n ih =>
  obtain⟨ps,hl,hq⟩:=ih λi hi=>h i oM;obtain⟨p,hp⟩:=h n oM;refine⟨ps++[p],by simp[hl],λi q hq'=>?_⟩;rw[List.getElem?_append] at hq';split at hq'
  .exact hq i q hq'
  .grind
theorem Y0{b o n:Nat}(h:w.cells? base ⟨b,o,none⟩ n=some cs):w.rangeAt b o cs:=by
 unfold World.cells? at h;split at h
 .intro j v hv;have hl:cs.length=n:=by simpa using Lib.mapM_length h
  have hj:j<n:=by rw[← hl];exact (A2.1 hv).1
  obtain⟨x,hx,hc⟩:=Lib.mapM_at h j j (by simp[hj]);rw[hv] at hx;obtain rfl:=A5 hx;rwa [Addr.add_mid] at hc
 .cases h
theorem Qm{α:Type}{l:List α}(h:l.length=3):∃c0 c1 c2,l=[c0,c1,c2]:=by
 match l,h with
 | [c0,c1,c2],_=>exact⟨c0,c1,c2,rfl⟩
theorem Qn{α:Type}{l:List α}(h:l.length=2):∃c0 c1,l=[c0,c1]:=by
 match l,h with
 | [c0,c1],_=>exact⟨c0,c1,rfl⟩
theorem Adb{α:Type}{l:List α}(h:l.length=8):∃c0 c1 c2 c3 c4 c5 c6 c7,l=[c0,c1,c2,c3,c4,c5,c6,c7]:=by
 match l,h with
 | [c0,c1,c2,c3,c4,c5,c6,c7],_=>exact⟨c0,c1,c2,c3,c4,c5,c6,c7,rfl⟩
end
section
open Go.RowKit
theorem I5(n lo hi:Int)(w:World):
  cE prog 31 #[Iz n,Iz lo,Iz hi] w (.bool (U7 n lo hi)):=by
 by_cases h1:lo<=n<;>by_cases h2:n<=hi
 all_goals
  delta cE;go_in;go_wp2;go_ret;exact⟨D4 (by simp[U7,h1,h2]),rfl⟩
theorem O3(s:BA)(w:World)(hs:s.size<=maxLen):
  cU prog 215 #[Tz s] w (.bool (E4 s)):=by
 unfold maxLen at hs;by_cases h1:1<=s.size
 case neg =>
  delta cU;go_in;go_wp2;go_ret;exact⟨D4 (by simp[E4,h1]),A4 _ _⟩
 by_cases h2:s.size<=8
 case neg =>
  delta cU;go_in;go_wp2;go_ret;exact⟨D4 (by simp[E4,h2]),A4 _ _⟩
 have hn:Hid (E4 s=Y6 s.data.toList):=by show E4 s=_;simp[E4,h1,h2]
 delta cU;go_in;go_wp2_with fail;(try dsimp only[Iz,Sy,Sx,Nz,Vz,Tz,Ez,Pz]);go_loopw [4] (λ_ w'=>∃a0:Nat,w'=w.iter s a0/\a0<=s.size/\Y6 (s.data.toList.take a0)=true) (λ_ w'=>s.size-w'.iterPos w.heap.size)
 case atStart=>exact⟨0,rfl,oM,rfl⟩
 case round =>
  obtain⟨a0,rfl,a4,a1⟩:=hrel;have Hal:Hid (Y6 (s.data.toList.take a0)=true):=a1;clear a1;by_cases hp:a0<s.size
  .have a2:∀ty,(Instr.next (Pz w.heap.size 0) true ty).run prog (w.iter s a0)=_:=λty=>run_next_any w s a0 ty hp;by_cases ha:(s[a0]'hp).toNat<128
   .rw[decode_ascii s a0 hp ha] at a2;by_cases hb:BS (s[a0]'hp).toNat=true
    .have Hb:Hid (BS (s[a0]'hp).toNat=true):=hb;go_wp2_with (go_at_call 131;refine (Ec _ _).mono ?_;rintro e w' ⟨rfl,rfl⟩)
     go_roundw
     case rel=>exact⟨a0+1,rfl,oM,by rw[Gt s a0 hp,Hal.out,Hb.out];rfl⟩
     case measure=>simp;omega
    .have a3:BS (s[a0]'hp).toNat=false:=by simpa using hb
     have Hb:Hid (BS (s[a0]'hp).toNat=false):=a3;clear hb;go_wp2_with (go_at_call 131;refine (Ec _ _).mono ?_;rintro e w' ⟨rfl,rfl⟩)
     go_ret;exact⟨D4 (by rw[hn.out,Fw s a0 hp Hb.out]),Fx _ _ _⟩
   .have hi:=decode_high s a0 hp oM;have a3:BS (Utf8.decode s a0).1=false:=IV _ hi.1;have Hb:Hid (BS (s[a0]'hp).toNat=false):=IV _ oM;clear hi;go_wp2_with (go_at_call 131;refine (Ec _ _).mono ?_;rintro e w' ⟨rfl,rfl⟩)
    go_ret;exact⟨D4 (by rw[hn.out,Fw s a0 hp Hb.out]),Fx _ _ _⟩
  .have a2:∀ty,(Instr.next (Pz w.heap.size 0) true ty).run prog (w.iter s a0)=_:=λty=>run_next_end w s a0 ty hp;go_wp2;go_ret;exact⟨D4 (by rw[hn.out,IW s a0 hp Hal.out]),Fx _ _ _⟩
theorem H9(s:BA)(w:World)(hs:s.size<=maxLen):
  cE prog 69 #[Tz s] w (.bool (E4 s)):=by
 unfold maxLen at hs;by_cases h1:1<=s.size/\s.size<=8
 case neg =>
  have h2:U7 s.size 1 8=false:=(Ey _ _ _).2 oM;delta cE;go_in;go_wp2_with (go_at_call 31;refine (I5 _ _ _ _).mono ?_;rintro e w' ⟨rfl,rfl⟩)
  go_ret;exact⟨D4 (by simp only[E4];simp;omega),rfl⟩
 have hn:Hid (E4 s=Y6 s.data.toList):=by show E4 s=_;simp[E4,h1]
 have h2:U7 s.size 1 8=true:=(AX _ _ _).2 oM;delta cE;go_in;go_wp2_with (go_at_call 31;refine (I5 _ _ _ _).mono ?_;rintro e w' ⟨rfl,rfl⟩)
 go_loop [3] (λi=>∃k:Nat,k<=s.size/\i=.int .i64 k/\Y6 (s.data.toList.take k)=true) (λi=>s.size-(intOf i).toNat)
 case atStart=>exact⟨0,oM,rfl,rfl⟩
 case round =>
  obtain⟨k,hk,rfl,a0⟩:=hrel;have Hal:Hid (Y6 (s.data.toList.take k)=true):=a0;clear a0;by_cases hp:k<s.size
  .have HS:Hid (BS (s[k]'hp).toNat=true->Y6 (s.data.toList.take (k+1))=true):=by show _->_;intro hb;rw[Gt s k hp,Hal.out,hb];rfl
   have HN:Hid (BS (s[k]'hp).toNat=false->Y6 s.data.toList=false):=Fw s k hp;go_wp2
   all_goals first
    | (go_ret;exact⟨D4 (by rw[hn.out];exact (HN.out (by rw[← Bool.not_eq_true,Fv];go_light;simp at *;omega)).symm),rfl⟩)
    | (go_round
       case rel=>exact⟨k+1,oM,mO,HS.out (by rw[Fv];go_light;simp at *;omega)⟩
       case measure=>simp[intOf];omega)
  .go_wp2;go_ret;exact⟨D4 (by rw[hn.out,IW s k hp Hal.out]),rfl⟩
theorem S7(s:BA)(w:World):
  cE prog 124 #[Tz s] w (Iz (K1 s)):=by
 delta cE;go_in;go_wp2
 all_goals
  go_ret;exact⟨K8 (by simp[K1, *]),rfl⟩
def F6(w:World):Prop:=w.cell? ⟨0,0,none⟩=some (.string ⟨#[103,111,111,100]⟩)/\
  w.cell? ⟨0,1,none⟩=some (.string ⟨#[115,97,118,101,100]⟩)/\w.cell? ⟨0,2,none⟩=some (.string ⟨#[115,99,114,97,112,112,101,100]⟩)/\0<w.heap.size
theorem F6.up(h:F6 w)(b:Up w w'):F6 w' :=
 ⟨(b.cell (p:=⟨0,0,none⟩) h.2.2.2).trans h.1,(b.cell (p:=⟨0,1,none⟩) h.2.2.2).trans h.2.1,(b.cell (p:=⟨0,2,none⟩) h.2.2.2).trans h.2.2.1,A1 h.2.2.2 b.size⟩
theorem Q4(s:BA)(w:World)(hE:F6 w):
  cE prog 216 #[Tz s] w (Iz (K1 s)):=by
 obtain⟨g0,g1,g2,_⟩:=hE;have i0:∀w,(Instr.index 103 (.agg #[Tz ⟨#[103,111,111,100]⟩,Tz ⟨#[115,97,118,101,100]⟩,Tz ⟨#[115,99,114,97,112,112,101,100]⟩]) (Iz 0)).run prog w=.ok (Tz ⟨#[103,111,111,100]⟩) w:=λ_=>by kernel_rfl
 have i1:∀w,(Instr.index 103 (.agg #[Tz ⟨#[103,111,111,100]⟩,Tz ⟨#[115,97,118,101,100]⟩,Tz ⟨#[115,99,114,97,112,112,101,100]⟩]) (Iz 1)).run prog w=.ok (Tz ⟨#[115,97,118,101,100]⟩) w:=λ_=>by kernel_rfl
 have i2:∀w,(Instr.index 103 (.agg #[Tz ⟨#[103,111,111,100]⟩,Tz ⟨#[115,97,118,101,100]⟩,Tz ⟨#[115,99,114,97,112,112,101,100]⟩]) (Iz 2)).run prog w=.ok (Tz ⟨#[115,99,114,97,112,112,101,100]⟩) w:=λ_=>by kernel_rfl
 delta cE;go_in;go_wp2;go_rounds 4
 all_goals
  go_ret;exact⟨K8 (by simp[K1, *]),rfl⟩
end
section
def T1(a:List BA)(b:List BA):List BA:=b.foldl V8 a
theorem Wu(a b:List BA)(k:Nat)(hk:k<b.length):T1 a (b.take (k+1))=V8 (T1 a (b.take k)) b[k]:=by
 unfold T1;rw[A7 hk,List.foldl_append];rfl
theorem Gv(a:List BA):∀b:List BA,(T1 a b).length<=a.length+b.length
 | []=>by simp[T1]
 | x::r=>by
  have h1:=Gv (V8 a x) r;have h2:=LN a x;simp only[T1,List.foldl_cons,List.length_cons] at *;omega
def Dm(p:Ph):List BA:=if p.k=2 then V8 [p.a] p.b else [p.a]
theorem Im:∀(x y:List UInt8),Op.bytesLess x y=decide (x<y)
 | [],[]=>by simp[Op.bytesLess]
 | _::_,[]=>by simp[Op.bytesLess]
 | [],_::_=>by simp[Op.bytesLess]
 | a::x,b::y=>by
  rw[Op.bytesLess,Im x y];simp only[List.cons_lt_cons_iff];by_cases h1:a<b<;>by_cases h2:a=b<;>by_cases h3:x<y<;>simp[h1,h2,h3]
abbrev T6:=List UInt8
theorem My(x:T6):¬x<x:=List.lt_irrefl x
theorem YN{x y z:T6}(h:x<y)(k:y<z):x<z:=List.lt_trans h k
theorem YO{x y:T6}:x<=y↔x<y\/x=y:=by
 grind
theorem EY:∀(a b:List T6),a.Pairwise (· < ·)->b.Pairwise (· < ·)->(∀x,x∈a↔x∈b)->a=b
 | [],[],_,_,_=>rfl
 | [],y::s,_,_,h=>by have:=(h y).2 dC;simp at this
 | x::r,[],_,_,h=>by have:=(h x).1 dC;simp at this
 | x::r,y::s,ha,hb,h=>by
  obtain⟨ha1,ha2⟩:=List.pairwise_cons.1 ha;obtain⟨hb1,hb2⟩:=List.pairwise_cons.1 hb
  have e:x=y:=by
   rcases List.mem_cons.1 ((h x).1 dC) with e|e
   .exact e
   .rcases List.mem_cons.1 ((h y).2 dC) with e'|e'
    .exact e'.symm
    .grind
  subst e;rw[EY r s ha2 hb2 λz=>?_];constructor
  .grind
  .grind
def D7(ss:List BA):List T6:=ss.map (·.toList)
theorem Aw(h:a.toList=b.toList):a=b:=by
 rw[Go.ByteArray.toList_eq,Go.ByteArray.toList_eq] at h;cases a;cases b;simp at h;rw[h]
theorem QP(ss:List BA)(x:BA):(∀z,z∈D7 (V8 ss x)↔z∈D7 ss\/z=x.toList)/\((D7 ss).Pairwise (· < ·)->(D7 (V8 ss x)).Pairwise (· < ·)):=by
 induction ss with
 | nil=>simp[V8,D7]
 | cons y r ih =>
  obtain⟨im,ip⟩:=ih;rw[V8];by_cases h1:Eo y x=true
  .rw[if_pos h1];have a0:y.toList<x.toList:=by rw[Eo,Im] at h1;simpa using h1
   refine⟨λz=>?_,λhp=>?_⟩
   .have:=im z;simp only[D7,List.map_cons,List.mem_cons] at this ⊢
    rw[this];constructor
    .grind
    .grind
   .simp only[D7,List.map_cons] at hp ⊢
    obtain⟨p1,p2⟩:=List.pairwise_cons.1 hp;refine List.pairwise_cons.2 ⟨λz hz=>?_,ip p2⟩;rcases (im z).1 hz with h|h
    .exact p1 z h
    .subst h;exact a0
  .rw[if_neg h1];have a0:¬y.toList<x.toList:=by rw[Eo,Im] at h1;simpa using h1
   by_cases h2:KT y x=true
   .rw[if_pos h2];have e:y.toList=x.toList:=by simpa [KT] using h2
    refine⟨λz=>?_,λhp=>hp⟩;simp only[D7,List.map_cons,List.mem_cons];rw[e];constructor
    .exact .inl
    .grind
   .rw[if_neg h2];have e:y.toList≠x.toList:=by simpa [KT] using h2
    have lt:x.toList<y.toList:=by
     grind
    refine⟨λz=>?_,λhp=>?_⟩
    .simp only[D7,List.map_cons,List.mem_cons];constructor
     iterate 2 .grind
    .simp only[D7,List.map_cons] at hp ⊢
     refine List.pairwise_cons.2 ⟨λz hz=>?_,hp⟩;rcases List.mem_cons.1 hz with h|h
     .subst h;exact lt
     .exact YN lt ((List.pairwise_cons.1 hp).1 z h)
theorem Ka(b:List BA):∀a:List BA,(∀z,z∈D7 (T1 a b)↔z∈D7 a\/z∈D7 b)/\((D7 a).Pairwise (· < ·)->(D7 (T1 a b)).Pairwise (· < ·)):=by
 induction b with
 | nil=>intro a;exact⟨λz=>by simp[T1,D7],λh=>h⟩
 | cons x r ih =>
  intro a;obtain⟨im,ip⟩:=ih (V8 a x);obtain⟨jm,jp⟩:=QP a x;refine⟨λz=>?_,λh=>ip (jp h)⟩;have h1:=im z;have h2:=jm z;show z∈D7 (T1 (V8 a x) r)↔_
  rw[h1,h2];simp only[D7,List.map_cons,List.mem_cons];constructor
  .grind
  .grind
theorem QQ(zs:List T6)(hs:zs.Pairwise (·<=·)):∀m,m<=zs.length->(Lib.compactUpTo zs.toArray m).Pairwise (· < ·)/\(∀x,x∈Lib.compactUpTo zs.toArray m↔∃j,j<m/\zs[j]?=some x)/\(∀x∈Lib.compactUpTo zs.toArray m,∀y,zs[m-1]?=some y->x<=y):=by
 intro m;induction m with
 | zero=>intro _;simp[Lib.compactUpTo]
 | succ m ih =>
  intro hm;obtain⟨h1,h2,h3⟩:=ih oM;have a1:m<zs.length:=oM
  have hd:(zs.toArray)[m]! = zs[m]:=by simp[a1]
  rw[Lib.compactUpTo_succ,hd];by_cases hk:Lib.keeps zs.toArray m=true
  .rw[if_pos hk]
   have a3:∀x∈Lib.compactUpTo zs.toArray m,x<zs[m]:=by
    intro x hx;rcases C3 m with h0|h0
    .simp_all
    .have a0:m-1<zs.length:=oM
     have a4:=h3 x hx zs[m-1] (by simp[a0])
     have a6:zs[m]≠zs[m-1]:=by
      simp only[Lib.keeps,decide_eq_true_eq] at hk;rcases hk with hk|hk
      .omega
      .simp_all
     have a5:zs[m-1]<=zs[m]:=List.pairwise_iff_getElem.1 hs (m-1) m a0 a1 oM
     have a2:zs[m-1]<zs[m]:=by
      grind
     rcases YO.1 a4 with k|k
     .grind
     .rw[k];exact a2
   refine⟨List.pairwise_append.2 ⟨h1,dC,λx hx y hy=>by simp at hy;subst hy;exact a3 x hx⟩,λx=>?_,λx hx y hy=>?_⟩
   .grind
   .grind
  .rw[if_neg hk,List.append_nil]
   have h0:0<m:=by
    rcases C3 m with h|h
    .subst h;simp[Lib.keeps] at hk
    .exact h
   have a0:m-1<zs.length:=oM
   have he:zs[m]=zs[m-1]:=by
    simp only[Lib.keeps,decide_eq_true_eq,not_or,Decidable.not_not] at hk;have:=hk.2;simpa [a1,a0] using this
   refine⟨h1,λx=>?_,λx hx y hy=>?_⟩
   .grind
   .grind
def uniq(l:List T6):List T6:=Lib.compact (l.mergeSort λx y=>decide (x<=y))
theorem Dn(l:List T6):(uniq l).Pairwise (· < ·)/\∀x,x∈uniq l↔x∈l:=by
 have hs:(l.mergeSort λx y=>decide (x<=y)).Pairwise (·<=·):=by
  have:=List.pairwise_mergeSort (le:=λ(x y:T6)=>decide (x<=y)) (λa b c h k=>by
   simp only[decide_eq_true_eq] at *;exact List.le_trans h k) (λa b=>by
   simp only[Bool.or_eq_true,decide_eq_true_eq];exact List.le_total a b) l
  simpa using this
 obtain⟨h1,h2,_⟩:=QQ _ hs _ (A3 _);refine⟨h1,λx=>?_⟩;have:=h2 x;unfold uniq Lib.compact;rw[this];have hm:x∈(l.mergeSort λx y=>decide (x<=y))↔x∈l:=List.mem_mergeSort;rw[← hm,C5];constructor
 .grind
 .grind
section
variable {τ:Type}
def look(rows:List (BA×τ))(nm:BA)(d:τ):τ:=match rows.find? λr=>r.1.toList==nm.toList with
 | some r=>r.2
 | none=>d
def GP:BA:=⟨#[103,111,111,100]⟩
def Ep:BA:=⟨#[115,97,118,101,100]⟩
def AH:BA:=⟨#[115,99,114,97,112,112,101,100]⟩
def AR(fe:Int->τ):List (BA×τ):=[(GP,fe 1),(Ep,fe 2),(AH,fe 3)]
def fill(fe:Int->τ)(fp:Ph->τ->τ->τ)(d:τ):List Ph->List (BA×τ)
 | []=>AR fe
 | p::rest=>fill fe fp d rest++[(p.nm,fp p (look (fill fe fp d rest) p.t d) (look (fill fe fp d rest) p.e d))]
def O4(fe:Int->τ)(fp:Ph->τ->τ->τ)(d:τ):List Ph->BA->τ
 | [],nm=>if K1 nm=0 then d else fe (K1 nm)
 | p::rest,nm=>if (p.nm.toList==nm.toList)=true then fp p (O4 fe fp d rest p.t) (O4 fe fp d rest p.e) else O4 fe fp d rest nm
def Wv:List Ph->Prop
 | []=>True
 | p::rest=>K1 p.nm=0/\H7 rest p.nm=false/\Wv rest
theorem Mz(h:(a.toList==b.toList)=true):K1 a=K1 b:=by
 have e:a.toList=b.toList:=by simpa using h
 simp only[K1,e]
theorem Ww(h:(a.toList==b.toList)=true)(ps:List Ph):H7 ps a=H7 ps b:=by
 have e:a.toList=b.toList:=by simpa using h
 simp only[H7,e]
theorem TP(rows:List (BA×τ))(a nm:BA)(v d:τ):look (rows++[(a,v)]) nm d=if (rows.any λr=>r.1.toList==nm.toList)=true then look rows nm d else if (a.toList==nm.toList)=true then v else d:=by
 unfold look;rw[List.find?_append];cases h:rows.find? λr=>r.1.toList==nm.toList with
 | some r =>
  have:(rows.any λr=>r.1.toList==nm.toList)=true:=by
   grind
  simp[this]
 | none =>
  have:(rows.any λr=>r.1.toList==nm.toList)=false:=by
   grind
  by_cases ha:(a.toList==nm.toList)=true
  .simp[this,ha]
  .simp_all
def Gw(rows:List (BA×τ))(nm:BA)(k:Nat):Prop:=∀(j:Nat)(r:BA×τ),j<k->rows[j]?=some r->(r.1.toList==nm.toList)=false
theorem MA{rows:List (BA×τ)}(h:Gw rows nm k)(hk:k<rows.length)(hq:((rows[k]).1.toList==nm.toList)=false):Gw rows nm (k+1):=λj r hj hr=>by
 rcases Nat.lt_or_ge j k with h'|h'
 .exact h j r h' hr
 .grind
theorem QR{rows:List (BA×τ)}(d:τ)(h:Gw rows nm k)(hk:k<rows.length)(hq:((rows[k]).1.toList==nm.toList)=true):look rows nm d=(rows[k]).2:=by
 have:(rows.find? λr=>r.1.toList==nm.toList)=some rows[k]:=by
  rw[List.find?_eq_some_iff_getElem];exact⟨hq,k,hk,rfl,λj hj=>by simp[h j rows[j] hj (by simp[Nat.lt_trans hj hk])]⟩
 simp only[look,this]
theorem OM{rows:List (BA×τ)}(d:τ)(h:Gw rows nm k)(hk:¬k<rows.length):look rows nm d=d:=by
 have:(rows.find? λr=>r.1.toList==nm.toList)=none:=by
  rw[List.find?_eq_none];intro r hr;obtain⟨j,hj,rfl⟩:=B7 hr;simp[h j rows[j] oM (by simp[hj])]
 simp only[look,this]
theorem Bw(l:List UInt8):(⟨l.toArray⟩:BA).toList=l:=by
 simp_all
theorem YP(fe:Int->τ)(nm:BA):((AR fe).any λr=>r.1.toList==nm.toList)=(K1 nm != 0):=by
 have g:GP.toList=[103,111,111,100]:=Bw [103,111,111,100];have s:Ep.toList=[115,97,118,101,100]:=Bw [115,97,118,101,100];have c:AH.toList=[115,99,114,97,112,112,101,100]:=Bw [115,99,114,97,112,112,101,100];simp only[AR,List.any_cons,List.any_nil,g,s,c,K1,Bool.beq_comm (b:=nm.toList),Bool.or_false];split
 .simp[*]
 .grind
theorem Wx(fe:Int->τ)(nm:BA)(d:τ):look (AR fe) nm d=if K1 nm=0 then d else fe (K1 nm):=by
 have g:GP.toList=[103,111,111,100]:=Bw [103,111,111,100];have s:Ep.toList=[115,97,118,101,100]:=Bw [115,97,118,101,100];have c:AH.toList=[115,99,114,97,112,112,101,100]:=Bw [115,99,114,97,112,112,101,100];have hb:∀l:List UInt8,(l==nm.toList)=(nm.toList==l):=λl=>Bool.beq_comm;simp only[look,AR,List.find?_cons,g,s,c,hb,K1];by_cases h1:(nm.toList==[103,111,111,100])=true
 .simp[h1]
 .grind
theorem QS(fe:Int->τ)(fp:Ph->τ->τ->τ)(d:τ):∀(l:List Ph)(nm:BA),((fill fe fp d l).any λr=>r.1.toList==nm.toList)=(K1 nm != 0 || H7 l nm)
 | [],nm=>by rw[fill,YP];simp[H7]
 | p::rest,nm=>by
  rw[fill,List.any_append,QS fe fp d rest nm];simp only[List.any_cons,List.any_nil,Bool.or_false,H7,Bool.or_assoc];rw[Bool.or_comm (p.nm.toList==nm.toList)]
theorem LS(fe:Int->τ)(fp:Ph->τ->τ->τ)(d:τ):∀(l:List Ph)(nm:BA),H7 l nm=false->O4 fe fp d l nm=if K1 nm=0 then d else fe (K1 nm)
 | [],nm,_=>rfl
 | p::rest,nm,h=>by
  simp only[H7,List.any_cons,Bool.or_eq_false_iff] at h;rw[O4,if_neg (by simp[h.1])];exact LS fe fp d rest nm h.2
theorem Do(fe:Int->τ)(fp:Ph->τ->τ->τ)(d:τ):∀(l:List Ph),Wv l->∀nm,look (fill fe fp d l) nm d=O4 fe fp d l nm
 | [],_,nm=>by rw[fill,Wx,O4]
 | p::rest,hd,nm=>by
  obtain⟨h1,h2,h3⟩:=hd;have ih:=Do fe fp d rest h3;rw[fill,TP,QS,O4];by_cases he:(p.nm.toList==nm.toList)=true
  .have e1:K1 nm=0:=(Mz he).symm.trans h1;have e2:H7 rest nm=false:=(Ww he rest).symm.trans h2;simp[he,e1,e2,ih]
  .rw[if_neg he,if_neg he,ih nm];split
   .rfl
   .rename_i hn;simp only[Bool.not_eq_true,Bool.or_eq_false_iff,bne_eq_false_iff_eq] at hn;rw[LS fe fp d rest nm hn.2,if_pos hn.1]
theorem Dc(fe:Int->τ)(fp:Ph->τ->τ->τ)(d:τ):∀l:List Ph,(fill fe fp d l).length=l.length+3
 | []=>rfl
 | p::rest=>by rw[fill,A9,Dc fe fp d rest];simp only[List.length_cons,List.length_nil]
theorem Abh(fe:Int->τ)(fp:Ph->τ->τ->τ)(d:τ)(l:List Ph):0<(fill fe fp d l).length:=by rw[Dc];omega
theorem ON(fe:Int->τ)(fp:Ph->τ->τ->τ)(d:τ)(hm:m<ps.length):
  fill fe fp d (ps.drop m)=fill fe fp d (ps.drop (m+1))++[((ps[m]).nm,fp ps[m] (look (fill fe fp d (ps.drop (m+1))) (ps[m]).t d) (look (fill fe fp d (ps.drop (m+1))) (ps[m]).e d))]:=by
 rw[D2 hm];rfl
theorem EA(h:M3 ps=true):∀i,Wv (ps.drop i):=by
 obtain⟨_,_,ha⟩:=(J2 ps).1 h;suffices hh:∀n i,ps.length-i=n->Wv (ps.drop i) from λi=>hh _ i rfl
 intro n;induction n with
 | zero=>intro i hi;rw[List.drop_of_length_le oM];trivial
 | succ n ih =>
  intro i hn;have hi:i<ps.length:=oM
  have hs:=ha i ps[i] hi (by simp[hi]);rw[D2 hi];simp only[Al,Bool.and_eq_true,Bool.not_eq_true',Ph.okB,O7] at hs;refine⟨?_,hs.1.1.2,ih (i+1) oM⟩;simpa using hs.1.1.1.1.1.1.1.2
theorem LT(fe:Int->τ)(fp:Ph->τ->τ->τ)(d:τ):∀(l1 l2:List Ph)(nm:BA),H7 l1 nm=false->O4 fe fp d (l1++l2) nm=O4 fe fp d l2 nm
 | [],_,_,_=>rfl
 | p::rest,l2,nm,h=>by
  simp only[H7,List.any_cons,Bool.or_eq_false_iff] at h;rw[List.cons_append,O4,if_neg (by simp[h.1])];exact LT fe fp d rest l2 nm h.2
theorem QT(h:M3 ps=true)(hk:k<ps.length)(nm:BA)(hg:AP (ps.drop (k+1)) nm=true):H7 (ps.take (k+1)) nm=false:=by
 obtain⟨_,_,ha⟩:=(J2 ps).1 h;rw[← Bool.not_eq_true];intro hc;obtain⟨l,q,hq,he⟩:=(Cb _ _).1 hc;rw[List.getElem?_take] at hq;split at hq
 .rename_i hl;have a1:l<ps.length:=oM
  have hs:=ha l q a1 hq;simp only[Al,Bool.and_eq_true,Bool.not_eq_true',Ph.okB,O7] at hs;have h0:K1 q.nm=0:=by simpa using hs.1.1.1.1.1.1.1.2
  have hn:K1 nm=0:=(Mz he).symm.trans h0;simp only[AP,hn,bne_self_eq_false,Bool.false_or] at hg;obtain⟨j,r,hj,hr,a0⟩:=(Dk _ _ _).1 hg;have:H7 (ps.drop (l+1)) q.nm=true:=(Dk _ _ _).2 ⟨j,r,oM,hr,Wt a0 he⟩;rw[hs.1.1.2] at this;cases this
 .cases hq
theorem NT(h:M3 ps=true)(hk:k<ps.length):AP (ps.drop (k+1)) (ps[k]).t=true/\AP (ps.drop (k+1)) (ps[k]).e=true:=by
 obtain⟨_,_,ha⟩:=(J2 ps).1 h;have hs:=ha k ps[k] hk (by simp[hk]);simp only[Al,Bool.and_eq_true] at hs;exact⟨hs.1.2,hs.2⟩
theorem OO(h:M3 ps=true)(fe:Int->τ)(fp:Ph->τ->τ->τ)(d:τ)(hk:k<ps.length)(nm:BA)(hg:AP (ps.drop (k+1)) nm=true):O4 fe fp d ps nm=O4 fe fp d (ps.drop (k+1)) nm:=by
 have:=LT fe fp d (ps.take (k+1)) (ps.drop (k+1)) nm (QT h hk nm hg);rwa [List.take_append_drop] at this
theorem Gx(h:M3 ps=true)(hk:k<ps.length)(nm:BA)(hg:AP (ps.drop (k+1)) nm=true):M6 ps nm<0\/(k:Int)<M6 ps nm:=by
 rcases Dl ps nm with⟨_,ha⟩|⟨j,q,hq,he,ha,_⟩
 .left;rw[ha];omega
 .right
  rw[ha];rcases Nat.lt_or_ge k j with h'|h'
  .omega
  .have:H7 (ps.take (k+1)) nm=true:=(Cb _ _).2 ⟨j,q,by rw[List.getElem?_take,if_pos oM];exact hq,he⟩;rw[QT h hk nm hg] at this;cases this
theorem QU(h:M3 ps=true)(fe:Int->τ)(fp:Ph->τ->τ->τ)(d:τ)(nm:BA)(hk:k<ps.length)(ha:M6 ps nm=(k:Int)):
  O4 fe fp d ps nm=fp ps[k] (O4 fe fp d ps (ps[k]).t) (O4 fe fp d ps (ps[k]).e):=by
 obtain⟨g1,g2⟩:=NT h hk;rw[OO h fe fp d hk _ g1,OO h fe fp d hk _ g2];rcases Dl ps nm with⟨_,hn⟩|⟨j,q,hq,he,hj,hl⟩
 .omega
 .obtain rfl:j=k:=oM
  have a0:H7 (ps.take j) nm=false:=by
   rw[← Bool.not_eq_true];intro hc;obtain⟨l,r,hr,a1⟩:=(Cb _ _).1 hc;rw[List.getElem?_take] at hr;split at hr
   .grind
   .cases hr
  have h1:=LT fe fp d (ps.take j) (ps.drop j) nm a0;rw[List.take_append_drop] at h1;obtain⟨_,rfl⟩:=A2.1 hq;rw[h1,D2 hk,O4,if_pos he]
theorem NU(ps:List Ph)(fe:Int->τ)(fp:Ph->τ->τ->τ)(d:τ)(nm:BA)(ha:M6 ps nm<0):O4 fe fp d ps nm=if K1 nm=0 then d else fe (K1 nm):=by
 rcases Dl ps nm with⟨hn,_⟩|⟨j,q,hq,he,hj,hl⟩
 .exact LS fe fp d ps nm hn
 .omega
theorem MB(ps:List Ph)(nm:BA):M6 ps nm<(ps.length:Int):=by
 rcases Dl ps nm with⟨_,hn⟩|⟨j,q,hq,he,hj,hl⟩
 .omega
 .grind
end
end
section
open Go.RowKit
theorem sz0:(⟨#[]⟩:BA).size<=maxLen:=by unfold maxLen;decide
end
end Go.Proofs.YtaffjphkobhagaaGreatDoor
