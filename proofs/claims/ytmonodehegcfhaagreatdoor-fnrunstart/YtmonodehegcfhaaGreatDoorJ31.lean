/- What the specification's calls of chapter 23 have in common: their answers, short houses. -/
import Derived.Test.YtmonodehegcfhaaGreatDoorJ26
import Derived.Test.YtmonodehegcfhaaGreatDoorJ13
import Derived.Test.YtmonodehegcfhaaGreatDoorJ23
import Derived.Test.YtmonodehegcfhaaGreatDoorJ16
import Derived.Test.YtmonodehegcfhaaGreatDoorJ25
import Derived.Test.YtmonodehegcfhaaGreatDoorJ8
import Derived.Test.YtmonodehegcfhaaGreatDoorJ17
set_option maxRecDepth 100000
set_option maxHeartbeats 4000000
namespace Go.Proofs.YtmonodehegcfhaaGreatDoor
open Go.Proofs.Tryz
open Go.RowKit
variable{z:Ba}{b:Bk}{a nm:BA}{h h':House}{bs:List Ba}{ps:List Bv}{all l nj order ss ss' tg:List BA}{B G base i k:Nat}{p q:Option Nat}{x y:Rb}{bv dv tv u xv:Value}{w w':World}
def N9:House:=⟨0,0,S2,[],[]⟩
theorem KB(w:World):HV w N9 (Nz) (Nz) (Nz) (Nz) :=
 ⟨⟨none,0,rfl,by simp[N9,S2],λs hs=>(by simp[N9,S2] at hs),λh=>(by simp[N9,S2] at h)⟩,⟨none,0,rfl,by simp[N9,S2],λh=>(by simp[N9,S2] at h)⟩,⟨none,0,rfl,by simp[N9],λh=>(by simp[N9] at h)⟩,⟨none,0,rfl,by simp[N9],λh=>(by simp[N9] at h)⟩⟩
theorem F6.tiny(H:F6 h):T8 h.sh/\h.bs.length<=5/\h.ds.length<=20:=by
 obtain⟨-,h2,h3,h4,-⟩:=H;obtain⟨s1,s2,s3⟩:=An h3.book;exact⟨⟨by omega,by omega,λx hx=>by have:=s3 x hx;omega⟩,by rw[h4.1];exact s2,h2.1⟩
theorem F6.batch(H:F6 h)(hx:h.bs[i]?=some x):M0 x:=(H.2.2.2.2.1 i x (A3.1 hx).1 hx).1
def HX(w:World)(base:Nat)(h:House)(tv bv xv dv:Value):Prop:=HW w base h tv bv xv dv∨(h=N9/\tv=.slice none 0 0/\bv=.slice none 0 0/\xv=.slice none 0 0/\dv=.slice none 0 0)
theorem MH(w:World)(base:Nat):HX w base N9 (Nz) (Nz) (Nz) (Nz):=.inr ⟨rfl,rfl,rfl,rfl,rfl⟩
theorem HX.v(H:HX w base h tv bv xv dv):HV w h tv bv xv dv:=by
 rcases H with H|⟨rfl,rfl,rfl,rfl,rfl⟩
 ·exact H.v
 ·exact KB w
theorem HX.up(H:HX w base h tv bv xv dv)(hb:Up w w'):HX w' base h tv bv xv dv:=H.imp (λH=>H.up hb) λh=>h
theorem HX.gr{rb:Nat}(H:HX w base h tv bv xv dv)(hg:w.grownBy w' (some rb))(hr:rb<base):HX w' base h tv bv xv dv:=H.imp (λH=>H.gr hg hr) λh=>h
theorem HX.low{base':Nat}(H:HX w base h tv bv xv dv)(hb:base'<=base):HX w base' h tv bv xv dv:=H.imp (λH=>H.low hb) λh=>h
def Gl(h:House):Prop:=T8 h.sh/\h.bs.length<=1000/\h.ds.length<=1000
theorem Ln:Gl N9:=⟨Fp,by simp[N9],by simp[N9]⟩
theorem HW.since{g n cap:Nat}(H:HW w base h tv bv (Sz g n cap) dv)(hx:h.bs[k]?=some x)(s:Int):
  HW (w.setCell ⟨g,k*6+4,none⟩ (Iz s)) base {h with bs:=h.bs.set k {x with si:=s}} tv bv (Sz g n cap) dv:=by
 obtain⟨ps,h1,h2⟩:=H.x;have a0:=hx;rw[← h2,B1,B6] at a0;obtain⟨⟨y,ru,su⟩,hp,e⟩:=a0;obtain rfl:y=x:=e;have hg:w.grownBy (w.setCell ⟨g,k*6+4,none⟩ (Iz s)) (Vz (some ⟨g,0,none⟩) n cap).ownBlock:=E1 (E2 _ _) _;exact⟨H.k.step h1.1 (by decide) (by decide) hg,H.z,⟨_,h1.put (y:={y with si:=s}) hp (by omega) rfl rfl rfl rfl,by rw[List.map_set,h2]⟩,H.d.step h1.1 (by decide) hg⟩
theorem HW.as(H:HW w base h tv bv xv dv)(h1:h'.sh=h.sh)(h2:h'.bs=h.bs)(h3:h'.ds=h.ds):HW w base h' tv bv xv dv :=
 ⟨by rw[h1];exact H.k,by rw[h1];exact H.z,by rw[h2];exact H.x,by rw[h3];exact H.d⟩
theorem HW.xb(H:HW w base h tv bv xv dv):∀k,xv.ownBlock=some k->base<=k:=λk e=>by
 obtain⟨ps,h1,-⟩:=H.x;exact (h1.1.lt k e).1
theorem HW.db(H:HW w base h tv bv xv dv):∀k,dv.ownBlock=some k->base<=k:=λk e=>by
 obtain⟨g,cap,pre,rfl,h1,-⟩:=H.d;exact (h1.lt k e).1
theorem Gm(h:w.grownBy w' p)(hB:B<=w.heap.size)(hp:∀k,p=some k->B<=k):Below B w w' :=
 ⟨h.os,h.tape,h.output,h.size,λk hk=>h.block k (A2 hk hB) (λe=>by have:=hp k e.symm;omega)⟩
def L3(h:House)(nm:BA)(ps:List Ph)(sl:List Sl):Rb:=⟨nm,ps,sl,I0 ps,-1,h.last+1⟩
def Cy(nm:BA)(ps:List Ph)(sl:List Sl):Prop:=P3 ps=true/\N7 ps sl/\G0 nm=true
noncomputable def T4(h:House)(nm:BA)(ps:List Ph)(sl:List Sl):Int:=N6 h.sh nm (G8 (L3 h nm ps sl) (I0 ps))
noncomputable def As(h:House)(nm:BA)(ps:List Ph)(sl:List Sl):House:={h with last:=h.last+1,sh:=K3 h.sh nm (G8 (L3 h nm ps sl) (I0 ps)),bs:=h.bs++[L3 h nm ps sl]}
def AX(h:House)(nm:BA)(ps:List Ph)(sl:List Sl)(cd:Int)(h':House):Prop :=
 (¬F6 h/\cd=1/\h'=N9)∨(F6 h/\¬Cy nm ps sl/\cd=2/\h'=h)∨
 (F6 h/\Cy nm ps sl/\T4 h nm ps sl≠0/\cd=T4 h nm ps sl/\h'=h)∨
 (F6 h/\Cy nm ps sl/\T4 h nm ps sl=0/\1000000<=h.last/\cd=4/\h'=h)∨
 (F6 h/\Cy nm ps sl/\T4 h nm ps sl=0/\¬1000000<=h.last/\cd=0/\S3 (As h nm ps sl) (As h nm ps sl).bs.length h')
theorem UM{ps:List Ph}(h:P3 ps=true):∀p∈ps,1<=p.wi/\p.wi<=1000:=by
 obtain⟨_,_,ha⟩:=(M3 ps).1 h;intro p hp;obtain⟨i,hi,rfl⟩:=B7 hp;have hs:=ha i ps[i] hi (by simp[hi]);simp only[Be,Bool.and_eq_true,Ph.okB,V9,Ai,decide_eq_true_eq] at hs;exact hs.1.1.1.1.1.1.2
end Go.Proofs.YtmonodehegcfhaaGreatDoor
namespace Go.Proofs.YtmonodehegcfhaaGreatDoor
open Go.Proofs.Tryz
variable{z:Ba}{b:Bk}{a nm:BA}{h h':House}{bs:List Ba}{ps:List Bv}{all l nj order ss ss' tg:List BA}{B G base i k:Nat}{p q:Option Nat}{x y:Rb}{bv dv tv u xv:Value}{w w':World}
theorem PD:Ad l↔l.Pairwise (λa b=>T6 a b=true):=by
 rw[List.pairwise_iff_getElem];constructor
 ·intro h i j hi hj hij;exact Ca h (j-i-1) i _ _ (A0 hi) (by rw[show i+1+(j-i-1)=j by omega];exact A0 hj)
 ·intro h i a b hi ha hb;obtain⟨h1,rfl⟩:=A3.1 ha;obtain⟨h2,rfl⟩:=A3.1 hb;exact h i (i+1) h1 h2 (by omega)
theorem Ns:Dc l↔∀s∈l,G0 s=true :=
 ⟨λh _ hs=>TA h hs,λh _ _ _ ha=>h _ (A7 ha)⟩
theorem PF:BZ l all↔∀s∈l,s∈all :=
 ⟨λh _ hs=>FQ h hs,λh _ _ _ ha=>(S5 _ _).2 (h _ (A7 ha))⟩
theorem RN:AW tg bs bs.length↔∀x∈bs,FR tg x:=by
 constructor
 ·intro h x hx;obtain⟨i,hi,rfl⟩:=B7 hx;exact h.at hi hi
 ·exact λh i x _ hx=>h x (A7 hx)
theorem PG:Cp bs↔bs.Pairwise (λy x=>O2 x.has y.has=false):=by
 rw[List.pairwise_iff_getElem];constructor
 ·exact λh i j hi hj hij=>h.at hj hij
 ·intro h i j x y hji hi hx hy;obtain⟨h1,rfl⟩:=A3.1 hx;obtain⟨h2,rfl⟩:=A3.1 hy;exact h j i h2 h1 hji
theorem UN{b:BA}(h:T6 a b=false)(hne:a≠b):T6 b a=true:=by
 rw[Hu];have h1:¬a.toList<b.toList:=by rw[← Hu,h];simp
 refine Classical.byContradiction λh2=>hne (CL ?_);exact List.le_antisymm (List.not_lt.1 h2) (List.not_lt.1 h1)
theorem RO{α:Type}(p:α->Bool):∀l:List α,l.take (l.takeWhile p).length=l.takeWhile p
 | []=>rfl
 | x::r=>by
  rw[List.takeWhile_cons];split
  ·simp[RO p r]
  ·rfl
theorem UO{α:Type}(p:α->Bool):∀(l:List α)(x:α),x∈l.takeWhile p->p x=true
 | [],x,h=>by simp at h
 | y::r,x,h=>by
  rw[List.takeWhile_cons] at h;cases hy:p y
  ·rw[hy] at h;simp at h
  ·rw[hy] at h;rcases List.mem_cons.1 (by simpa using h) with rfl|h
   ·exact hy
   ·exact UO p r x h
theorem RP{α:Type}(p:α->Bool):∀l:List α,∀x r,l.drop (l.takeWhile p).length=x::r->p x=false
 | [],x,r,h=>by simp at h
 | y::r,x,r',h=>by
  rw[List.takeWhile_cons] at h;cases hy:p y
  ·rw[hy] at h;simp at h;rw[← h.1];exact hy
  ·rw[hy] at h;simp at h;exact RP p r x r' h
theorem WL(hok:J1 b)(hn:G0 nm=true)(hp:I4 nj b.tg)(hm:E3 (G7 b.bs) nm=false)(h5:b.bs.length<5):J1 ⟨b.tg,b.bs.take (U3 b nm)++⟨nm,[],nj⟩::b.bs.drop (U3 b nm)⟩:=by
 obtain⟨g1,g2,g3,g4,g5,g6⟩:=hok;have a2:∀x∈b.bs,x.nm≠nm:=λx hx e=>(U6 _ _).1 hm (by rw[← e];exact List.mem_map.2 ⟨x,hx,rfl⟩)
 have a0:∀x:Ba,x∈b.bs.take (U3 b nm)++(⟨nm,[],nj⟩:Ba)::b.bs.drop (U3 b nm)->x∈b.bs∨x=⟨nm,[],nj⟩:=λx hx=>by
  rcases D0.1 hx with h|h
  ·exact .inl (List.mem_of_mem_take h)
  ·rcases List.mem_cons.1 h with h|h
   ·exact .inr h
   ·exact .inl (List.mem_of_mem_drop h)
 have a3:∀x∈b.bs.take (U3 b nm),T6 x.nm nm=true:=λx hx=>by
  rw[U3,RO] at hx;exact UO _ _ x hx
 have a4:(b.bs.take (U3 b nm)++b.bs.drop (U3 b nm)).Pairwise (λa c=>T6 a.nm c.nm=true):=by
  rw[List.take_append_drop];have:=PD.1 g4;rwa [G7,List.pairwise_map] at this
 obtain⟨p1,p2,p3⟩:=List.pairwise_append.1 a4
 have a1:∀x∈b.bs.drop (U3 b nm),T6 nm x.nm=true:=by
  cases hd:b.bs.drop (U3 b nm) with
  | nil=>intro x hx;simp at hx
  | cons y r =>
   have hy:T6 y.nm nm=false:=RP (λx:Ba=>T6 x.nm nm) b.bs y r hd;have a5:y∈b.bs:=List.mem_of_mem_drop (by rw[hd];exact List.mem_cons_self);have h0:=UN hy (a2 y a5);rw[hd] at p2;intro x hx;rcases List.mem_cons.1 hx with rfl|hx
   ·exact h0
   ·exact DS h0 ((List.pairwise_cons.1 p2).1 x hx)
 refine⟨g1,?_,Ns.2 λs hs=>?_,PD.2 ?_,RN.2 λx hx=>?_,PG.2 ?_⟩
 ·show List.length (_++_::_)<=5
  rw[B0,List.length_cons,B8,A9];omega
 ·obtain⟨x,hx,rfl⟩:=List.mem_map.1 hs;rcases a0 x hx with h|rfl
  ·exact Ns.1 g3 _ (List.mem_map.2 ⟨x,h,rfl⟩)
  ·exact hn
 ·show (G7 (_++_::_)).Pairwise _
  rw[G7,List.pairwise_map,List.pairwise_append,List.pairwise_cons];refine⟨p1,⟨a1,p2⟩,λx hx y hy=>?_⟩;rcases List.mem_cons.1 hy with rfl|hy
  ·exact a3 x hx
  ·exact p3 x hx y hy
 ·rcases a0 x hx with h|rfl
  ·exact RN.1 g5 x h
  ·exact⟨hp,PF.2 λs hs=>by simp at hs,PD.2 List.Pairwise.nil⟩
 ·have h8:=PG.1 g6;rw[← List.take_append_drop (U3 b nm) b.bs,List.pairwise_append] at h8;show (_++_::_).Pairwise _
  rw[List.pairwise_append,List.pairwise_cons];refine⟨h8.1,⟨λx _=>?_,h8.2.1⟩,λx hx y hy=>?_⟩
  ·rw[Z9];exact λs _ hs=>by simp at hs
  ·rcases List.mem_cons.1 hy with rfl|hy
   ·rw[Z9];exact λs hs=>by simp at hs
   ·exact h8.2.2 x hx y hy
theorem UP(x:Ba):x∈b.bs.take k++z::b.bs.drop k↔x∈b.bs∨x=z:=by
 rw[D0,List.mem_cons];conv=>rhs;rw[← List.take_append_drop k b.bs,D0]
 constructor
 ·rintro (h|h|h)
  ·exact .inl (.inl h)
  ·exact .inr h
  ·exact .inl (.inr h)
 ·rintro ((h|h)|h)
  ·exact .inl h
  ·exact .inr (.inr h)
  ·exact .inr (.inl h)
theorem UQ(h:Ld b order):BW b:=by
 obtain⟨ss,hg⟩:=Um h;exact⟨ss,.inl ⟨rfl,h.1,hg⟩⟩
theorem UR(h:BW b):∃order,Ld b order:=by
 obtain⟨ss,h⟩:=h;exact⟨ss,SA h⟩
theorem EL(hok:J1 b){x:Ba}(hx:x∈b.bs):P5 b x.nm=x:=by
 obtain⟨i,hi,rfl⟩:=B7 hx;exact Kv hok.2.2.2.1 hi rfl
theorem Me(hc:N6 b nm nj=0):J1 b/\G0 nm=true/\I4 nj b.tg/\E3 (G7 b.bs) nm=false/\b.bs.length<5/\K3 b nm nj=⟨b.tg,b.bs.take (U3 b nm)++⟨nm,[],nj⟩::b.bs.drop (U3 b nm)⟩:=by
 cases hb:K4 b
 ·rw[(Lg hb).1] at hc;omega
 cases h2:(G0 nm&&pB (I4 nj b.tg))
 ·rw[(Gx hb h2).1] at hc;omega
 have h3:E3 (G7 b.bs) nm=false:=by
  cases h3:E3 (G7 b.bs) nm
  ·rfl
  ·rw[(GW hb h2 h3).1] at hc;omega
 by_cases h4:5<=b.bs.length
 ·rw[(IF hb h2 h3 h4).1] at hc;omega
 have h5:=h2;rw[Bool.and_eq_true] at h5;exact⟨Ab hb,h5.1,K5.1 h5.2,h3,by omega,(JU hb h2 h3 h4).2⟩
theorem US(hs:BW b)(hc:N6 b nm nj=0):BW (K3 b nm nj):=by
 obtain⟨a1,hn,hp,hm,h5,he⟩:=Me hc;obtain⟨o,hf⟩:=UR hs;obtain⟨-,a2⟩:=LT.1 hf;have a0:∀x∈b.bs,x.nm≠nm:=λx hx e=>(U6 _ _).1 hm (by rw[← e];exact List.mem_map.2 ⟨x,hx,rfl⟩);rw[he];exact UQ (LT.2 ⟨WL a1 hn hp hm h5,Wp (z:=⟨nm,[],nj⟩) rfl (λx=>UP x) a0 a2⟩)
theorem Ji{α:Type}{l:List α}{a b:α}(h:(l++[a])[i]?=some b):l[i]?=some b∨(i=l.length/\b=a):=by
 rcases Nat.lt_trichotomy i l.length with h1|h1|h1
 ·rw[List.getElem?_append_left h1] at h;exact .inl h
 ·subst h1;simp at h;exact .inr ⟨rfl,h.symm⟩
 ·rw[C8 (by omega)] at h;have h2:([a]:List α)[i-l.length]?=none:=by rw[List.getElem?_eq_none_iff];simp;omega
  rw[h2] at h;cases h
theorem SM(H:F6 h)(hx:M0 x)(hst:x.st=h.last+1)(hl:h.last+1<=1000000)(hsi:x.si=-1)(hc:N6 h.sh x.nm (G8 x x.ad)=0):
  F6 {h with last:=h.last+1,sh:=K3 h.sh x.nm (G8 x x.ad),bs:=h.bs++[x]}:=by
 obtain⟨a5,hn,hp,hm,h5,he⟩:=Me hc;obtain⟨g1,g2,g3,g4,g5,g6,g7⟩:=H;have hs:=US g3 hc;generalize K3 h.sh x.nm (G8 x x.ad)=b' at he hs ⊢
 have hb:=hs.book;have a0:∀z,z∈b'.bs↔z∈h.sh.bs∨z=⟨x.nm,[],G8 x x.ad⟩:=λz=>by rw[he];exact UP z
 have a2:∀y∈h.bs,P5 b' y.nm=P5 h.sh y.nm:=λy hy=>by
  have h1:y.nm∈G7 h.sh.bs:=g4.2.2 _ (List.mem_map.2 ⟨y,hy,rfl⟩);obtain⟨z,hz,e⟩:=List.mem_map.1 h1;have e':z.nm=y.nm:=e;rw[← e',EL a5 hz,EL hb ((a0 z).2 (.inl hz))]
 have a4:P5 b' x.nm=⟨x.nm,[],G8 x x.ad⟩:=EL hb ((a0 _).2 (.inr rfl));refine⟨⟨g1.1,g1.2.1,by show 0<=h.last+1;have:=g1.2.2.1;omega,hl⟩,g2,hs,⟨?_,?_,?_⟩,?_,?_,?_⟩
 ·show (h.bs++[x]).length=b'.bs.length
  rw[he];have:=g4.1;show (h.bs++[x]).length=List.length (_++_::_)
  simp only[B0,List.length_cons,List.length_nil,B8,A9];omega
 ·show (K1 (h.bs++[x])).Nodup
  rw[K1,List.map_append,List.nodup_append];refine⟨g4.2.1,by simp,λa ha c hc' e=>(U6 _ _).1 hm ?_⟩;have:c=x.nm:=by simpa using hc'
  rw[← this,← e];exact g4.2.2 a ha
 ·intro s a3;have a3:s∈K1 (h.bs++[x]):=a3;rw[K1,List.map_append,D0] at a3;show s∈G7 b'.bs
  rcases a3 with h1|h1
  ·obtain⟨z,hz,e⟩:=List.mem_map.1 (g4.2.2 s h1);exact List.mem_map.2 ⟨z,(a0 z).2 (.inl hz),e⟩
  ·have e:s=x.nm:=by simpa using h1
   exact List.mem_map.2 ⟨_,(a0 _).2 (.inr rfl),e.symm⟩
 ·intro i y _ hy;have hy:(h.bs++[x])[i]?=some y:=hy;rcases Ji hy with h1|⟨h1,rfl⟩
  ·have hi:=(A3.1 h1).1;obtain⟨k1,k2,k3⟩:=g5 i y hi h1;refine⟨k1,by show y.st<=h.last+1;omega,λj p hj a1=>k3 j p hj ?_⟩;have a1:(h.bs++[x])[j]?=some p:=a1;rwa [List.getElem?_append_left (by omega)] at a1
  ·refine⟨hx,by show y.st<=h.last+1;omega,λj p hj a1=>?_⟩;have a1:(h.bs++[y])[j]?=some p:=a1;rw[List.getElem?_append_left (by omega)] at a1;have:=(g5 j p (by omega) a1).2.1;omega
 ·intro i y _ hy;have hy:(h.bs++[x])[i]?=some y:=hy;show (P5 b' y.nm).nj=_
  rcases Ji hy with h1|⟨h1,rfl⟩
  ·rw[a2 y (A7 h1)];exact g6 i y (A3.1 h1).1 h1
  ·rw[a4]
 ·intro i y _ hy h0;have hy:(h.bs++[x])[i]?=some y:=hy;show BZ _ (P5 b' y.nm).has
  rcases Ji hy with h1|⟨h1,rfl⟩
  ·rw[a2 y (A7 h1)];exact g7 i y (A3.1 h1).1 h1 h0
  ·omega
theorem UT(l:List BA)(x:BA):x∈M7 l x/\∀s∈l,s∈M7 l x:=by
 induction l with
 | nil=>exact⟨by simp[M7],λs hs=>by simp at hs⟩
 | cons y r ih =>
  rw[M7];split
  ·exact⟨C7 _ ih.1,λs hs=>by
    rcases List.mem_cons.1 hs with rfl|hs
    ·exact List.mem_cons_self
    ·exact C7 _ (ih.2 s hs)⟩
  ·split
   ·rename_i h2;have:y=x:=CL (by simpa [Iv] using h2);exact⟨by rw[this];exact List.mem_cons_self,λs hs=>hs⟩
   ·exact⟨List.mem_cons_self,λs hs=>C7 _ hs⟩
theorem SN(tg:List BA):∀has:List BA,(∀s∈has,s∈T7 has tg)/\∀s∈tg,s∈T7 has tg:=by
 induction tg with
 | nil=>exact λhas=>⟨λs hs=>hs,λs hs=>by simp at hs⟩
 | cons t r ih =>
  intro has;obtain⟨h1,h2⟩:=ih (M7 has t);obtain⟨k1,k2⟩:=UT has t;refine⟨λs hs=>h1 s (k2 s hs),λs hs=>?_⟩;rcases List.mem_cons.1 hs with rfl|hs
  ·exact h1 _ k1
  ·exact h2 s hs
theorem XW(hok:J1 b)(hm:E3 (G7 b.bs) nm=true){f:Ba->Ba}(hf:∀x:Ba,(f x).nm=x.nm)(hb:J1 (Bd b (L1 b nm) f)):
  G7 (Bd b (L1 b nm) f).bs=G7 b.bs/\P5 (Bd b (L1 b nm) f) nm=f (P5 b nm)/\∀s∈G7 b.bs,s≠nm->P5 (Bd b (L1 b nm) f) s=P5 b s:=by
 obtain⟨hi,a0⟩:=Dx hm;have hx:=A0 a0
 have a1:(b.bs[L1 b nm]).nm=nm:=by
  obtain⟨k,hk,a5,a2⟩:=Ia (l:=G7 b.bs) (s:=nm) (by omega);have:k=L1 b nm:=by omega
  subst this;rw[Au _ _ a0] at a2;exact a2
 rw[Ih hx] at hb ⊢
 have a4:P5 b nm=b.bs[L1 b nm]:=Kv hok.2.2.2.1 a0 a1;refine⟨?_,?_,λs hs hne=>?_⟩
 ·show G7 (b.bs.set _ _)=_
  rw[G7,G7,List.map_set];apply List.ext_getElem? λi=>?_
  rw[List.getElem?_set];split
  ·rename_i e;subst e;simp[a0,hf]
  ·rfl
 ·have h1:f (b.bs[L1 b nm])∈(b.bs.set (L1 b nm) (f (b.bs[L1 b nm]))):=List.mem_set a0 _;have h2:=EL hb h1;rw[hf,a1] at h2;rw[h2,a4]
 ·obtain⟨z,hz,e⟩:=List.mem_map.1 hs;have e':z.nm=s:=e;obtain⟨i,a3,rfl⟩:=B7 hz;have a6:i≠L1 b nm:=λe2=>hne (by subst e2;rw[← e',a1]);have h1:b.bs[i]∈(b.bs.set (L1 b nm) (f (b.bs[L1 b nm]))):=A7 (i:=i) (by rw[List.getElem?_set_ne (by omega)];exact A0 a3);rw[← e',EL hok hz];exact EL hb h1
theorem XX(h:M0 x)(hw:1<=(AF x.ps x.ad).wi):M0 {x with si:=0} :=
 ⟨h.1,h.2.1,h.2.2.1,h.2.2.2.1,h.2.2.2.2.1,by show (-1:Int)<=0;omega,by show (0:Int)<(AF x.ps x.ad).wi;omega⟩
theorem Oa(h:M0 x)(h':M0 y)(e1:y.sl=x.sl)(e2:y.ps=x.ps)(nm:BA):G8 y nm=G8 x nm:=by
 unfold G8;rw[if_pos (L9 h),if_pos (L9 h'),e1,e2]
theorem SO(h:M0 x)(h':M0 y)(e1:y.sl=x.sl)(e2:y.ps=x.ps)(e3:y.ad=x.ad):K7 y=K7 x:=by
 unfold K7;rw[if_pos (L9 h),if_pos (L9 h'),e1,e2,e3]
theorem GJ{α:Type}{l:List α}{a b:α}(h:(l.set k a)[i]?=some b):(i≠k/\l[i]?=some b)∨(i=k/\b=a):=by
 rw[List.getElem?_set] at h;split at h
 ·rename_i e;split at h
  ·exact .inr ⟨e.symm,(A6 h).symm⟩
  ·cases h
 ·rename_i e;exact .inl ⟨λe'=>e e'.symm,h⟩
theorem UU(H:F6 h)(hx:h.bs[k]?=some x)(hw:1<=(AF x.ps x.ad).wi)(hs:BW (Bd h.sh (L1 h.sh x.nm) (U1 (K7 x)))):
  F6 {h with sh:=Bd h.sh (L1 h.sh x.nm) (U1 (K7 x)),bs:=h.bs.set k {x with si:=0}}:=by
 obtain⟨g1,g2,g3,g4,g5,g6,g7⟩:=H;have a0:=(A3.1 hx).1;have a2:=(g5 k x a0 hx).1;have hy:=XX a2 hw;have a8:x∈h.bs:=A7 hx;have a9:x.nm∈G7 h.sh.bs:=g4.2.2 _ (List.mem_map.2 ⟨x,a8,rfl⟩);obtain⟨c1,c2,c3⟩:=XW g3.book ((S5 _ _).2 a9) (f:=U1 (K7 x)) (λ_=>rfl) hs.book;generalize Bd h.sh (L1 h.sh x.nm) (U1 (K7 x))=b' at hs c1 c2 c3 ⊢
 have hr:K1 (h.bs.set k {x with si:=0})=K1 h.bs:=by
  rw[K1,K1,List.map_set];apply List.ext_getElem? λi=>?_
  rw[List.getElem?_set];split
  ·rename_i e;subst e;simp[a0,(A3.1 hx).2]
  ·rfl
 have a4:∀(i:Nat)(y:Rb),i≠k->h.bs[i]?=some y->y.nm≠x.nm:=λi y hi hy' e=>by
  have a3:=(A3.1 hy').1;have hp:=List.pairwise_iff_getElem.1 g4.2.1;have e1:(K1 h.bs)[i]'(by rw[AK];exact a3)=y.nm:=by simp only[K1,List.getElem_map];rw[(A3.1 hy').2]
  have e2:(K1 h.bs)[k]'(by rw[AK];exact a0)=x.nm:=by simp only[K1,List.getElem_map];rw[(A3.1 hx).2]
  rcases Nat.lt_trichotomy i k with h1|h1|h1
  ·exact hp i k (by rw[AK];exact a3) (by rw[AK];exact a0) h1 (by rw[e1,e2];exact e)
  ·exact hi h1
  ·exact hp k i (by rw[AK];exact a0) (by rw[AK];exact a3) h1 (by rw[e1,e2];exact e.symm)
 have a5:∀(i:Nat)(y:Rb),h.bs[i]?=some y->y.nm∈G7 h.sh.bs:=λi y hy'=>g4.2.2 _ (List.mem_map.2 ⟨y,A7 hy',rfl⟩);refine⟨g1,g2,hs,⟨?_,by show (K1 _).Nodup;rw[hr];exact g4.2.1,?_⟩,?_,?_,?_⟩
 ·show (h.bs.set k _).length=b'.bs.length
  rw[List.length_set,g4.1];have:=congrArg List.length c1;rw[L8,L8] at this;exact this.symm
 ·show ∀s∈K1 (h.bs.set k _),s∈G7 b'.bs
  rw[hr,c1];exact g4.2.2
 ·intro i y _ hy'
  have a1:∀(j:Nat)(p:Rb),(h.bs.set k {x with si:=0})[j]?=some p->∃q,h.bs[j]?=some q/\p.st=q.st:=λj p hp=>by
   rcases GJ hp with⟨-,h1⟩|⟨rfl,rfl⟩
   ·exact⟨p,h1,rfl⟩
   ·exact⟨x,hx,rfl⟩
  obtain⟨q,hq,eq⟩:=a1 i y hy';obtain⟨k1,k2,k3⟩:=g5 i q (A3.1 hq).1 hq;refine⟨?_,by rw[eq];exact k2,λj p hj hp=>?_⟩
  ·rcases GJ hy' with⟨-,h1⟩|⟨-,rfl⟩
   ·rw[hq] at h1;obtain rfl:=A6 h1;exact k1
   ·exact hy
  ·obtain⟨q2,a6,a7⟩:=a1 j p hp;rw[eq,a7];exact k3 j q2 hj a6
 ·intro i y _ hy';show (P5 b' y.nm).nj=_
  rcases GJ hy' with⟨hi,h1⟩|⟨-,rfl⟩
  ·rw[c3 _ (a5 i y h1) (a4 i y hi h1)];exact g6 i y (A3.1 h1).1 h1
  ·show (P5 b' x.nm).nj=G8 _ x.ad
   rw[c2,Oa a2 hy rfl rfl];exact g6 k x a0 hx
 ·intro i y _ hy' h0;show BZ _ (P5 b' y.nm).has
  rcases GJ hy' with⟨hi,h1⟩|⟨-,rfl⟩
  ·rw[c3 _ (a5 i y h1) (a4 i y hi h1)];exact g7 i y (A3.1 h1).1 h1 h0
  ·show BZ _ (P5 b' x.nm).has
   rw[c2,SO a2 hy rfl rfl rfl];exact PF.2 λs hs'=>(SN _ _).2 s hs'
end Go.Proofs.YtmonodehegcfhaaGreatDoor
namespace Go.Proofs.YtmonodehegcfhaaGreatDoor
open Go.Proofs.Tryz
open Go.RowKit
variable{z:Ba}{b:Bk}{a nm:BA}{h h':House}{bs:List Ba}{ps:List Bv}{all l nj order ss ss' tg:List BA}{B G base i k:Nat}{p q:Option Nat}{x y:Rb}{bv dv tv u xv:Value}{w w':World}
theorem KC:∀(qs:List Bv)(k:Nat)(p:Bv),qs[k]?=some p->(N0 qs).Perm ((p.2.1,p.1.has)::(p.2.2,p.1.nj)::N0 (qs.eraseIdx k))
 | [],_,_,h=>by simp at h
 | q::r,0,p,h=>by
  obtain rfl:q=p:=by simpa using h
  simp[N0]
 | q::r,k+1,p,h=>by
  have ih:=KC r k p (by simpa using h);simp only[N0,List.eraseIdx_cons_succ];refine ((ih.cons _).cons _).trans ?_;exact (List.perm_append_comm (l₁:=[(q.2.1,q.1.has),(q.2.2,q.1.nj)]) (l₂:=[(p.2.1,p.1.has),(p.2.2,p.1.nj)])).append_right (N0 (r.eraseIdx k))
theorem SP{α:Type}(t a b:α)(l:List α):(t::a::b::l).Perm (a::b::t::l):=(List.perm_append_comm (l₁:=[t]) (l₂:=[a,b])).append_right l
theorem L7.front{t:Value×List BA}{p:Bv}(h:L7 w B q (t::N0 ps))(hp:ps[k]?=some p):L7 w B q ((p.2.1,p.1.has)::(p.2.2,p.1.nj)::t::N0 (ps.eraseIdx k)) :=
 h.perm (((KC ps k p hp).cons t).trans (SP _ _ _ _))
theorem L7.back{t:Value×List BA}{p:Bv}(h:L7 w B q ((p.2.1,p.1.has)::(p.2.2,p.1.nj)::t::N0 (ps.eraseIdx k)))(hk:k<ps.length):L7 w B q (t::N0 (ps.set k p)):=by
 refine h.perm (List.Perm.symm ?_);have h1:=KC (ps.set k p) k p (by rw[C9 hk]);rw[List.eraseIdx_set_eq] at h1;exact (h1.cons t).trans (SP _ _ _ _)
theorem L7.over{fs:List (Value×List BA)}(h:L7 w B (some G) ((u,ss)::fs))(hG:G<w.heap.size)(hg:w.grownBy w' u.ownBlock)(hu:F7 w' B u ss'):L7 w' B (some G) ((u,ss')::fs) :=
 h.app hg hu (λ_ hg=>.inl hg) (λ_ h=>by cases h;exact hG)
theorem L7.off{fs:List (Value×List BA)}(h:L7 w B (some G) ((u,ss)::fs))(hG:G<w.heap.size)(hg:w.grownBy w' u.ownBlock):w'.heap[G]?=w.heap[G]? :=
 hg.block G hG (λe=>h.av _ List.mem_cons_self G e.symm rfl)
def RQ(w:World)(base:Nat)(q:Option Nat)(v:Value)(b:Bk):Prop:=∃a1 c1 a2 c2 ps,v=.agg #[.slice a1 b.tg.length c1,.slice a2 b.bs.length c2]/\Bq w base (.slice a2 b.bs.length c2) ps/\ps.map (·.1)=b.bs/\L7 w base q ((.slice a1 b.tg.length c1,b.tg)::N0 ps)/\∀g,(Value.slice a2 b.bs.length c2).ownBlock=some g->some g≠q
theorem S4.off{v:Value}(h:S4 w base v b)(hG:w.heap.size<=G):RQ w base (some G) v b:=by
 obtain⟨a1,c1,a2,c2,ps,e,h1,h2,h3⟩:=h;refine⟨a1,c1,a2,c2,ps,e,h1,h2,h3.avoid hG,λg hg e=>?_⟩;have:=(h1.1.lt g hg).2;obtain rfl:=A6 e;omega
theorem RQ.free{v:Value}(h:RQ w base q v b):S4 w base v b:=by
 obtain⟨a1,c1,a2,c2,ps,e,h1,h2,h3,-⟩:=h;exact⟨a1,c1,a2,c2,ps,e,h1,h2,h3.free⟩
theorem RQ.up{v:Value}(h:RQ w base q v b)(hb:Up w w'):RQ w' base q v b:=by
 obtain⟨a1,c1,a2,c2,ps,e,h1,h2,h3,h4⟩:=h;exact⟨a1,c1,a2,c2,ps,e,h1.up hb,h2,h3.up hb,h4⟩
end Go.Proofs.YtmonodehegcfhaaGreatDoor
namespace Go.Proofs.YtmonodehegcfhaaGreatDoor
open Go.Proofs.Tryz
open Go.RowKit Go.Maps
variable{z:Ba}{b:Bk}{a nm:BA}{h h':House}{bs:List Ba}{ps:List Bv}{all l nj order ss ss' tg:List BA}{B G base i k:Nat}{p q:Option Nat}{x y:Rb}{bv dv tv u xv:Value}{w w':World}
theorem Lo{b:BA}(h:a=b):Ending.returned (Tz a)=.returned (Tz b):=by rw[h]
theorem XY(b:Bk)(v:Value)(s:BA)(w:World)(h:Q6 w v b)(hs:s.size<=maxLen):
  Calls prog 259 #[v,Tz s] w λe w'=>e=.returned (Tz (JH b s))/\Up w w':=by
 obtain⟨a1,c1,a2,c2,rfl,h1,h2⟩:=h.parts;have hC:CB (w.alloc (Kz [Vz a1 (b).tg.length c1,Vz a2 (b).bs.length c2] 26)) w.heap.size [Vz a1 b.tg.length c1,Vz a2 b.bs.length c2]:=F3 w _ _;have a0:=(A5 w.heap.size w).alloc (A4 _) (Kz [Vz a1 (b).tg.length c1,Vz a2 (b).bs.length c2] 26);go_in;go_upto_region 1 with fail;generalize w.alloc (Kz [Vz a1 (b).tg.length c1,Vz a2 (b).bs.length c2] 26)=W1 at *;have l2:=h2.up a0;have hk:=h.up a0;clear h h1 h2;obtain⟨e0,e1⟩:=hC.c2';have b0:=hC.2.2;go_wp2_with fail;refine (IA b _ _ hk).mono ?_;rintro e w2 ⟨rfl,a7⟩;cases hq:K4 b
 ·have Hq:Hid (JH b s=⟨#[]⟩):=by show _=_;rw[JH,hq];rfl
  go_wp2_with fail;go_ret;exact⟨Lo Hq.out.symm,D5 a0 a7⟩
 have Hq:Hid (JH b s=Dq b.bs s):=by show _=_;rw[JH,if_pos hq]
 have a5:J1 b:=K5.1 hq;have h8:=Rp a5.1.1 a5.2.2.2.2.1;have h5:=a5.2.1;have hA:=a5.2.2.2.2.2;clear a5 hq;have f1:=(a7.cell (p:=⟨w.heap.size,1,none⟩) b0).trans e1;go_wp2_with fail;refine (KI b.bs _ _ (l2.up a7) h5 h8).mono ?_;rintro e w3 ⟨hh,b1⟩;have a8:=D5 a7 b1;rcases hh with⟨-,M,n,D,rfl,hmap,hD,-⟩|⟨hN,-⟩
 case inr=>exact absurd hA hN
 clear f1 b1 a7;have a6:keyOf prog 9 (Tz s)=some (kl s):=WideMaps.keyOf_string_mk underlying9 hs;have f1:=(a8.cell (p:=⟨w.heap.size,1,none⟩) b0).trans e1;cases ht:Maps.has D (kl s)
 ·have Hm:Hid (JH b s=⟨#[]⟩):=by show _=_;rw[Hq.out];exact hD.whoNone (by omega) ht
  go_wp2_with (at_lookup;refine wpList_lookup_own_ok_int _ rfl _ _ 262 rfl 9 3 .i64 JK underlying262 underlying3 (Ks _) M n D rfl hmap _ _ rfl a6 ?_;intro cc _ _)
  go_ret;exact⟨Lo Hm.out.symm,D5 a0 a8⟩
 ·obtain⟨i,hi,hz,hw⟩:=hD.who ht;have Hm:Hid (JH b s=(b.bs[i]).nm):=by show _=_;rw[Hq.out];exact hw
  have Hz:Hid (∀cc:Int,D.atKey (kl s) (.lit (.int .i64 0))=.lit (.int .i64 cc)->cc=(i:Int)):=λcc h=>by
   rw[hz] at h;simpa using h.symm
  obtain⟨-,a9⟩:=l2.at;obtain⟨bb,o,rfl,hS,hb⟩:=a9 (by omega);obtain⟨a3,d3,a4,d4,c3,c4,c5,-,-,-⟩:=((hS.at hi).up a8 hb).cells;generalize b.bs[i]=x0 at *;clear hS hz hw hD Hq;go_wp2_with (at_lookup;refine wpList_lookup_own_ok_int _ rfl _ _ 262 rfl 9 3 .i64 JK underlying262 underlying3 (Ks _) M n D rfl hmap _ _ rfl a6 ?_;intro cc hcc _;obtain rfl:=Hz.out cc hcc;clear hcc)
  go_ret;exact⟨Lo Hm.out.symm,D5 a0 a8⟩
end Go.Proofs.YtmonodehegcfhaaGreatDoor
namespace Go.Proofs.YtmonodehegcfhaaGreatDoor
open Go.Proofs.Tryz
open Go.RowKit
variable{z:Ba}{b:Bk}{a nm:BA}{h h':House}{bs:List Ba}{ps:List Bv}{all l nj order ss ss' tg:List BA}{B G base i k:Nat}{p q:Option Nat}{x y:Rb}{bv dv tv u xv:Value}{w w':World}
theorem XZ(l:List Ph)(a:Option Addr)(c:Nat)(w:World)(hn:l.length<=1048576)(h:0<l.length->∃b o,a=some ⟨b,o,none⟩/\∀(i:Nat)(x:Ph),l[i]?=some x->w.rangeAt b (o+i*8) (Ph.cells x)):
  Calls prog 130 #[Vz a l.length c] w λe w'=>(∃u,e=.returned u/\w'.ownsRow w.heap.size 43 8 u l.length (F8 Ph.cells l))/\Up w w':=by
 obtain⟨ii,hi,a0,a2,a3⟩:=info_parts RI;have ho:w.ownsRow w.heap.size 43 8 (Nz) 0 []:=B9 _ _ _ _
 have a4:0<l.length->∃d:Addr,a=some d/\∀(j:Nat)(u:Value),(F8 Ph.cells l)[j]?=some u->w.cell? (d.add j)=some u:=λhp=>by
  obtain⟨b,o,rfl,hr⟩:=h hp;exact⟨_,rfl,CW (by decide) Em hr⟩
 have hl:=O4 Em l;have h1:=YE l;generalize F8 Ph.cells l=rs at *;clear h;go_in;go_wp2_with (at_builtin;refine AR _ rfl _ _ 31 rfl w.heap.size 43 ii _ 8 104 underlying31 hi a0 a2 a3 rfl (by decide) (Nz) _ _ rfl ho a l.length c rs rfl hl a4 h1 (by unfold maxLen;omega) (by omega) (A4 _) ?_)
 intro v1 W1 ho1 hgr _;have hB:=M1 (A5 _ _) ho hgr (A4 _);obtain⟨a1,c1,rfl⟩:=I7 ho1;go_wp2_with fail;go_ret;exact⟨⟨_,rfl,ho1⟩,hB⟩
theorem Ya(l:List Sl)(a:Option Addr)(c:Nat)(w:World)(hn:l.length<=1048576)(h:0<l.length->∃b o,a=some ⟨b,o,none⟩/\∀(i:Nat)(x:Sl),l[i]?=some x->w.rangeAt b (o+i*2) (Sl.cells x)):
  Calls prog 131 #[Vz a l.length c] w λe w'=>(∃u,e=.returned u/\w'.ownsRow w.heap.size 58 2 u l.length (F8 Sl.cells l))/\Up w w':=by
 obtain⟨ii,hi,a0,a2,a3⟩:=info_parts Ii;have ho:w.ownsRow w.heap.size 58 2 (Nz) 0 []:=B9 _ _ _ _
 have a4:0<l.length->∃d:Addr,a=some d/\∀(j:Nat)(u:Value),(F8 Sl.cells l)[j]?=some u->w.cell? (d.add j)=some u:=λhp=>by
  obtain⟨b,o,rfl,hr⟩:=h hp;exact⟨_,rfl,CW (by decide) Z3 hr⟩
 have hl:=O4 Z3 l;have h1:=Xo l;generalize F8 Sl.cells l=rs at *;clear h;go_in;go_wp2_with (at_builtin;refine AR _ rfl _ _ 32 rfl w.heap.size 58 ii _ 2 32 underlying32 hi a0 a2 a3 rfl (by decide) (Nz) _ _ rfl ho a l.length c rs rfl hl a4 h1 (by unfold maxLen;omega) (by omega) (A4 _) ?_)
 intro v1 W1 ho1 hgr _;have hB:=M1 (A5 _ _) ho hgr (A4 _);obtain⟨a1,c1,rfl⟩:=I7 ho1;go_wp2_with fail;go_ret;exact⟨⟨_,rfl,ho1⟩,hB⟩
theorem MI(l:List K0)(a:Option Addr)(c:Nat)(w:World)(hn:l.length<=1048576)(h:0<l.length->∃b o,a=some ⟨b,o,none⟩/\∀(i:Nat)(x:K0),l[i]?=some x->w.rangeAt b (o+i*3) (K0.cells x)):
  Calls prog 162 #[Vz a l.length c] w λe w'=>(∃u,e=.returned u/\w'.ownsRow w.heap.size 74 3 u l.length (F8 K0.cells l))/\Up w w':=by
 obtain⟨ii,hi,a0,a2,a3⟩:=info_parts KA;have ho:w.ownsRow w.heap.size 74 3 (Nz) 0 []:=B9 _ _ _ _
 have a4:0<l.length->∃d:Addr,a=some d/\∀(j:Nat)(u:Value),(F8 K0.cells l)[j]?=some u->w.cell? (d.add j)=some u:=λhp=>by
  obtain⟨b,o,rfl,hr⟩:=h hp;exact⟨_,rfl,CW (by decide) U4 hr⟩
 have hl:=O4 U4 l;have h1:=FG l;generalize F8 K0.cells l=rs at *;clear h;go_in;go_wp2_with (at_builtin;refine AR _ rfl _ _ 28 rfl w.heap.size 74 ii _ 3 32 underlying28 hi a0 a2 a3 rfl (by decide) (Nz) _ _ rfl ho a l.length c rs rfl hl a4 h1 (by unfold maxLen;omega) (by omega) (A4 _) ?_)
 intro v1 W1 ho1 hgr _;have hB:=M1 (A5 _ _) ho hgr (A4 _);obtain⟨a1,c1,rfl⟩:=I7 ho1;go_wp2_with fail;go_ret;exact⟨⟨_,rfl,ho1⟩,hB⟩
theorem Nt(x:Rb)(rv sv:Value)(w:World)(H:T1 w x rv sv)(hp:0<x.ps.length)(hs:0<x.sl.length):
  Calls prog 74 #[.agg #[Tz x.nm,rv,sv,Tz x.ad,Iz x.si,Iz x.st]] w λe w'=>(∃ru su,e=.returned (.agg #[Tz x.nm,ru,su,Tz x.ad,Iz x.si,Iz x.st])/\Z5 w' w.heap.size (x,ru,su))/\Up w w':=by
 have b5:=H.np;have b6:=H.ns;have Hz:Hid (Dd x.ps/\(∀y∈x.sl,y.s.size<=maxLen/\y.t.size<=maxLen)/\x.nm.size<=maxLen):=⟨H.zp,H.zs,H.zn⟩;obtain⟨b,o,c,rfl,hr,hb,-,-⟩:=H.r;obtain⟨g,q,d,rfl,b3,hg⟩:=H.s;clear H;obtain⟨W1,b4,kA,kR,a5,c5⟩:=cbE2 w [Tz x.nm,Sy b o x.ps.length c,Sy g q x.sl.length d,Tz x.ad,Iz x.si,Iz x.st] 40 [Ez,Nz,Nz,Ez,Iz 0,Iz 0] 40;have b7:=hr.up a5 hb;have a3:=b3.up a5 hg;clear hr b3;go_in;go_upto_region 1 with fail;try rw[b4]
 clear b4;obtain⟨-,e1,-,-,-,-⟩:=kA.c6;go_upto_region 2 with (go_at_call 130;refine (XZ x.ps _ c W1 b5 (λ_=>⟨b,o,rfl,b7⟩)).mono ?_;rintro e w2 ⟨⟨u1,rfl,b1⟩,a1⟩;obtain⟨g1,m1,rfl⟩:=I6 b1 hp;have a6:=kA.up a1 kA.2.2;clear e1;obtain⟨-,e1,-,-,-,-⟩:=a6.c6;obtain⟨-,f1,-,-,-,-⟩:=a6.f6)
 clear e1 f1 b7;have c7:=a1.size;have a0:w2.grownBy (w2.setCell ⟨w.heap.size,1,none⟩ (Sz g1 x.ps.length m1)) (some w.heap.size):=E1 (E2 _ _) _;have a7:CB (w2.setCell ⟨w.heap.size,1,none⟩ (Sz g1 x.ps.length m1)) w.heap.size [Tz x.nm,Sz g1 x.ps.length m1,Sy g q x.sl.length d,Tz x.ad,Iz x.si,Iz x.st]:=a6.set (j:=1) (by simp);have a8:=(kR.up a1 kR.2.2).kept a0 (by simp);have b8:=F2 b1 a0 (by omega);have b9:Up w (w2.setCell ⟨w.heap.size,1,none⟩ (Sz g1 x.ps.length m1)):=(D5 a5 a1).setCell (A4 _) _;have a4:DK (w2.setCell ⟨w.heap.size,1,none⟩ (Sz g1 x.ps.length m1)) g q x.sl:=λi y hy j v hv=>a0.cell ((a3.up a1 (by omega)) i y hy j v hv) (by simp;omega);clear kA kR a6 b1 a1 a5 a0 a3;generalize w2.setCell ⟨w.heap.size,1,none⟩ (Sz g1 x.ps.length m1)=W3 at *;obtain⟨-,-,e2,-,-,-⟩:=a7.c6;go_upto_region 3 with (go_at_call 131;refine (Ya x.sl _ d W3 b6 (λ_=>⟨g,q,rfl,a4⟩)).mono ?_;rintro e w4 ⟨⟨u2,rfl,b2⟩,a2⟩;obtain⟨g2,m2,rfl⟩:=I6 b2 hs;have a9:=a7.up a2 a7.2.2;clear e2;obtain⟨-,-,e2,-,-,-⟩:=a9.c6;obtain⟨-,-,f2,-,-,-⟩:=a9.f6)
 clear e2 f2 a4;have c8:=a8.2.2;have c9:=a2.size;have a0:w4.grownBy (w4.setCell ⟨w.heap.size,2,none⟩ (Sz g2 x.sl.length m2)) (some w.heap.size):=E1 (E2 _ _) _;have c1:CB (w4.setCell ⟨w.heap.size,2,none⟩ (Sz g2 x.sl.length m2)) w.heap.size [Tz x.nm,Sz g1 x.ps.length m1,Sz g2 x.sl.length m2,Tz x.ad,Iz x.si,Iz x.st]:=a9.set (j:=2) (by simp);have b0:=(a8.up a2 a8.2.2).kept a0 (by simp);have c2:=F2 (E4 b8 a2) a0 (by omega);have c3:=F2 b2 a0 (by omega);have c4:Up w (w4.setCell ⟨w.heap.size,2,none⟩ (Sz g2 x.sl.length m2)):=(D5 b9 a2).setCell (A4 _) _;clear a7 a8 a9 b8 b2 a2 b9 a0;generalize w4.setCell ⟨w.heap.size,2,none⟩ (Sz g2 x.sl.length m2)=W5 at *;obtain⟨e0,e1,e2,e3,e4,e5⟩:=c1.c6;obtain⟨y0,y1,y2,y3,y4,y5⟩:=b0.c6;obtain⟨f0,f1,f2,f3,f4,f5⟩:=b0.f6;go_wp2_with fail;refine N8 results74 underlying40 rfl BF b0 rfl ?_;have c0:=G3 W5 (w.heap.size+1) (Tz x.nm) (Sz g1 x.ps.length m1) (Sz g2 x.sl.length m2) (Tz x.ad) (Iz x.si) (Iz x.st);exact⟨⟨_,_,rfl,⟨I8 (F2 c2 c0 (by omega)) (by omega),I8 (F2 c3 c0 (by omega)) (by omega),⟨_,_,_,rfl⟩,⟨_,_,_,rfl⟩,Hz.out.1,Hz.out.2.1,Hz.out.2.2,b5,b6⟩⟩,I9 c4 (by omega) _ _ _ _ _ _⟩
end Go.Proofs.YtmonodehegcfhaaGreatDoor
