/- What the row's list gives: the table of the ends' names; a world for the witness. -/
import Derived.Test.YtebfdccbmmpceaaGreatDoorJ0
import Derived.Test.YtebfdccbmmpceaaGreatDoorRows
import Derived.ProofKit
import Derived.OpenShut
import Derived.OpenVars
import Derived.LaidLaws
import Derived.Lib.LaidTab
import Derived.ChangeBears2
import Derived.Deep.DeepHandedRow
import Derived.Laws.Strings
import Derived.Maps.Views
namespace Go.Proofs.YtebfdccbmmpceaaGreatDoor
open Go.ChangeShapes Go.WideShapes Go.ChangeAt Go.RowKit
theorem gN:Tryz.prog.globalNamed "loop.example/maltrun/impl.recEndNames"=some 1:=by kernel_rfl
theorem gNType:(Tryz.prog.globals[1]?).map (·.type)=some 209:=by kernel_rfl
theorem Akz:Tryz.prog.cellsOf 209=3:=by kernel_rfl
def cells3:Array Value:=#[.string ⟨#[103,111,111,100]⟩,.string ⟨#[115,97,118,101,100]⟩,.string ⟨#[115,99,114,97,112,112,101,100]⟩]
theorem Agc {W:World} (h:laidMet Tryz.prog [("loop.example/maltrun/impl.recEndNames",Rows.laid_loop_example_maltrun_impl_recEndNames)] W):W.var? Tryz.prog "loop.example/maltrun/impl.recEndNames"=some cells3:=by
 obtain⟨ps,⟨g,t,cs,fuel,p,q,hg,ht,hvar,hd,_,_⟩,_⟩:=h;obtain rfl:=A5 (gN.symm.trans hg);obtain rfl:=A5 (gNType.symm.trans ht);rw[hvar];congr 1
 obtain⟨l⟩:=cs;cases fuel with
 | zero=>simp[DataW.trod] at hd
 | succ fuel =>
  simp only[DataW.trod,Tryz.underlying209,Akz,O9] at hd;split at hd
  ·rename_i hl
   obtain⟨c0,c1,c2,rfl⟩:∃c0 c1 c2,l=[c0,c1,c2]:=by
    match l,hl with
    | [a,b,c],_=>exact⟨a,b,c,rfl⟩
   have e:List.range 3=[0,1,2]:=rfl;rw[e] at hd;simp only[B5,List.mapM_cons,List.mapM_nil,Option.bind_eq_bind,Option.bind_eq_some_iff,Option.pure_def,Option.some.injEq] at hd;obtain⟨xs,⟨y0,h0,_,⟨y1,h1,_,⟨y2,h2,_,rfl,rfl⟩,rfl⟩,rfl⟩,hx⟩:=hd;obtain⟨n0,rfl,rfl,_⟩:=J9 h0;obtain⟨n1,rfl,rfl,_⟩:=J9 h1;obtain⟨n2,rfl,rfl,_⟩:=J9 h2;simp[Rows.laid_loop_example_maltrun_impl_recEndNames] at hx;obtain⟨⟨e0,e1,e2⟩,_⟩:=hx;rw[Aca e0,Aca e1,Aca e2];rfl
  ·cases hd
theorem Ends.of_laid {W:World} (h:laidMet Tryz.prog [("loop.example/maltrun/impl.recEndNames",Rows.laid_loop_example_maltrun_impl_recEndNames)] W):Ends W:=by
 have hv:=Agc h;have hc:=λi=>World.var?_cell gN hv i;refine⟨hc 0,hc 1,hc 2,?_⟩;rcases Nat.lt_or_ge 1 W.heap.size with h'|h'
 ·exact h'
 ·unfold World.var? at hv
  rw[gN] at hv;simp only[Option.bind_some] at hv;rw[Array.getElem?_eq_none h'] at hv;cases hv
noncomputable def laidWorld (os:Os):World :=
 {World.holding Tryz.prog os ⟨#[],#[],[]⟩ with heap:=(World.holding Tryz.prog os ⟨#[],#[],[]⟩).heap.modify 1 fun
   | .cells _ t frozen=>.cells cells3 t frozen
   | o=>o}
end Go.Proofs.YtebfdccbmmpceaaGreatDoor
namespace Go.Proofs.YtebfdccbmmpceaaGreatDoor
structure Ba where
 nm:ByteArray
 has:List ByteArray
 needs:List ByteArray
structure Bk where
 things:List ByteArray
 bs:List Ba
noncomputable def pB (p:Prop):Bool:=@decide p (Classical.propDecidable p)
theorem I7 {p:Prop} (h:p):pB p=true:=by unfold pB;simp[h]
theorem F3 {p:Prop} (h:¬p):pB p=false:=by unfold pB;simp[h]
theorem F8 {p:Prop}:pB p=true↔p:=by unfold pB;simp
theorem J4 {p:Prop}:pB p=false↔¬p:=by unfold pB;simp
def ltS (a b:ByteArray):Bool:=Op.bytesLess a.toList b.toList
def memS (l:List ByteArray) (s:ByteArray):Bool:=l.any λx=>x.toList==s.toList
def shareB (a b:List ByteArray):Bool:=a.any λs=>memS b s
theorem Aac {a b:ByteArray} (h:a.toList=b.toList):a=b:=by
 rw[Go.ByteArray.toList_eq,Go.ByteArray.toList_eq] at h;cases a;cases b;simp at h;rw[h]
theorem K1 (l:List ByteArray) (s:ByteArray):memS l s=true↔s∈l:=by
 simp only[memS,List.any_eq_true,beq_iff_eq];constructor
 ·rintro⟨x,hx,h⟩;rwa [← Aac h]
 ·exact λh=>⟨s,h,rfl⟩
theorem S3 (l:List ByteArray) (s:ByteArray):memS l s=false↔s∉l:=by rw[← K1];simp
theorem Acb (a b:List ByteArray):shareB a b=true↔∃s,s∈a/\s∈b:=by
 simp only[shareB,List.any_eq_true,K1]
theorem N9 (a b:List ByteArray):shareB a b=false↔∀s,s∈a->s∉b:=by
 rw[← Bool.not_eq_true,Acb];simp
theorem Aa6 {l:List ByteArray} {s:ByteArray} {k:Nat} (hk:k<l.length) (h:memS (l.take k) s=false) (hq:((l[k]).toList==s.toList)=false):memS (l.take (k+1)) s=false:=by
 rw[A7 hk,memS,List.any_append];rw[memS] at h;simp[h,hq]
theorem Acc {l:List ByteArray} {s:ByteArray} {k:Nat} (hk:k<l.length) (hq:((l[k]).toList==s.toList)=true):memS l s=true:=by
 rw[memS,List.any_eq_true];exact⟨l[k],List.getElem_mem hk,hq⟩
theorem AaZ {l:List ByteArray} {s:ByteArray} {k:Nat} (hk:¬k<l.length) (h:memS (l.take k) s=false):memS l s=false:=by
 rwa [D3 (by omega)] at h
theorem Ahx {a b:List ByteArray} {k:Nat} (hk:k<a.length) (h:shareB (a.take k) b=false) (hq:memS b a[k]=false):shareB (a.take (k+1)) b=false:=by
 rw[A7 hk,shareB,List.any_append];rw[shareB] at h;simp[h,hq]
theorem Agd {a b:List ByteArray} {k:Nat} (hk:k<a.length) (hq:memS b a[k]=true):shareB a b=true:=by
 rw[shareB,List.any_eq_true];exact⟨a[k],List.getElem_mem hk,hq⟩
theorem AiY {a b:List ByteArray} {k:Nat} (hk:¬k<a.length) (h:shareB (a.take k) b=false):shareB a b=false:=by
 rwa [D3 (by omega)] at h
def AscTo (l:List ByteArray) (k:Nat):Prop:=∀(i:Nat) (a b:ByteArray),i+1<k->l[i]?=some a->l[i+1]?=some b->ltS a b=true
def NamesTo (l:List ByteArray) (k:Nat):Prop:=∀(i:Nat) (a:ByteArray),i<k->l[i]?=some a->nameB a=true
def PartTo (l all:List ByteArray) (k:Nat):Prop:=∀(i:Nat) (a:ByteArray),i<k->l[i]?=some a->memS all a=true
def Asc (l:List ByteArray):Prop:=AscTo l l.length
def Names (l:List ByteArray):Prop:=NamesTo l l.length
def Part (l all:List ByteArray):Prop:=PartTo l all l.length
def PartOk (l all:List ByteArray):Prop:=Part l all/\Asc l
def ThingsOk (l:List ByteArray):Prop:=l.length<=8/\Names l/\Asc l
theorem AscTo.zero (l:List ByteArray):AscTo l 0:=λi _ _ h=>by omega
theorem AscTo.one (l:List ByteArray):AscTo l 1:=λi _ _ h=>by omega
theorem NamesTo.zero (l:List ByteArray):NamesTo l 0:=λi _ h=>by omega
theorem PartTo.zero (l all:List ByteArray):PartTo l all 0:=λi _ h=>by omega
theorem AscTo.step {l:List ByteArray} {k:Nat} (h:AscTo l (k+1)) (hk:k+1<l.length) (hl:ltS l[k] l[k+1]=true):AscTo l (k+2):=λi a b hi ha hb=>by
 by_cases e:i=k
 ·subst e
  rw[A0 (by omega)] at ha hb;obtain rfl:=A5 ha;obtain rfl:=A5 hb;exact hl
 ·exact h i a b (by omega) ha hb
theorem NamesTo.step {l:List ByteArray} {k:Nat} (h:NamesTo l k) (hk:k<l.length) (hl:nameB l[k]=true):NamesTo l (k+1):=λi a hi ha=>by
 by_cases e:i=k
 ·subst e
  rw[A0 hk] at ha;obtain rfl:=A5 ha;exact hl
 ·exact h i a (by omega) ha
theorem PartTo.step {l all:List ByteArray} {k:Nat} (h:PartTo l all k) (hk:k<l.length) (hl:memS all l[k]=true):PartTo l all (k+1):=λi a hi ha=>by
 by_cases e:i=k
 ·subst e
  rw[A0 hk] at ha;obtain rfl:=A5 ha;exact hl
 ·exact h i a (by omega) ha
theorem Adu {l:List ByteArray} {k:Nat} (h:AscTo l k) (hk:¬k<l.length):Asc l:=λi a b hi ha hb=>h i a b (by omega) ha hb
theorem AcP {l:List ByteArray} {k:Nat} (h:NamesTo l k) (hk:¬k<l.length):Names l:=λi a hi ha=>h i a (by omega) ha
theorem AdI {l all:List ByteArray} {k:Nat} (h:PartTo l all k) (hk:¬k<l.length):Part l all:=λi a hi ha=>h i a (by omega) ha
theorem Age {l:List ByteArray} (h:Asc l) {k:Nat} (hk:k+1<l.length):ltS l[k] l[k+1]=true:=h k _ _ hk (by rw[A0]) (by rw[A0])
theorem Agf {l:List ByteArray} (h:Names l) {k:Nat} (hk:k<l.length):nameB l[k]=true:=h k _ hk (by rw[A0])
theorem Adv {l all:List ByteArray} (h:Part l all) {k:Nat} (hk:k<l.length):memS all l[k]=true:=h k _ hk (by rw[A0])
theorem Acd {l all:List ByteArray} (h:Part l all) {s:ByteArray} (hs:s∈l):s∈all:=by
 obtain⟨i,hi,rfl⟩:=B6 hs;exact (K1 _ _).1 (Adv h hi)
def BaOk (things:List ByteArray) (x:Ba):Prop:=PartOk x.needs things/\PartOk x.has x.needs
def BasTo (things:List ByteArray) (bs:List Ba) (k:Nat):Prop:=∀(i:Nat) (x:Ba),i<k->bs[i]?=some x->BaOk things x
def ApartTo (bs:List Ba) (n m:Nat):Prop:=∀(i j:Nat) (x y:Ba),j<i->(i<n∨i=n/\j<m)->bs[i]?=some x->bs[j]?=some y->shareB x.has y.has=false
def nms (bs:List Ba):List ByteArray:=bs.map (·.nm)
def Apart (bs:List Ba):Prop:=ApartTo bs bs.length 0
def BookOk (b:Bk):Prop:=ThingsOk b.things/\b.bs.length<=5/\Names (nms b.bs)/\Asc (nms b.bs)/\BasTo b.things b.bs b.bs.length/\Apart b.bs
noncomputable def bookB (b:Bk):Bool:=pB (BookOk b)
theorem I6 (bs:List Ba):(nms bs).length=bs.length:=by simp[nms]
theorem Q9 (bs:List Ba) (k:Nat) (hk:k<bs.length):(nms bs)[k]'(by rw[I6];exact hk)=(bs[k]).nm:=by simp[nms]
theorem Agg (bs:List Ba) (k:Nat):nms (bs.take k)=(nms bs).take k:=by simp[nms]
theorem BasTo.zero (things:List ByteArray) (bs:List Ba):BasTo things bs 0:=λi _ h=>by omega
theorem BasTo.step {things:List ByteArray} {bs:List Ba} {k:Nat} (h:BasTo things bs k) (hk:k<bs.length) (hl:BaOk things bs[k]):BasTo things bs (k+1):=λi a hi ha=>by
 by_cases e:i=k
 ·subst e
  rw[A0 hk] at ha;obtain rfl:=A5 ha;exact hl
 ·exact h i a (by omega) ha
theorem BasTo.at {things:List ByteArray} {bs:List Ba} {n k:Nat} (h:BasTo things bs n) (hn:k<n) (hk:k<bs.length):BaOk things bs[k]:=h k _ hn (by rw[A0])
theorem Ai0 {things:List ByteArray} {bs:List Ba} {k:Nat} (h:BasTo things bs k) (hk:¬k<bs.length):BasTo things bs bs.length:=λi a hi ha=>h i a (by omega) ha
theorem ApartTo.zero (bs:List Ba):ApartTo bs 0 0:=λi j _ _ _ h=>by omega
theorem ApartTo.step {bs:List Ba} {n m:Nat} (h:ApartTo bs n m) (hn:n<bs.length) (hm:m<n) (hq:shareB (bs[n]).has (bs[m]).has=false):ApartTo bs n (m+1):=λi j x y hji hi hx hy=>by
 by_cases e:i=n/\j=m
 ·obtain⟨rfl,rfl⟩:=e
  rw[A0 (by omega)] at hx hy;obtain rfl:=A5 hx;obtain rfl:=A5 hy;exact hq
 ·exact h i j x y hji (by omega) hx hy
theorem ApartTo.next {bs:List Ba} {n m:Nat} (h:ApartTo bs n m) (hm:¬m<n):ApartTo bs (n+1) 0:=λi j x y hji hi hx hy=>h i j x y hji (by omega) hx hy
theorem Ak0 {bs:List Ba} {n:Nat} (h:ApartTo bs n 0) (hn:¬n<bs.length):Apart bs:=λi j x y hji hi hx hy=>h i j x y hji (by
 have:=(A2.1 hx).1;omega) hx hy
theorem Apart.at {bs:List Ba} (h:Apart bs) {n m:Nat} (hn:n<bs.length) (hm:m<n):shareB (bs[n]).has (bs[m]).has=false:=h n m _ _ hm (by omega) (by rw[A0]) (by rw[A0])
def whoB (bs:List Ba) (s:ByteArray):ByteArray:=((bs.find? λx=>memS x.has s).map (·.nm)).getD ⟨#[]⟩
noncomputable def whoS (b:Bk) (s:ByteArray):ByteArray:=if bookB b=true then whoB b.bs s else ⟨#[]⟩
def FreeTo (bs:List Ba) (s:ByteArray) (k:Nat):Prop:=∀(i:Nat) (x:Ba),i<k->bs[i]?=some x->memS x.has s=false
theorem Ai1 {bs:List Ba} {s:ByteArray} {k:Nat} (hk:k<bs.length) (h:FreeTo bs s k) (hl:memS (bs[k]).has s=true):whoB bs s=(bs[k]).nm:=by
 have:bs.find? (λx=>memS x.has s)=some bs[k]:=by
  rw[List.find?_eq_some_iff_getElem];exact⟨hl,k,hk,rfl,λj hj=>by rw[h j _ hj (by rw[A0 (by omega)])];rfl⟩
 rw[whoB,this];rfl
theorem Ak1 {bs:List Ba} {s:ByteArray} {k:Nat} (hk:¬k<bs.length) (h:FreeTo bs s k):whoB bs s=⟨#[]⟩:=by
 have:bs.find? (λx=>memS x.has s)=none:=by
  rw[List.find?_eq_none];intro x hx;obtain⟨i,hi,rfl⟩:=B6 hx;rw[h i _ (by omega) (by rw[A0])];simp
 rw[whoB,this];rfl
def idxI (l:List ByteArray) (s:ByteArray):Int:=if memS l s=true then (l.findIdx λx=>x.toList==s.toList:Nat) else -1
theorem V0 {l:List ByteArray} {s:ByteArray} {k:Nat} (hk:k<l.length) (h:memS (l.take k) s=false) (hq:((l[k]).toList==s.toList)=true):idxI l s=(k:Int):=by
 have hf:l.findIdx (λx=>x.toList==s.toList)=k:=by
  rw[List.findIdx_eq hk];refine⟨hq,λj hj=>?_⟩;rw[memS,List.any_eq_false] at h;have:=h (l[j]) (by rw[List.mem_take_iff_getElem];exact⟨j,by omega,rfl⟩);simpa using this
 rw[idxI,if_pos (Acc hk hq),hf]
theorem O5 {l:List ByteArray} {s:ByteArray} (h:memS l s=false):idxI l s=-1:=by rw[idxI,h];simp
theorem AdJ (l:List ByteArray) (s:ByteArray):decide (0<=idxI l s)=memS l s:=by
 cases h:memS l s
 ·rw[O5 h];rfl
 ·rw[idxI,if_pos h];simp
theorem Ace (a b:List UInt8):(a==b)=(b==a):=by
 rw[Bool.eq_iff_iff,beq_iff_eq,beq_iff_eq];exact eq_comm
end Go.Proofs.YtebfdccbmmpceaaGreatDoor
namespace Go.Proofs.YtebfdccbmmpceaaGreatDoor
open Go.RowKit
def Ls (w:World) (v:Value) (ss:List ByteArray):Prop :=
 ∃a c,v=.slice a ss.length c/\ss.length<=maxLen/\(∀s∈ss,s.size<=maxLen)/\(0<ss.length->∃b o,a=some ⟨b,o,none⟩/\StrsAt w b o ss/\b<w.heap.size)
theorem StrsAt.up {w w':World} {g o:Nat} {ss:List ByteArray} (h:StrsAt w g o ss) (hb:Below w.heap.size w w') (hg:g<w.heap.size):StrsAt w' g o ss :=
 λi s hs=>(hb.cell (p:=⟨g,o+i,none⟩) hg).trans (h i s hs)
theorem StrsAt.cell {w:World} {g o:Nat} {ss:List ByteArray} (h:StrsAt w g o ss) {k:Nat} (hk:k<ss.length):w.cell? ⟨g,o+k,none⟩=some (.string ss[k]):=h k _ (by rw[A0])
theorem Ls.up {w w':World} {v:Value} {ss:List ByteArray} (h:Ls w v ss) (hb:Below w.heap.size w w'):Ls w' v ss:=by
 obtain⟨a,c,rfl,h1,h2,h3⟩:=h;refine⟨a,c,rfl,h1,h2,λhp=>?_⟩;obtain⟨b,o,rfl,hS,hlt⟩:=h3 hp;exact⟨b,o,rfl,hS.up hb hlt,A1 hlt hb.size⟩
theorem Ls.inv {w:World} {a:Option Addr} {n c:Nat} {ss:List ByteArray} (h:Ls w (.slice a n c) ss):ss.length<=maxLen/\(∀s∈ss,s.size<=maxLen)/\(0<ss.length->∃b o,a=some ⟨b,o,none⟩/\StrsAt w b o ss/\b<w.heap.size):=by
 obtain⟨a',c',e,h1⟩:=h;obtain⟨rfl,-,rfl⟩:=Value.slice.inj e;exact h1
theorem Ls.drewN {w:World} {v:Value} {ss:List ByteArray} (h:Ls w v ss) {n:Nat}:Ls (w.drewN n) v ss:=h
theorem Ls.nil (w:World) (a:Option Addr) (c:Nat):Ls w (.slice a 0 c) []:=⟨a,c,rfl,by simp,λs hs=>by simp at hs,λh=>by simp at h⟩
theorem Lst.ls {w:World} {v:Value} {ss:List ByteArray} (h:Lst w v ss) (hz:∀s∈ss,s.size<=maxLen):Ls w v ss:=by
 rcases h with⟨rfl,rfl⟩|⟨g,c,rfl,hS,hg,h1,h2⟩
 ·exact Ls.nil _ _ _
 ·exact⟨_,c,rfl,by omega,hz,λ_=>⟨g,0,rfl,hS,hg⟩⟩
def BaAt (w:World) (b o:Nat) (x:Ba):Prop:=∃hv nv,w.rangeAt b o [.string x.nm,hv,nv]/\Ls w hv x.has/\Ls w nv x.needs/\x.nm.size<=maxLen
theorem BaAt.up {w w':World} {b o:Nat} {x:Ba} (h:BaAt w b o x) (hb:Below w.heap.size w w') (hlt:b<w.heap.size):BaAt w' b o x:=by
 obtain⟨hv,nv,hr,h1,h2,h3⟩:=h;exact⟨hv,nv,λj v hv=>(hb.cell (p:=⟨b,o+j,none⟩) hlt).trans (hr j v hv),h1.up hb,h2.up hb,h3⟩
def BsAt (w:World) (b o:Nat) (bs:List Ba):Prop:=∀(i:Nat) (x:Ba),bs[i]?=some x->BaAt w b (o+i*3) x
theorem BsAt.up {w w':World} {b o:Nat} {bs:List Ba} (h:BsAt w b o bs) (hb:Below w.heap.size w w') (hlt:b<w.heap.size):BsAt w' b o bs:=λi x hx=>(h i x hx).up hb hlt
theorem BsAt.at {w:World} {b o:Nat} {bs:List Ba} (h:BsAt w b o bs) {k:Nat} (hk:k<bs.length):BaAt w b (o+k*3) bs[k]:=h k _ (by rw[A0])
theorem BaAt.cells {w:World} {b o:Nat} {x:Ba} (h:BaAt w b o x):∃a1 c1 a2 c2,w.cell? ⟨b,o,none⟩=some (.string x.nm)/\w.cell? ⟨b,o+1,none⟩=some (.slice a1 x.has.length c1)/\w.cell? ⟨b,o+2,none⟩=some (.slice a2 x.needs.length c2)/\
  Ls w (.slice a1 x.has.length c1) x.has/\Ls w (.slice a2 x.needs.length c2) x.needs/\x.nm.size<=maxLen:=by
 obtain⟨hv,nv,hr,h1,h2,h3⟩:=h;obtain⟨a1,c1,rfl,-⟩:=id h1;obtain⟨a2,c2,rfl,-⟩:=id h2;exact⟨a1,c1,a2,c2,hr 0 _ rfl,hr 1 _ rfl,hr 2 _ rfl,h1,h2,h3⟩
def Bs (w:World) (v:Value) (bs:List Ba):Prop:=∃a c,v=.slice a bs.length c/\bs.length<=maxLen/\(0<bs.length->∃b o,a=some ⟨b,o,none⟩/\BsAt w b o bs/\b<w.heap.size)
theorem Bs.up {w w':World} {v:Value} {bs:List Ba} (h:Bs w v bs) (hb:Below w.heap.size w w'):Bs w' v bs:=by
 obtain⟨a,c,rfl,h1,h3⟩:=h;refine⟨a,c,rfl,h1,λhp=>?_⟩;obtain⟨b,o,rfl,hS,hlt⟩:=h3 hp;exact⟨b,o,rfl,hS.up hb hlt,A1 hlt hb.size⟩
def BkV (w:World) (v:Value) (b:Bk):Prop:=∃tv bv,v=.agg #[tv,bv]/\Ls w tv b.things/\Bs w bv b.bs
theorem BkV.up {w w':World} {v:Value} {b:Bk} (h:BkV w v b) (hb:Below w.heap.size w w'):BkV w' v b:=by
 obtain⟨tv,bv,rfl,h1,h2⟩:=h;exact⟨tv,bv,rfl,h1.up hb,h2.up hb⟩
theorem BkV.parts {w:World} {v:Value} {b:Bk} (h:BkV w v b):∃a1 c1 a2 c2,v=.agg #[.slice a1 b.things.length c1,.slice a2 b.bs.length c2]/\Ls w (.slice a1 b.things.length c1) b.things/\Bs w (.slice a2 b.bs.length c2) b.bs:=by
 obtain⟨tv,bv,rfl,h1,h2⟩:=h;obtain⟨a1,c1,rfl,-⟩:=id h1;obtain⟨a2,c2,rfl,-⟩:=id h2;exact⟨a1,c1,a2,c2,rfl,h1,h2⟩
theorem CB.c2' {w:World} {b:Nat} {x0 x1:Value} (h:CB w b [x0,x1]):w.cell? ⟨b,0,none⟩=some x0/\w.cell? ⟨b,1,none⟩=some x1:=h.c2.1
theorem Bs.at {w:World} {a:Option Addr} {n c:Nat} {bs:List Ba} (h:Bs w (.slice a n c) bs):bs.length<=maxLen/\(0<bs.length->∃b o,a=some ⟨b,o,none⟩/\BsAt w b o bs/\b<w.heap.size):=by
 obtain⟨a',c',e,h1⟩:=h;obtain⟨rfl,-,rfl⟩:=Value.slice.inj e;exact h1
theorem N7 (s:ByteArray) (w:World) (hs:s.size<=maxLen) :
  Calls Tryz.prog 155 #[.string s] w λe w'=>e=.returned (.bool (nameB s))/\Below w.heap.size w w':=by
 unfold maxLen at hs;by_cases h1:1<=s.size
 case neg =>
  go_enter Tryz.func155,Tryz.ntmps155
  go_wp2
  go_ret
  exact⟨D7 (by simp[nameB,h1]),A4 _ _⟩
 by_cases h2:s.size<=8
 case neg =>
  go_enter Tryz.func155,Tryz.ntmps155
  go_wp2
  go_ret
  exact⟨D7 (by simp[nameB,h2]),A4 _ _⟩
 have hn:Hid (nameB s=allB s.data.toList):=by show nameB s=_;simp[nameB,h1,h2]
 go_enter Tryz.func155,Tryz.ntmps155
 go_wp2_with fail
 go_loopw [4] (λ_ w'=>∃pos:Nat,w'=w.iter s pos/\pos<=s.size/\allB (s.data.toList.take pos)=true) (λ_ w'=>s.size-w'.iterPos w.heap.size)
 case atStart=>exact⟨0,rfl,by omega,rfl⟩
 case round =>
  obtain⟨pos,rfl,hle,hal⟩:=hrel;have Hal:Hid (allB (s.data.toList.take pos)=true):=hal;clear hal;by_cases hp:pos<s.size
  ·have hnx:∀ty,(Instr.next (.pointer (some ⟨w.heap.size,0,none⟩)) true ty).run Tryz.prog (w.iter s pos)=_:=λty=>run_next_any w s pos ty hp
   by_cases ha:(s[pos]'hp).toNat<128
   ·rw[decode_ascii s pos hp ha] at hnx
    by_cases hb:nbB (s[pos]'hp).toNat=true
    ·have Hb:Hid (nbB (s[pos]'hp).toNat=true):=hb
     go_wp2_with (go_at_call 176;refine (Aas _ _).mono ?_;rintro e w' ⟨rfl,rfl⟩)
     go_roundw
     case rel=>exact⟨pos+1,rfl,by omega,by rw[Abw s pos hp,Hal.out,Hb.out];rfl⟩
     case measure=>simp;omega
    ·have hb':nbB (s[pos]'hp).toNat=false:=by simpa using hb
     have Hb:Hid (nbB (s[pos]'hp).toNat=false):=hb';clear hb;go_wp2_with (go_at_call 176;refine (Aas _ _).mono ?_;rintro e w' ⟨rfl,rfl⟩)
     go_ret
     exact⟨D7 (by rw[hn.out,AaT s pos hp Hb.out]),AaU _ _ _⟩
   ·have hi:=decode_high s pos hp (by omega)
    have hb':nbB (Utf8.decode s pos).1=false:=AbW _ hi.1;have Hb:Hid (nbB (s[pos]'hp).toNat=false):=AbW _ (by omega);clear hi;go_wp2_with (go_at_call 176;refine (Aas _ _).mono ?_;rintro e w' ⟨rfl,rfl⟩)
    go_ret
    exact⟨D7 (by rw[hn.out,AaT s pos hp Hb.out]),AaU _ _ _⟩
  ·have hnx:∀ty,(Instr.next (.pointer (some ⟨w.heap.size,0,none⟩)) true ty).run Tryz.prog (w.iter s pos)=_:=λty=>run_next_end w s pos ty hp
   go_wp2
   go_ret
   exact⟨D7 (by rw[hn.out,AbX s pos hp Hal.out]),AaU _ _ _⟩
theorem AiZ (ss:List ByteArray) (v:Value) (s:ByteArray) (w:World) (h:Ls w v ss) :
  Calls Tryz.prog 202 #[v,.string s] w λe w'=>e=.returned (.int .i64 (idxI ss s))/\w'=w:=by
 obtain⟨a,c,rfl,hn,-,hpos⟩:=h;unfold maxLen at hn;go_enter Tryz.func202,Tryz.ntmps202
 go_wp2
 go_loop [8] (λi=>∃k:Nat,k<=ss.length/\i=.int .i64 k/\memS (ss.take k) s=false) (λi=>ss.length-(intOf i).toNat)
 case atStart=>exact⟨0,by omega,rfl,rfl⟩
 case round =>
  obtain⟨k,hk,rfl,hal⟩:=hrel;have Hal:Hid (memS (ss.take k) s=false):=hal;clear hal;by_cases hp:k<ss.length
  ·obtain⟨b,o,rfl,hS,hb⟩:=hpos (by omega)
   have c0:=hS.cell hp;cases hq:(s.toList==(ss[k]).toList)
   ·have Hq:Hid (((ss[k]).toList==s.toList)=false):=by show _=_;rw[Ace];exact hq
    go_wp2
    go_round
    case rel=>exact⟨k+1,by omega,by go_num,Aa6 hp Hal.out Hq.out⟩
    case measure=>simp[intOf];omega
   ·have Hq:Hid (((ss[k]).toList==s.toList)=true):=by show _=_;rw[Ace];exact hq
    go_wp2
    go_ret
    exact⟨O3 (V0 hp Hal.out Hq.out).symm,rfl⟩
  ·go_wp2
   go_ret
   exact⟨O3 (O5 (AaZ hp Hal.out)).symm,rfl⟩
theorem AcJ (ss:List ByteArray) (v:Value) (s:ByteArray) (w:World) (h:Ls w v ss) :
  Calls Tryz.prog 181 #[v,.string s] w λe w'=>e=.returned (.bool (memS ss s))/\w'=w:=by
 obtain⟨a,c,rfl,-⟩:=id h;go_enter Tryz.func181,Tryz.ntmps181
 go_wp2_with (go_at_call 202;refine (AiZ ss _ _ _ h).mono ?_;rintro e w' ⟨rfl,hw⟩;obtain rfl:=hw.symm;clear hw)
 all_goals
  go_ret
  refine⟨D7 ?_,rfl⟩;rw[← AdJ];try simp_all
theorem Ai2 (ss:List ByteArray) (u:Value) (w:World) (h:Ls w u ss) :
  Calls Tryz.prog 182 #[u] w λe w'=>e=.returned (.bool (pB (Asc ss)))/\Below w.heap.size w w':=by
 obtain⟨a,c,rfl,hn,-,hpos⟩:=h;unfold maxLen at hn;go_enter Tryz.func182,Tryz.ntmps182
 go_wp2
 go_loopw [3] (λi w'=>∃k:Nat,(k+1<=ss.length∨k=0)/\i=.int .i64 (k+1)/\AscTo ss (k+1)/\Below w.heap.size w w') (λi _=>ss.length-(intOf i).toNat)
 case atStart=>exact⟨0,.inr rfl,rfl,AscTo.one _,A4 _ _⟩
 case round =>
  obtain⟨k,hk,rfl,hasc,hB⟩:=hrel;have Hasc:Hid (AscTo ss (k+1)):=hasc;clear hasc;by_cases hp:k+1<ss.length
  ·obtain⟨b,o,rfl,hS,hb⟩:=hpos (by omega)
   have c0:=(hS.up hB hb).cell hp;have c1:=(hS.up hB hb).cell (k:=k) (by omega);clear hk;cases hl:ltS ss[k] ss[k+1]
   ·have Hl:Hid (¬Asc ss):=λh=>by rw[Age h hp] at hl;cases hl
    unfold ltS at hl;go_wp2_with fail
    go_quiet (fail)
    go_wp2
    go_ret
    exact⟨D7 (F3 Hl.out).symm,E8 hB _⟩
   ·have Hl:Hid (AscTo ss (k+2)):=Hasc.out.step hp hl
    unfold ltS at hl;go_wp2_with fail
    go_quiet (fail)
    go_wp2
    go_roundw
    case rel=>exact⟨k+1,.inl (by omega),by go_num,Hl.out,E8 hB _⟩
    case measure=>simp[intOf];omega
  ·go_wp2
   go_ret
   exact⟨D7 (I7 (Adu Hasc.out hp)).symm,hB⟩
theorem AbC (ss:List ByteArray) (u:Value) (w:World) (h:Ls w u ss) :
  Calls Tryz.prog 203 #[u] w λe w'=>e=.returned (.bool (pB (Names ss/\Asc ss)))/\Below w.heap.size w w':=by
 have h0:=h;obtain⟨a,c,rfl,hn,hz,hpos⟩:=h;unfold maxLen at hn;go_enter Tryz.func203,Tryz.ntmps203
 go_wp2
 go_loopw [4,7] (λ_ i w'=>∃k:Nat,k<=ss.length/\i=.int .i64 k/\NamesTo ss k/\Below w.heap.size w w') (λ_ i _=>ss.length-(intOf i).toNat)
 case atStart=>exact⟨0,by omega,rfl,NamesTo.zero _,A4 _ _⟩
 case round =>
  obtain⟨k,hk,rfl,hal,hB⟩:=hrel;have Hal:Hid (NamesTo ss k):=hal;clear hal;by_cases hp:k<ss.length
  ·obtain⟨b,o,rfl,hS,hb⟩:=hpos (by omega)
   have c0:=(hS.up hB hb).cell hp;have z0:=hz ss[k] (by simp);cases hq:nameB ss[k]
   ·have Hq:Hid (¬(Names ss/\Asc ss)):=λh=>by rw[Agf h.1 hp] at hq;cases hq
    go_wp2_with (go_at_call 155;refine (N7 _ _ z0).mono ?_;rintro e w1 ⟨rfl,hb1⟩;(first|(have hB':=D6 hB hb1;clear hB;have hB:=hB';clear hB')|(have hB:=hb1));clear hb1;(try clear hc hf);obtain⟨hc,hf⟩:=E6 hB)
    go_ret
    exact⟨D7 (F3 Hq.out).symm,hB⟩
   ·have Hq:Hid (NamesTo ss (k+1)):=Hal.out.step hp hq
    go_wp2_with (go_at_call 155;refine (N7 _ _ z0).mono ?_;rintro e w1 ⟨rfl,hb1⟩;(first|(have hB':=D6 hB hb1;clear hB;have hB:=hB';clear hB')|(have hB:=hb1));clear hb1;(try clear hc hf);obtain⟨hc,hf⟩:=E6 hB)
    go_roundw
    case rel=>exact⟨k+1,by omega,by go_num,Hq.out,hB⟩
    case measure=>simp[intOf];omega
  ·have Hq:Hid (Names ss):=AcP Hal.out hp
   have Hp:Hid (pB (Names ss/\Asc ss)=pB (Asc ss)):=by
    show _=_
    have:=Hq.out;unfold pB;simp[this]
   go_wp2_with (go_at_call 182;refine (Ai2 ss _ _ (h0.up hB)).mono ?_;rintro e w1 ⟨rfl,hb1⟩;(first|(have hB':=D6 hB hb1;clear hB;have hB:=hB';clear hB')|(have hB:=hb1));clear hb1;(try clear hc hf);obtain⟨hc,hf⟩:=E6 hB)
   go_ret
   exact⟨D7 Hp.out.symm,hB⟩
theorem Aad (ss all:List ByteArray) (u v:Value) (w:World) (h:Ls w u ss) (h2:Ls w v all) :
  Calls Tryz.prog 162 #[u,v] w λe w'=>e=.returned (.bool (pB (PartOk ss all)))/\Below w.heap.size w w':=by
 have h0:=h;obtain⟨a,c,rfl,hn,hz,hpos⟩:=h;obtain⟨a2,c2,rfl,-⟩:=id h2;unfold maxLen at hn;go_enter Tryz.func162,Tryz.ntmps162
 go_wp2
 go_loopw [6,9] (λ_ i w'=>∃k:Nat,k<=ss.length/\i=.int .i64 k/\PartTo ss all k/\Below w.heap.size w w') (λ_ i _=>ss.length-(intOf i).toNat)
 case atStart=>exact⟨0,by omega,rfl,PartTo.zero _ _,A4 _ _⟩
 case round =>
  obtain⟨k,hk,rfl,hal,hB⟩:=hrel;have Hal:Hid (PartTo ss all k):=hal;clear hal;by_cases hp:k<ss.length
  ·obtain⟨b,o,rfl,hS,hb⟩:=hpos (by omega)
   have c0:=(hS.up hB hb).cell hp;cases hq:memS all ss[k]
   ·have Hq:Hid (¬PartOk ss all):=λh=>by rw[Adv h.1 hp] at hq;cases hq
    go_wp2_with (go_at_call 181;refine (AcJ all _ _ _ (h2.up hB)).mono ?_;rintro e w' ⟨rfl,hw⟩;obtain rfl:=hw.symm;clear hw)
    go_ret
    exact⟨D7 (F3 Hq.out).symm,hB⟩
   ·have Hq:Hid (PartTo ss all (k+1)):=Hal.out.step hp hq
    go_wp2_with (go_at_call 181;refine (AcJ all _ _ _ (h2.up hB)).mono ?_;rintro e w' ⟨rfl,hw⟩;obtain rfl:=hw.symm;clear hw)
    go_roundw
    case rel=>exact⟨k+1,by omega,by go_num,Hq.out,hB⟩
    case measure=>simp[intOf];omega
  ·have Hq:Hid (Part ss all):=AdI Hal.out hp
   have Hp:Hid (pB (PartOk ss all)=pB (Asc ss)):=by
    show _=_
    have:=Hq.out;unfold pB PartOk;simp[this]
   go_wp2_with (go_at_call 182;refine (Ai2 ss _ _ (h0.up hB)).mono ?_;rintro e w1 ⟨rfl,hb1⟩;(first|(have hB':=D6 hB hb1;clear hB;have hB:=hB';clear hB')|(have hB:=hb1));clear hb1;(try clear hc hf);obtain⟨hc,hf⟩:=E6 hB)
   go_ret
   exact⟨D7 Hp.out.symm,hB⟩
set_option maxHeartbeats 1000000 in
theorem Ahy (x:Ba) (things:List ByteArray) (hv nv tv:Value) (w:World) (h1:Ls w hv x.has) (h2:Ls w nv x.needs) (h3:Ls w tv things) :
  Calls Tryz.prog 204 #[.agg #[.string x.nm,hv,nv],tv] w λe w'=>e=.returned (.bool (pB (BaOk things x)))/\Below w.heap.size w w':=by
 obtain⟨a1,c1,rfl,-⟩:=id h1;obtain⟨a2,c2,rfl,-⟩:=id h2;obtain⟨a3,c3,rfl,-⟩:=id h3;have hC:CB (w.alloc (.cells #[.string x.nm,.slice a1 x.has.length c1,.slice a2 x.needs.length c2] 128)) w.heap.size [.string x.nm,.slice a1 x.has.length c1,.slice a2 x.needs.length c2]:=E7 w _ _;have hB0:=(A4 w.heap.size w).alloc (A3 _) (.cells #[.string x.nm,.slice a1 x.has.length c1,.slice a2 x.needs.length c2] 128);go_enter Tryz.func204,Tryz.ntmps204
 go_upto_region 1 with fail
 generalize w.alloc (.cells #[.string x.nm,.slice a1 x.has.length c1,.slice a2 x.needs.length c2] 128)=W1 at *;obtain⟨⟨d0,d1,d2⟩,-⟩:=hC.c3;have hlt:=hC.2.2;have l1:=h1.up hB0;have l2:=h2.up hB0;have l3:=h3.up hB0;have hB:Below W1.heap.size W1 W1:=A4 _ _;obtain⟨hc,hf⟩:=E6 hB;cases hq:pB (PartOk x.needs things)
 ·have Hq:Hid (pB (BaOk things x)=false):=F3 λh=>J4.1 hq h.1
  go_wp2_with (go_at_call 162;refine (Aad x.needs things _ _ _ (l2.up hB) (l3.up hB)).mono ?_;rintro e w1 ⟨rfl,hb1⟩;(first|(have hB':=D6 hB hb1;clear hB;have hB:=hB';clear hB')|(have hB:=hb1));clear hb1;(try clear hc hf);obtain⟨hc,hf⟩:=E6 hB)
  go_ret
  exact⟨D7 Hq.out.symm,D6 hB0 hB⟩
 ·have Hq:Hid (pB (BaOk things x)=pB (PartOk x.has x.needs)):=by
   show _=_
   have:=F8.1 hq;unfold pB BaOk;simp[this]
  go_wp2_with (first|(revert hq;intro hq;(go_at_call 162;refine (Aad x.needs things _ _ _ (l2.up hB) (l3.up hB)).mono ?_;rintro e w1 ⟨rfl,hb1⟩;(first|(have hB':=D6 hB hb1;clear hB;have hB:=hB';clear hB')|(have hB:=hb1));clear hb1;(try clear hc hf);obtain⟨hc,hf⟩:=E6 hB);clear l3)|(go_at_call 162;refine (Aad x.has x.needs _ _ _ (l1.up hB) (l2.up hB)).mono ?_;rintro e w1 ⟨rfl,hb1⟩;(first|(have hB':=D6 hB hb1;clear hB;have hB:=hB';clear hB')|(have hB:=hb1));clear hb1;(try clear hc hf);obtain⟨hc,hf⟩:=E6 hB))
  go_ret
  exact⟨D7 Hq.out.symm,D6 hB0 hB⟩
end Go.Proofs.YtebfdccbmmpceaaGreatDoor
namespace Go.Proofs.YtebfdccbmmpceaaGreatDoor
open Go.Maps
theorem bl_eq:∀(x y:List UInt8),Op.bytesLess x y=decide (x<y)
 | [],[]=>by simp[Op.bytesLess]
 | _::_,[]=>by simp[Op.bytesLess]
 | [],_::_=>by simp[Op.bytesLess]
 | a::x,b::y=>by
  rw[Op.bytesLess,bl_eq x y];simp only[List.cons_lt_cons_iff];by_cases h1:a<b<;>by_cases h2:a=b<;>by_cases h3:x<y<;>simp[h1,h2,h3]
theorem AeQ (a b:ByteArray):ltS a b=true↔a.toList<b.toList:=by rw[ltS,bl_eq];simp
theorem Aa7 {a b c:ByteArray} (h:ltS a b=true) (k:ltS b c=true):ltS a c=true:=by
 rw[AeQ] at *;exact List.lt_trans h k
theorem O6 (a:ByteArray):ltS a a=false:=by
 rw[← Bool.not_eq_true,AeQ];exact List.lt_irrefl _
theorem S0 {l:List ByteArray} (h:Asc l):∀(d i:Nat) (a b:ByteArray),l[i]?=some a->l[i+1+d]?=some b->ltS a b=true
 | 0,i,a,b,ha,hb=>h i a b (A2.1 hb).1 ha hb
 | d+1,i,a,b,ha,hb=>by
  have hl:i+1+(d+1)<l.length:=(A2.1 hb).1;have hm:l[i+1]?=some l[i+1]:=A0 (by omega);exact Aa7 (h i a _ (by omega) ha hm) (S0 h d (i+1) _ b hm (by rw[show i+1+1+d=i+1+(d+1) by omega];exact hb))
theorem AbN {l:List ByteArray} (h:Asc l) {i j:Nat} {a:ByteArray} (hi:l[i]?=some a) (hj:l[j]?=some a):i=j:=by
 rcases Nat.lt_trichotomy i j with h1|h1|h1
 ·have:=S0 h (j-i-1) i a a hi (by rw[show i+1+(j-i-1)=j by omega];exact hj)
  rw[O6] at this;cases this
 ·exact h1
 ·have:=S0 h (i-j-1) j a a hj (by rw[show j+1+(i-j-1)=i by omega];exact hi)
  rw[O6] at this;cases this
theorem Agh:∀(l m:List ByteArray),(∀(i j:Nat) (a:ByteArray),l[i]?=some a->l[j]?=some a->i=j)->(∀s∈l,s∈m)->l.length<=m.length
 | [],m,_,_=>by simp
 | x::r,m,hd,hs=>by
  have hx:x∈m:=hs x (by simp);obtain⟨m1,m2,rfl⟩:=List.append_of_mem hx
  have:=Agh r (m1++m2) (λi j a hi hj=>by
   have:=hd (i+1) (j+1) a (by simpa using hi) (by simpa using hj);omega) (λs h=>by
   have h1:=hs s (by simp[h]);rcases D1.1 h1 with h2|h2
   ·simp[h2]
   ·rcases List.mem_cons.1 h2 with h3|h3
    ·subst h3
     obtain⟨i,hi,e⟩:=B6 h;have:=hd 0 (i+1) s (by simp) (by simp[A0 hi,e]);omega
    ·simp[h3])
  simp at this ⊢;omega
theorem N8 {l all:List ByteArray} (h:PartOk l all):l.length<=all.length:=Agh l all (λ_ _ _ hi hj=>AbN h.2 hi hj) (λ_ hs=>Acd h.1 hs)
def kl (s:ByteArray):Lit:=.string s.data.toList
theorem Ak2 {a b:ByteArray} (h:kl a=kl b):a=b:=by
 simp only[kl,Lit.string.injEq] at h;cases a;cases b;simp at h;rw[h]
theorem Agi (s:ByteArray):WideAt.IsKeyLit (kl s):=trivial
def HadBy (bs:List Ba) (k m:Nat) (s:ByteArray) (i:Nat):Prop:=∃x,bs[i]?=some x/\(i<k/\s∈x.has∨i=k/\s∈x.has.take m)
def HoldD (D:DataW Unit) (bs:List Ba) (k m:Nat):Prop:=IsMap D/\(∀s,Maps.has D (kl s)=true->∃i,HadBy bs k m s i)/\(∀s i,HadBy bs k m s i->Maps.has D (kl s)=true/\∀z,D.atKey (kl s) z=.lit (.int .i64 (i:Int)))
theorem HoldD.start (bs:List Ba):HoldD (.map []) bs 0 0:=by
 refine⟨isMap_empty,λs h=>by simp[Maps.has] at h,λs i h=>?_⟩;obtain⟨x,_,h|h⟩:=h
 ·omega
 ·simp at h
theorem HadBy.up {bs:List Ba} {k m i:Nat} {s:ByteArray} (h:HadBy bs k m s i):HadBy bs k (m+1) s i:=by
 obtain⟨x,hx,h|⟨h1,h2⟩⟩:=h
 ·exact⟨x,hx,.inl h⟩
 ·refine⟨x,hx,.inr ⟨h1,?_⟩⟩
  rw[List.mem_take_iff_getElem] at h2 ⊢
  obtain⟨j,hj,e⟩:=h2;exact⟨j,by omega,e⟩
theorem HadBy.new {bs:List Ba} {k m:Nat} (hk:k<bs.length) (hm:m<(bs[k]).has.length):HadBy bs k (m+1) ((bs[k]).has[m]) k :=
 ⟨bs[k],A0 hk,.inr ⟨rfl,by rw[List.mem_take_iff_getElem];exact⟨m,by omega,rfl⟩⟩⟩
theorem HadBy.split {bs:List Ba} {k m i:Nat} {s:ByteArray} (hk:k<bs.length) (hm:m<(bs[k]).has.length) (h:HadBy bs k (m+1) s i):HadBy bs k m s i∨(i=k/\s=(bs[k]).has[m]):=by
 obtain⟨x,hx,h|⟨rfl,h2⟩⟩:=h
 ·exact .inl ⟨x,hx,.inl h⟩
 ·rw[A0 hk] at hx
  obtain rfl:=A5 hx;rw[A7 hm] at h2;rcases D1.1 h2 with h3|h3
  ·exact .inl ⟨_,A0 hk,.inr ⟨rfl,h3⟩⟩
  ·exact .inr ⟨rfl,by simpa using h3⟩
theorem HoldD.step {D:DataW Unit} {bs:List Ba} {k m:Nat} (h:HoldD D bs k m) (hk:k<bs.length) (hm:m<(bs[k]).has.length) (hn:Maps.has D (kl ((bs[k]).has[m]))=false) :
  HoldD (D.put (kl ((bs[k]).has[m])) (.lit (.int .i64 (k:Int)))) bs k (m+1):=by
 obtain⟨h1,h2,h3⟩:=h;refine⟨h1.put _ _,λs hs=>?_,λs i hi=>?_⟩
 ·by_cases e:kl s=kl ((bs[k]).has[m])
  ·obtain rfl:=Ak2 e
   exact⟨k,HadBy.new hk hm⟩
  ·rw[has_put_other e] at hs
   obtain⟨i,hi⟩:=h2 s hs;exact⟨i,hi.up⟩
 ·rcases hi.split hk hm with h4|⟨rfl,rfl⟩
  ·have e:kl s≠kl ((bs[k]).has[m]):=λe=>by
    have:=(h3 s i h4).1;rw[e,hn] at this;cases this
   exact⟨by rw[has_put_other e];exact (h3 s i h4).1,λz=>by rw[atKey_put_other e];exact (h3 s i h4).2 z⟩
  ·exact⟨has_put_same h1 (Agi _) _,λz=>atKey_put_same h1 (Agi _) _ z⟩
theorem HadBy.next {bs:List Ba} {k m i:Nat} {s:ByteArray} (hk:k<bs.length) (hm:¬m<(bs[k]).has.length):HadBy bs k m s i↔HadBy bs (k+1) 0 s i:=by
 constructor
 ·rintro⟨x,hx,h|⟨rfl,h2⟩⟩
  ·exact⟨x,hx,.inl ⟨by omega,h.2⟩⟩
  ·exact⟨x,hx,.inl ⟨by omega,List.mem_of_mem_take h2⟩⟩
 ·rintro⟨x,hx,h|⟨_,h2⟩⟩
  ·by_cases e:i=k
   ·subst e
    rw[A0 hk] at hx;obtain rfl:=A5 hx;exact⟨_,A0 hk,.inr ⟨rfl,by rw[D3 (by omega)];exact h.2⟩⟩
   ·exact⟨x,hx,.inl ⟨by omega,h.2⟩⟩
  ·simp at h2
theorem HoldD.next {D:DataW Unit} {bs:List Ba} {k m:Nat} (h:HoldD D bs k m) (hk:k<bs.length) (hm:¬m<(bs[k]).has.length):HoldD D bs (k+1) 0 :=
 ⟨h.1,λs hs=>by obtain⟨i,hi⟩:=h.2.1 s hs;exact⟨i,(HadBy.next hk hm).1 hi⟩,λs i hi=>h.2.2 s i ((HadBy.next hk hm).2 hi)⟩
theorem HoldD.twice {D:DataW Unit} {bs:List Ba} {k m:Nat} (h:HoldD D bs k m) (hk:k<bs.length) (hm:m<(bs[k]).has.length) (hd:Asc (bs[k]).has) (hn:Maps.has D (kl ((bs[k]).has[m]))=true):¬Apart bs:=λha=>by
 obtain⟨i,x,hx,h4|⟨rfl,h4⟩⟩:=h.2.1 _ hn
 ·have hi:i<bs.length:=(A2.1 hx).1
  have:=ha.at hk h4.1;rw[N9] at this;rw[A0 hi] at hx;obtain rfl:=A5 hx;exact this _ (List.getElem_mem hm) h4.2
 ·rw[A0 hk] at hx
  obtain rfl:=A5 hx;rw[List.mem_take_iff_getElem] at h4;obtain⟨j,hj,e⟩:=h4;have:=AbN hd (i:=j) (j:=m) (A0 (by omega)) (by rw[e];exact A0 hm);omega
theorem HoldD.apart {D:DataW Unit} {bs:List Ba} {k:Nat} (h:HoldD D bs k 0) (hk:¬k<bs.length):Apart bs:=λi j x y hji hi hx hy=>by
 have li:=(A2.1 hx).1;have lj:=(A2.1 hy).1;rw[N9];intro s h1 h2;have e1:=(h.2.2 s i ⟨x,hx,.inl ⟨by omega,h1⟩⟩).2 .nil;have e2:=(h.2.2 s j ⟨y,hy,.inl ⟨by omega,h2⟩⟩).2 .nil;rw[e1] at e2;simp at e2;omega
theorem HoldD.who {D:DataW Unit} {bs:List Ba} {k:Nat} (h:HoldD D bs k 0) {s:ByteArray} (hs:Maps.has D (kl s)=true):∃(i:Nat) (hi:i<bs.length),(∀z,D.atKey (kl s) z=.lit (.int .i64 (i:Int)))/\whoB bs s=(bs[i]).nm:=by
 obtain⟨i,hi⟩:=h.2.1 s hs;have hz:=(h.2.2 s i hi).2;obtain⟨x,hx,h4|⟨_,h4⟩⟩:=hi
 ·have li:=(A2.1 hx).1
  refine⟨i,li,hz,Ai1 li (λj y hj hy=>?_) ?_⟩
  ·rw[S3]
   intro h5;have:=(h.2.2 s j ⟨y,hy,.inl ⟨by omega,h5⟩⟩).2 .nil;rw[hz] at this;simp at this;omega
  ·rw[K1]
   rw[A0 li] at hx;obtain rfl:=A5 hx;exact h4.2
 ·simp at h4
theorem HoldD.whoNone {D:DataW Unit} {bs:List Ba} {k:Nat} (h:HoldD D bs k 0) (hk:¬k<bs.length) {s:ByteArray} (hs:Maps.has D (kl s)=false):whoB bs s=⟨#[]⟩ :=
 Ak1 hk λi x hi hx=>by
  rw[S3];intro h5;have:=(h.2.2 s i ⟨x,hx,.inl ⟨hi,h5⟩⟩).1;rw[hs] at this;cases this
end Go.Proofs.YtebfdccbmmpceaaGreatDoor
