/- Tables over a recipe: plain facts. -/
import Derived.Test.YtgecdacgmehmbaaGreatDoorJ2
import Derived.Laws.Strings
namespace Go.Proofs.YtgecdacgmehmbaaGreatDoor
section
variable {τ:Type}
def look (rows:List (ByteArray×τ)) (nm:ByteArray) (d:τ):τ:=match rows.find? λr=>r.1.toList==nm.toList with
 | some r=>r.2
 | none=>d
def good:ByteArray:=⟨#[103,111,111,100]⟩
def saved:ByteArray:=⟨#[115,97,118,101,100]⟩
def scrapped:ByteArray:=⟨#[115,99,114,97,112,112,101,100]⟩
def endsT (fe:Int->τ):List (ByteArray×τ):=[(good,fe 1),(saved,fe 2),(scrapped,fe 3)]
def fill (fe:Int->τ) (fp:Ph->τ->τ->τ) (d:τ):List Ph->List (ByteArray×τ)
 | []=>endsT fe
 | p::rest=>fill fe fp d rest++[(p.nm,fp p (look (fill fe fp d rest) p.t d) (look (fill fe fp d rest) p.e d))]
def evL (fe:Int->τ) (fp:Ph->τ->τ->τ) (d:τ):List Ph->ByteArray->τ
 | [],nm=>if endN nm=0 then d else fe (endN nm)
 | p::rest,nm=>if (p.nm.toList==nm.toList)=true then fp p (evL fe fp d rest p.t) (evL fe fp d rest p.e) else evL fe fp d rest nm
def Dist:List Ph->Prop
 | []=>True
 | p::rest=>endN p.nm=0/\hasB rest p.nm=false/\Dist rest
theorem AdY {a b:ByteArray} (h:(a.toList==b.toList)=true):endN a=endN b:=by
 have e:a.toList=b.toList:=by simpa using h
 simp only[endN,e]
theorem AiA {a b:ByteArray} (h:(a.toList==b.toList)=true) (ps:List Ph):hasB ps a=hasB ps b:=by
 have e:a.toList=b.toList:=by simpa using h
 simp only[hasB,e]
theorem Ahb (rows:List (ByteArray×τ)) (a nm:ByteArray) (v d:τ):look (rows++[(a,v)]) nm d=if (rows.any λr=>r.1.toList==nm.toList)=true then look rows nm d else if (a.toList==nm.toList)=true then v else d:=by
 unfold look;rw[List.find?_append];cases h:rows.find? λr=>r.1.toList==nm.toList with
 | some r =>
  have:(rows.any λr=>r.1.toList==nm.toList)=true:=by
   rw[List.any_eq_true];exact⟨r,List.mem_of_find?_eq_some h,by have:=List.find?_some h;simpa using this⟩
  simp[this]
 | none =>
  have:(rows.any λr=>r.1.toList==nm.toList)=false:=by
   rw[← Bool.not_eq_true,List.any_eq_true];rintro⟨r,hr,he⟩;have:=List.find?_eq_none.1 h r hr;exact this he
  by_cases ha:(a.toList==nm.toList)=true
  ·simp[this,ha]
  ·simp only[Bool.not_eq_true] at ha
   simp[this,ha]
def noneT (rows:List (ByteArray×τ)) (nm:ByteArray) (k:Nat):Prop:=∀(j:Nat) (r:ByteArray×τ),j<k->rows[j]?=some r->(r.1.toList==nm.toList)=false
theorem AiB {rows:List (ByteArray×τ)} {nm:ByteArray} {k:Nat} (h:noneT rows nm k) (hk:k<rows.length) (hq:((rows[k]).1.toList==nm.toList)=false):noneT rows nm (k+1):=λj r hj hr=>by
 rcases Nat.lt_or_ge j k with h'|h'
 ·exact h j r h' hr
 ·obtain rfl:j=k:=by omega
  obtain⟨_,rfl⟩:=A2.1 hr;exact hq
theorem Al7 {rows:List (ByteArray×τ)} {nm:ByteArray} {k:Nat} (d:τ) (h:noneT rows nm k) (hk:k<rows.length) (hq:((rows[k]).1.toList==nm.toList)=true):look rows nm d=(rows[k]).2:=by
 have:(rows.find? λr=>r.1.toList==nm.toList)=some rows[k]:=by
  rw[List.find?_eq_some_iff_getElem];exact⟨hq,k,hk,rfl,λj hj=>by simp[h j rows[j] hj (by simp[Nat.lt_trans hj hk])]⟩
 simp only[look,this]
theorem Akl {rows:List (ByteArray×τ)} {nm:ByteArray} {k:Nat} (d:τ) (h:noneT rows nm k) (hk:¬k<rows.length):look rows nm d=d:=by
 have:(rows.find? λr=>r.1.toList==nm.toList)=none:=by
  rw[List.find?_eq_none];intro r hr;obtain⟨j,hj,rfl⟩:=B5 hr;simp[h j rows[j] (by omega) (by simp[hj])]
 simp only[look,this]
theorem R7 (l:List UInt8):(⟨l.toArray⟩:ByteArray).toList=l:=by
 rw[Go.ByteArray.toList_eq]
theorem Akm (fe:Int->τ) (nm:ByteArray):((endsT fe).any λr=>r.1.toList==nm.toList)=(endN nm != 0):=by
 have g:good.toList=[103,111,111,100]:=R7 [103,111,111,100];have s:saved.toList=[115,97,118,101,100]:=R7 [115,97,118,101,100];have c:scrapped.toList=[115,99,114,97,112,112,101,100]:=R7 [115,99,114,97,112,112,101,100];simp only[endsT,List.any_cons,List.any_nil,g,s,c,endN,Bool.beq_comm (b:=nm.toList),Bool.or_false];split
 ·simp[*]
 ·split
  ·simp[*]
  ·split
   ·simp[*]
   ·simp_all
theorem AiC (fe:Int->τ) (nm:ByteArray) (d:τ):look (endsT fe) nm d=if endN nm=0 then d else fe (endN nm):=by
 have g:good.toList=[103,111,111,100]:=R7 [103,111,111,100];have s:saved.toList=[115,97,118,101,100]:=R7 [115,97,118,101,100];have c:scrapped.toList=[115,99,114,97,112,112,101,100]:=R7 [115,99,114,97,112,112,101,100];have hb:∀l:List UInt8,(l==nm.toList)=(nm.toList==l):=λl=>Bool.beq_comm;simp only[look,endsT,List.find?_cons,g,s,c,hb,endN];by_cases h1:(nm.toList==[103,111,111,100])=true
 ·simp[h1]
 ·by_cases h2:(nm.toList==[115,97,118,101,100])=true
  ·simp only[Bool.not_eq_true] at h1;simp[h1,h2]
  ·by_cases h3:(nm.toList==[115,99,114,97,112,112,101,100])=true
   ·simp only[Bool.not_eq_true] at h1 h2;simp[h1,h2,h3]
   ·simp only[Bool.not_eq_true] at h1 h2 h3;simp[h1,h2,h3]
theorem AfX (fe:Int->τ) (fp:Ph->τ->τ->τ) (d:τ):∀(l:List Ph) (nm:ByteArray),((fill fe fp d l).any λr=>r.1.toList==nm.toList)=(endN nm != 0 || hasB l nm)
 | [],nm=>by rw[fill,Akm];simp[hasB]
 | p::rest,nm=>by
  rw[fill,List.any_append,AfX fe fp d rest nm];simp only[List.any_cons,List.any_nil,Bool.or_false,hasB,Bool.or_assoc];rw[Bool.or_comm (p.nm.toList==nm.toList)]
theorem Ad3 (fe:Int->τ) (fp:Ph->τ->τ->τ) (d:τ):∀(l:List Ph) (nm:ByteArray),hasB l nm=false->evL fe fp d l nm=if endN nm=0 then d else fe (endN nm)
 | [],nm,_=>rfl
 | p::rest,nm,h=>by
  simp only[hasB,List.any_cons,Bool.or_eq_false_iff] at h;rw[evL,if_neg (by simp[h.1])];exact Ad3 fe fp d rest nm h.2
theorem Ac4 (fe:Int->τ) (fp:Ph->τ->τ->τ) (d:τ):∀(l:List Ph),Dist l->∀nm,look (fill fe fp d l) nm d=evL fe fp d l nm
 | [],_,nm=>by rw[fill,AiC,evL]
 | p::rest,hd,nm=>by
  obtain⟨h1,h2,h3⟩:=hd;have ih:=Ac4 fe fp d rest h3;rw[fill,Ahb,AfX,evL];by_cases he:(p.nm.toList==nm.toList)=true
  ·have e1:endN nm=0:=(AdY he).symm.trans h1
   have e2:hasB rest nm=false:=(AiA he rest).symm.trans h2;simp[he,e1,e2,ih]
  ·rw[if_neg he,if_neg he,ih nm]
   split
   ·rfl
   ·rename_i hn
    simp only[Bool.not_eq_true,Bool.or_eq_false_iff,bne_eq_false_iff_eq] at hn;rw[Ad3 fe fp d rest nm hn.2,if_pos hn.1]
theorem Ad4 (fe:Int->τ) (fp:Ph->τ->τ->τ) (d:τ):∀l:List Ph,(fill fe fp d l).length=l.length+3
 | []=>rfl
 | p::rest=>by rw[fill,A9,Ad4 fe fp d rest];simp only[List.length_cons,List.length_nil]
theorem Akn (fe:Int->τ) (fp:Ph->τ->τ->τ) (d:τ) {ps:List Ph} {m:Nat} (hm:m<ps.length) :
  fill fe fp d (ps.drop m)=fill fe fp d (ps.drop (m+1))++[((ps[m]).nm,fp ps[m] (look (fill fe fp d (ps.drop (m+1))) (ps[m]).t d) (look (fill fe fp d (ps.drop (m+1))) (ps[m]).e d))]:=by
 rw[D4 hm];rfl
theorem AeQ {ps:List Ph} (h:recB ps=true):∀i,Dist (ps.drop i):=by
 obtain⟨_,_,ha⟩:=(I4 ps).1 h;suffices hh:∀n i,ps.length-i=n->Dist (ps.drop i) from λi=>hh _ i rfl
 intro n;induction n with
 | zero=>intro i hi;rw[List.drop_of_length_le (by omega)];trivial
 | succ n ih =>
  intro i hn;have hi:i<ps.length:=by omega
  have hs:=ha i ps[i] hi (by simp[hi]);rw[D4 hi];simp only[stepI,Bool.and_eq_true,Bool.not_eq_true',Ph.okB,phaseB] at hs;refine⟨?_,hs.1.1.2,ih (i+1) (by omega)⟩;simpa using hs.1.1.1.1.1.1.1.2
theorem Ad5 (fe:Int->τ) (fp:Ph->τ->τ->τ) (d:τ):∀(l1 l2:List Ph) (nm:ByteArray),hasB l1 nm=false->evL fe fp d (l1++l2) nm=evL fe fp d l2 nm
 | [],_,_,_=>rfl
 | p::rest,l2,nm,h=>by
  simp only[hasB,List.any_cons,Bool.or_eq_false_iff] at h;rw[List.cons_append,evL,if_neg (by simp[h.1])];exact Ad5 fe fp d rest l2 nm h.2
theorem AfY {ps:List Ph} (h:recB ps=true) {k:Nat} (hk:k<ps.length) (nm:ByteArray) (hg:goesB (ps.drop (k+1)) nm=true):hasB (ps.take (k+1)) nm=false:=by
 obtain⟨_,_,ha⟩:=(I4 ps).1 h;rw[← Bool.not_eq_true];intro hc;obtain⟨l,q,hq,he⟩:=(S8 _ _).1 hc;rw[List.getElem?_take] at hq;split at hq
 ·rename_i hl
  have hll:l<ps.length:=by omega
  have hs:=ha l q hll hq;simp only[stepI,Bool.and_eq_true,Bool.not_eq_true',Ph.okB,phaseB] at hs;have h0:endN q.nm=0:=by simpa using hs.1.1.1.1.1.1.1.2
  have hn:endN nm=0:=(AdY he).symm.trans h0;simp only[goesB,hn,bne_self_eq_false,Bool.false_or] at hg;obtain⟨j,r,hj,hr,hre⟩:=(Y3 _ _ _).1 hg;have:hasB (ps.drop (l+1)) q.nm=true:=(Y3 _ _ _).2 ⟨j,r,by omega,hr,AdW hre he⟩;rw[hs.1.1.2] at this;cases this
 ·cases hq
theorem Aib {ps:List Ph} (h:recB ps=true) {k:Nat} (hk:k<ps.length):goesB (ps.drop (k+1)) (ps[k]).t=true/\goesB (ps.drop (k+1)) (ps[k]).e=true:=by
 obtain⟨_,_,ha⟩:=(I4 ps).1 h;have hs:=ha k ps[k] hk (by simp[hk]);simp only[stepI,Bool.and_eq_true] at hs;exact⟨hs.1.2,hs.2⟩
theorem AeR {ps:List Ph} (h:recB ps=true) (fe:Int->τ) (fp:Ph->τ->τ->τ) (d:τ) {k:Nat} (hk:k<ps.length) (nm:ByteArray) (hg:goesB (ps.drop (k+1)) nm=true):evL fe fp d ps nm=evL fe fp d (ps.drop (k+1)) nm:=by
 have:=Ad5 fe fp d (ps.take (k+1)) (ps.drop (k+1)) nm (AfY h hk nm hg);rwa [List.take_append_drop] at this
theorem AeS {ps:List Ph} (h:recB ps=true) {k:Nat} (hk:k<ps.length) (nm:ByteArray) (hg:goesB (ps.drop (k+1)) nm=true):atI ps nm<0∨(k:Int)<atI ps nm:=by
 rcases Y4 ps nm with⟨_,ha⟩|⟨j,q,hq,he,ha,_⟩
 ·left;rw[ha];omega
 ·right
  rw[ha];rcases Nat.lt_or_ge k j with h'|h'
  ·omega
  ·have:hasB (ps.take (k+1)) nm=true:=(S8 _ _).2 ⟨j,q,by rw[List.getElem?_take,if_pos (by omega)];exact hq,he⟩
   rw[AfY h hk nm hg] at this;cases this
theorem AfZ {ps:List Ph} (h:recB ps=true) (fe:Int->τ) (fp:Ph->τ->τ->τ) (d:τ) (nm:ByteArray) {k:Nat} (hk:k<ps.length) (ha:atI ps nm=(k:Int)) :
  evL fe fp d ps nm=fp ps[k] (evL fe fp d ps (ps[k]).t) (evL fe fp d ps (ps[k]).e):=by
 obtain⟨g1,g2⟩:=Aib h hk;rw[AeR h fe fp d hk _ g1,AeR h fe fp d hk _ g2];rcases Y4 ps nm with⟨_,hn⟩|⟨j,q,hq,he,hj,hl⟩
 ·omega
 ·obtain rfl:j=k:=by omega
  have hno:hasB (ps.take j) nm=false:=by
   rw[← Bool.not_eq_true];intro hc;obtain⟨l,r,hr,hre⟩:=(S8 _ _).1 hc;rw[List.getElem?_take] at hr;split at hr
   ·rename_i hlj
    rw[hl l r hlj hr] at hre;cases hre
   ·cases hr
  have h1:=Ad5 fe fp d (ps.take j) (ps.drop j) nm hno;rw[List.take_append_drop] at h1;obtain⟨_,rfl⟩:=A2.1 hq;rw[h1,D4 hk,evL,if_pos he]
theorem AmE (ps:List Ph) (fe:Int->τ) (fp:Ph->τ->τ->τ) (d:τ) (nm:ByteArray) (ha:atI ps nm<0):evL fe fp d ps nm=if endN nm=0 then d else fe (endN nm):=by
 rcases Y4 ps nm with⟨hn,_⟩|⟨j,q,hq,he,hj,hl⟩
 ·exact Ad3 fe fp d ps nm hn
 ·omega
theorem Ako (ps:List Ph) (nm:ByteArray):atI ps nm<(ps.length:Int):=by
 rcases Y4 ps nm with⟨_,hn⟩|⟨j,q,hq,he,hj,hl⟩
 ·omega
 ·have:=(A2.1 hq).1;omega
end
end Go.Proofs.YtgecdacgmehmbaaGreatDoor
