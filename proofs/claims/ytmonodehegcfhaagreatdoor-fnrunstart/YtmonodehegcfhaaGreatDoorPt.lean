/- Tables over a recipe: plain facts. -/
import Derived.Test.YtmonodehegcfhaaGreatDoorJ2
import Derived.Laws.Strings
namespace Go.Proofs.YtmonodehegcfhaaGreatDoor
section
variable {τ:Type}
def look(rows:List (BA×τ))(nm:BA)(d:τ):τ:=match rows.find? λr=>r.1.toList==nm.toList with
 | some r=>r.2
 | none=>d
def GP:BA:=⟨#[103,111,111,100]⟩
def ER:BA:=⟨#[115,97,118,101,100]⟩
def BO:BA:=⟨#[115,99,114,97,112,112,101,100]⟩
def BT(fe:Int->τ):List (BA×τ):=[(GP,fe 1),(ER,fe 2),(BO,fe 3)]
def fill(fe:Int->τ)(fp:Ph->τ->τ->τ)(d:τ):List Ph->List (BA×τ)
 | []=>BT fe
 | p::rest=>fill fe fp d rest++[(p.nm,fp p (look (fill fe fp d rest) p.t d) (look (fill fe fp d rest) p.e d))]
def Bi(fe:Int->τ)(fp:Ph->τ->τ->τ)(d:τ):List Ph->BA->τ
 | [],nm=>if M6 nm=0 then d else fe (M6 nm)
 | p::rest,nm=>if (p.nm.toList==nm.toList)=true then fp p (Bi fe fp d rest p.t) (Bi fe fp d rest p.e) else Bi fe fp d rest nm
def Sb:List Ph->Prop
 | []=>True
 | p::rest=>M6 p.nm=0/\O6 rest p.nm=false/\Sb rest
theorem LD{a b:BA}(h:(a.toList==b.toList)=true):M6 a=M6 b:=by
 have e:a.toList=b.toList:=by simpa using h
 simp only[M6,e]
theorem Sc{a b:BA}(h:(a.toList==b.toList)=true)(ps:List Ph):O6 ps a=O6 ps b:=by
 have e:a.toList=b.toList:=by simpa using h
 simp only[O6,e]
theorem Ql(rows:List (BA×τ))(a nm:BA)(v d:τ):look (rows++[(a,v)]) nm d=if (rows.any λr=>r.1.toList==nm.toList)=true then look rows nm d else if (a.toList==nm.toList)=true then v else d:=by
 unfold look;rw[List.find?_append];cases h:rows.find? λr=>r.1.toList==nm.toList with
 | some r =>
  have:(rows.any λr=>r.1.toList==nm.toList)=true:=by
   rw[List.any_eq_true];exact⟨r,List.mem_of_find?_eq_some h,by have:=List.find?_some h;simpa using this⟩
  simp[this]
 | none =>
  have:(rows.any λr=>r.1.toList==nm.toList)=false:=by
   rw[← Bool.not_eq_true,List.any_eq_true];rintro⟨r,hr,he⟩;have:=List.find?_eq_none.1 h r hr;exact this he
  by_cases ha:(a.toList==nm.toList)=true
  ·simp[this,ha]
  ·simp only[Bool.not_eq_true] at ha;simp[this,ha]
def Gt(rows:List (BA×τ))(nm:BA)(k:Nat):Prop:=∀(j:Nat)(r:BA×τ),j<k->rows[j]?=some r->(r.1.toList==nm.toList)=false
theorem LF{rows:List (BA×τ)}{nm:BA}{k:Nat}(h:Gt rows nm k)(hk:k<rows.length)(hq:((rows[k]).1.toList==nm.toList)=false):Gt rows nm (k+1):=λj r hj hr=>by
 rcases Nat.lt_or_ge j k with h'|h'
 ·exact h j r h' hr
 ·obtain rfl:j=k:=by omega
  obtain⟨_,rfl⟩:=A3.1 hr;exact hq
theorem Oo{rows:List (BA×τ)}{nm:BA}{k:Nat}(d:τ)(h:Gt rows nm k)(hk:k<rows.length)(hq:((rows[k]).1.toList==nm.toList)=true):look rows nm d=(rows[k]).2:=by
 have:(rows.find? λr=>r.1.toList==nm.toList)=some rows[k]:=by
  rw[List.find?_eq_some_iff_getElem];exact⟨hq,k,hk,rfl,λj hj=>by simp[h j rows[j] hj (by simp[Nat.lt_trans hj hk])]⟩
 simp only[look,this]
theorem MT{rows:List (BA×τ)}{nm:BA}{k:Nat}(d:τ)(h:Gt rows nm k)(hk:¬k<rows.length):look rows nm d=d:=by
 have:(rows.find? λr=>r.1.toList==nm.toList)=none:=by
  rw[List.find?_eq_none];intro r hr;obtain⟨j,hj,rfl⟩:=B7 hr;simp[h j rows[j] (by omega) (by simp[hj])]
 simp only[look,this]
theorem Cr(l:List UInt8):(⟨l.toArray⟩:BA).toList=l:=by
 rw[Go.ByteArray.toList_eq]
theorem TM(fe:Int->τ)(nm:BA):((BT fe).any λr=>r.1.toList==nm.toList)=(M6 nm != 0):=by
 have g:GP.toList=[103,111,111,100]:=Cr [103,111,111,100];have s:ER.toList=[115,97,118,101,100]:=Cr [115,97,118,101,100];have c:BO.toList=[115,99,114,97,112,112,101,100]:=Cr [115,99,114,97,112,112,101,100];simp only[BT,List.any_cons,List.any_nil,g,s,c,M6,Bool.beq_comm (b:=nm.toList),Bool.or_false];split
 ·simp[*]
 ·split
  ·simp[*]
  ·split
   ·simp[*]
   ·simp_all
theorem Sd(fe:Int->τ)(nm:BA)(d:τ):look (BT fe) nm d=if M6 nm=0 then d else fe (M6 nm):=by
 have g:GP.toList=[103,111,111,100]:=Cr [103,111,111,100];have s:ER.toList=[115,97,118,101,100]:=Cr [115,97,118,101,100];have c:BO.toList=[115,99,114,97,112,112,101,100]:=Cr [115,99,114,97,112,112,101,100];have hb:∀l:List UInt8,(l==nm.toList)=(nm.toList==l):=λl=>Bool.beq_comm;simp only[look,BT,List.find?_cons,g,s,c,hb,M6];by_cases h1:(nm.toList==[103,111,111,100])=true
 ·simp[h1]
 ·by_cases h2:(nm.toList==[115,97,118,101,100])=true
  ·simp only[Bool.not_eq_true] at h1;simp[h1,h2]
  ·by_cases h3:(nm.toList==[115,99,114,97,112,112,101,100])=true
   ·simp only[Bool.not_eq_true] at h1 h2;simp[h1,h2,h3]
   ·simp only[Bool.not_eq_true] at h1 h2 h3;simp[h1,h2,h3]
theorem Oq(fe:Int->τ)(fp:Ph->τ->τ->τ)(d:τ):∀(l:List Ph)(nm:BA),((fill fe fp d l).any λr=>r.1.toList==nm.toList)=(M6 nm != 0 || O6 l nm)
 | [],nm=>by rw[fill,TM];simp[O6]
 | p::rest,nm=>by
  rw[fill,List.any_append,Oq fe fp d rest nm];simp only[List.any_cons,List.any_nil,Bool.or_false,O6,Bool.or_assoc];rw[Bool.or_comm (p.nm.toList==nm.toList)]
theorem La(fe:Int->τ)(fp:Ph->τ->τ->τ)(d:τ):∀(l:List Ph)(nm:BA),O6 l nm=false->Bi fe fp d l nm=if M6 nm=0 then d else fe (M6 nm)
 | [],nm,_=>rfl
 | p::rest,nm,h=>by
  simp only[O6,List.any_cons,Bool.or_eq_false_iff] at h;rw[Bi,if_neg (by simp[h.1])];exact La fe fp d rest nm h.2
theorem DR(fe:Int->τ)(fp:Ph->τ->τ->τ)(d:τ):∀(l:List Ph),Sb l->∀nm,look (fill fe fp d l) nm d=Bi fe fp d l nm
 | [],_,nm=>by rw[fill,Sd,Bi]
 | p::rest,hd,nm=>by
  obtain⟨h1,h2,h3⟩:=hd;have ih:=DR fe fp d rest h3;rw[fill,Ql,Oq,Bi];by_cases he:(p.nm.toList==nm.toList)=true
  ·have e1:M6 nm=0:=(LD he).symm.trans h1;have e2:O6 rest nm=false:=(Sc he rest).symm.trans h2;simp[he,e1,e2,ih]
  ·rw[if_neg he,if_neg he,ih nm];split
   ·rfl
   ·rename_i hn;simp only[Bool.not_eq_true,Bool.or_eq_false_iff,bne_eq_false_iff_eq] at hn;rw[La fe fp d rest nm hn.2,if_pos hn.1]
theorem DH(fe:Int->τ)(fp:Ph->τ->τ->τ)(d:τ):∀l:List Ph,(fill fe fp d l).length=l.length+3
 | []=>rfl
 | p::rest=>by rw[fill,B0,DH fe fp d rest];simp only[List.length_cons,List.length_nil]
theorem VO(fe:Int->τ)(fp:Ph->τ->τ->τ)(d:τ)(l:List Ph):0<(fill fe fp d l).length:=by rw[DH];omega
theorem MU(fe:Int->τ)(fp:Ph->τ->τ->τ)(d:τ){ps:List Ph}{m:Nat}(hm:m<ps.length):
  fill fe fp d (ps.drop m)=fill fe fp d (ps.drop (m+1))++[((ps[m]).nm,fp ps[m] (look (fill fe fp d (ps.drop (m+1))) (ps[m]).t d) (look (fill fe fp d (ps.drop (m+1))) (ps[m]).e d))]:=by
 rw[D4 hm];rfl
theorem Fg{ps:List Ph}(h:P3 ps=true):∀i,Sb (ps.drop i):=by
 obtain⟨_,_,ha⟩:=(M3 ps).1 h;suffices hh:∀n i,ps.length-i=n->Sb (ps.drop i) from λi=>hh _ i rfl
 intro n;induction n with
 | zero=>intro i hi;rw[List.drop_of_length_le (by omega)];trivial
 | succ n ih =>
  intro i hn;have hi:i<ps.length:=by omega
  have hs:=ha i ps[i] hi (by simp[hi]);rw[D4 hi];simp only[Be,Bool.and_eq_true,Bool.not_eq_true',Ph.okB,V9] at hs;refine⟨?_,hs.1.1.2,ih (i+1) (by omega)⟩;simpa using hs.1.1.1.1.1.1.1.2
theorem Lb(fe:Int->τ)(fp:Ph->τ->τ->τ)(d:τ):∀(l1 l2:List Ph)(nm:BA),O6 l1 nm=false->Bi fe fp d (l1++l2) nm=Bi fe fp d l2 nm
 | [],_,_,_=>rfl
 | p::rest,l2,nm,h=>by
  simp only[O6,List.any_cons,Bool.or_eq_false_iff] at h;rw[List.cons_append,Bi,if_neg (by simp[h.1])];exact Lb fe fp d rest l2 nm h.2
theorem Ot{ps:List Ph}(h:P3 ps=true){k:Nat}(hk:k<ps.length)(nm:BA)(hg:BS (ps.drop (k+1)) nm=true):O6 (ps.take (k+1)) nm=false:=by
 obtain⟨_,_,ha⟩:=(M3 ps).1 h;rw[← Bool.not_eq_true];intro hc;obtain⟨l,q,hq,he⟩:=(CN _ _).1 hc;rw[List.getElem?_take] at hq;split at hq
 ·rename_i hl;have a1:l<ps.length:=by omega
  have hs:=ha l q a1 hq;simp only[Be,Bool.and_eq_true,Bool.not_eq_true',Ph.okB,V9] at hs;have h0:M6 q.nm=0:=by simpa using hs.1.1.1.1.1.1.1.2
  have hn:M6 nm=0:=(LD he).symm.trans h0;simp only[BS,hn,bne_self_eq_false,Bool.false_or] at hg;obtain⟨j,r,hj,hr,a0⟩:=(DP _ _ _).1 hg;have:O6 (ps.drop (l+1)) q.nm=true:=(DP _ _ _).2 ⟨j,r,by omega,hr,LB a0 he⟩;rw[hs.1.1.2] at this;cases this
 ·cases hq
theorem Rm{ps:List Ph}(h:P3 ps=true){k:Nat}(hk:k<ps.length):BS (ps.drop (k+1)) (ps[k]).t=true/\BS (ps.drop (k+1)) (ps[k]).e=true:=by
 obtain⟨_,_,ha⟩:=(M3 ps).1 h;have hs:=ha k ps[k] hk (by simp[hk]);simp only[Be,Bool.and_eq_true] at hs;exact⟨hs.1.2,hs.2⟩
theorem MV{ps:List Ph}(h:P3 ps=true)(fe:Int->τ)(fp:Ph->τ->τ->τ)(d:τ){k:Nat}(hk:k<ps.length)(nm:BA)(hg:BS (ps.drop (k+1)) nm=true):Bi fe fp d ps nm=Bi fe fp d (ps.drop (k+1)) nm:=by
 have:=Lb fe fp d (ps.take (k+1)) (ps.drop (k+1)) nm (Ot h hk nm hg);rwa [List.take_append_drop] at this
theorem MW{ps:List Ph}(h:P3 ps=true){k:Nat}(hk:k<ps.length)(nm:BA)(hg:BS (ps.drop (k+1)) nm=true):U8 ps nm<0∨(k:Int)<U8 ps nm:=by
 rcases DQ ps nm with⟨_,ha⟩|⟨j,q,hq,he,ha,_⟩
 ·left;rw[ha];omega
 ·right
  rw[ha];rcases Nat.lt_or_ge k j with h'|h'
  ·omega
  ·have:O6 (ps.take (k+1)) nm=true:=(CN _ _).2 ⟨j,q,by rw[List.getElem?_take,if_pos (by omega)];exact hq,he⟩;rw[Ot h hk nm hg] at this;cases this
theorem Ou{ps:List Ph}(h:P3 ps=true)(fe:Int->τ)(fp:Ph->τ->τ->τ)(d:τ)(nm:BA){k:Nat}(hk:k<ps.length)(ha:U8 ps nm=(k:Int)):
  Bi fe fp d ps nm=fp ps[k] (Bi fe fp d ps (ps[k]).t) (Bi fe fp d ps (ps[k]).e):=by
 obtain⟨g1,g2⟩:=Rm h hk;rw[MV h fe fp d hk _ g1,MV h fe fp d hk _ g2];rcases DQ ps nm with⟨_,hn⟩|⟨j,q,hq,he,hj,hl⟩
 ·omega
 ·obtain rfl:j=k:=by omega
  have a1:O6 (ps.take j) nm=false:=by
   rw[← Bool.not_eq_true];intro hc;obtain⟨l,r,hr,a0⟩:=(CN _ _).1 hc;rw[List.getElem?_take] at hr;split at hr
   ·rename_i hlj;rw[hl l r hlj hr] at a0;cases a0
   ·cases hr
  have h1:=Lb fe fp d (ps.take j) (ps.drop j) nm a1;rw[List.take_append_drop] at h1;obtain⟨_,rfl⟩:=A3.1 hq;rw[h1,D4 hk,Bi,if_pos he]
theorem Xv(ps:List Ph)(fe:Int->τ)(fp:Ph->τ->τ->τ)(d:τ)(nm:BA)(ha:U8 ps nm<0):Bi fe fp d ps nm=if M6 nm=0 then d else fe (M6 nm):=by
 rcases DQ ps nm with⟨hn,_⟩|⟨j,q,hq,he,hj,hl⟩
 ·exact La fe fp d ps nm hn
 ·omega
theorem TN(ps:List Ph)(nm:BA):U8 ps nm<(ps.length:Int):=by
 rcases DQ ps nm with⟨_,hn⟩|⟨j,q,hq,he,hj,hl⟩
 ·omega
 ·have:=(A3.1 hq).1;omega
end
end Go.Proofs.YtmonodehegcfhaaGreatDoor
