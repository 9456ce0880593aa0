/- The program's chapter 13: copies. -/
import Derived.Test.YtebfdccbmmpceaaGreatDoorJ2
import Derived.Test.YtebfdccbmmpceaaGreatDoorKf
import Derived.Test.YtebfdccbmmpceaaGreatDoorJ1
namespace Go.Proofs.YtebfdccbmmpceaaGreatDoor
open Go.RowKit
theorem AcS {P:Program} {w:World} {t u ty e e':TypeId} (ht:P.underlying t=some (.slice e)) (hu:P.underlying u=some (.slice e')) (v x:Value) :
  (Builtin.append_ #[t,u] ty #[v,x]).run P w=(Builtin.append_ #[t,t] ty #[v,x]).run P w:=by
 unfold Builtin.append_;simp only[List.getElem?_toArray,List.getElem?_cons_zero,List.getElem?_cons_succ,Sem.run_bind,run_underlying ht,Result.andThen_ok];cases v with
 | slice a n c=>simp only[Sem.run_bind,run_underlying ht,run_underlying hu,Result.andThen_ok,Sem.run_pure]
 | _=>rfl
theorem X7 {P:Program} (w:World) {ops:Array Oper} {rest:List Oper} {o:Oper} {ac:Act} {Q:Exit->Act->World->Prop} (hg:o.guard=none) (s x:Operand) (t u:TypeId) (hop:o.op=.call {callee:=.builtin .append,args:=#[s,x],argTypes:=#[t,u]})
  (v xv v':Value) (w':World) (hs:ac.eval s=v) (hx:ac.eval x=xv) (hr:(Builtin.append_ #[t,u] o.type #[v,xv]).run P w=.ok v' w') (h:wpList P ops Q rest (ac.put o.dst v') w'):wpList P ops Q (o::rest) ac w:=by
 refine wpList_plain hg λK hK=>?_;unfold Oper.wp;simp[execOp,hop,resolve,invoke,builtin,hs,hx,hr,Result.andThen];exact hK _ _ h
set_option maxRecDepth 20000 in
theorem AaJ (ss:List ByteArray) (v:Value) (w:World) (h:Ls w v ss) (hn:ss.length<=1048576) :
  Calls Tryz.prog 163 #[v] w λe w'=>(∃u,e=.returned u/\OwnT w' w.heap.size u ss)/\Below w.heap.size w w':=by
 obtain⟨a,c,rfl,-,-,hpos⟩:=h;obtain⟨ii,hi,iz0,iz1,iz2⟩:=info_parts M1;have ho:OwnT w w.heap.size (.slice none 0 0) []:=B8 _ _ _ _;rcases C4 ss.length with h0|h0
 ·obtain rfl:=C5.1 h0
  simp only[List.length_nil];have hr:=(AcS (w:=w) (ty:=22) Tryz.underlying22 Tryz.underlying201 (.slice none 0 0) (.slice a 0 c)).trans (S7 w.heap.size 22 22 9 ii 1 Tryz.underlying22 hi _ 0 [] ho a c);clear hpos hn h0;go_enter Tryz.func163,Tryz.ntmps163
  go_wp2_with (at_builtin;refine X7 _ rfl _ _ _ _ rfl _ _ _ _ rfl rfl hr ?_)
  go_ret
  exact⟨⟨_,rfl,ho⟩,A4 _ _⟩
 ·obtain⟨g,o,rfl,hS,hg⟩:=hpos h0
  obtain⟨v1,w1,hr,hown1,hgr1,-⟩:=run_append_own (P:=Tryz.prog) w w.heap.size 22 22 9 ii _ 1 16 Tryz.underlying22 hi iz0 iz1 iz2 rfl (by decide) (.slice none 0 0) 0 [] ho ⟨g,o,none⟩ ss.length c (ss.map Value.string) (by simp) (K0 hS) (Aaa ss) (by unfold maxLen;omega) (by omega) (A3 _);have hr2:=(AcS (w:=w) (ty:=22) Tryz.underlying22 Tryz.underlying201 (.slice none 0 0) (.slice (some ⟨g,o,none⟩) ss.length c)).trans hr;have hB1:=I3 (A4 _ _) ho hgr1 (A3 _);have ho1:OwnT w1 w.heap.size v1 ss:=by unfold OwnT;simpa using hown1
  clear hown1 hgr1 hr hpos;go_enter Tryz.func163,Tryz.ntmps163
  go_wp2_with (at_builtin;refine X7 _ rfl _ _ _ _ rfl _ _ _ _ rfl rfl hr2 ?_)
  go_ret
  exact⟨⟨_,rfl,ho1⟩,hB1⟩
end Go.Proofs.YtebfdccbmmpceaaGreatDoor
namespace Go.Proofs.YtebfdccbmmpceaaGreatDoor
def bitsN:List ByteArray->(ByteArray->Bool)->Nat
 | [],_=>0
 | t::r,P=>(if P t=true then 1 else 0)+2*bitsN r P
theorem Aet (P:ByteArray->Bool) (t:ByteArray):∀l:List ByteArray,bitsN (l++[t]) P=bitsN l P+(if P t=true then 2 ^ l.length else 0)
 | []=>by simp[bitsN]
 | x::r=>by
  rw[List.cons_append,bitsN,bitsN,Aet P t r,List.length_cons,Nat.pow_succ];split<;>split<;>omega
theorem Agk (P:ByteArray->Bool):∀l:List ByteArray,bitsN l P<2 ^ l.length
 | []=>by simp[bitsN]
 | x::r=>by
  have:=Agk P r;rw[bitsN,List.length_cons,Nat.pow_succ];split<;>omega
theorem L7 {l:List ByteArray} (h:l.length<=8) (P:ByteArray->Bool):bitsN l P<256 :=
 A1 (Agk P l) (Nat.pow_le_pow_right (by omega) h)
theorem X9 {P Q:ByteArray->Bool}:∀{l:List ByteArray},(∀t∈l,P t=Q t)->bitsN l P=bitsN l Q
 | [],_=>rfl
 | x::r,h=>by rw[bitsN,bitsN,h x (by simp),X9 λt ht=>h t (by simp[ht])]
theorem Aby {P Q:ByteArray->Bool}:∀{l:List ByteArray},(∀t∈l,P t=true->Q t=false)->bitsN l P+bitsN l Q=bitsN l λt=>P t || Q t
 | [],_=>rfl
 | x::r,h=>by
  have h1:=Aby (P:=P) (Q:=Q) (l:=r) λt ht=>h t (by simp[ht]);have h2:=h x (by simp);rw[bitsN,bitsN,bitsN,← h1];cases hp:P x<;>cases hq:Q x<;>simp_all<;>omega
theorem Ak4 {P Q:ByteArray->Bool} {l:List ByteArray} (h:∀t∈l,Q t=true->P t=true):bitsN l P=bitsN l Q+bitsN l λt=>P t && !Q t:=by
 rw[Aby (λt _ hq=>by simp[hq])];refine X9 λt ht=>?_;cases hq:Q t
 ·simp
 ·simp[h t ht hq]
theorem Aae (P:ByteArray->Bool):∀(l:List ByteArray) (i:Nat),(bitsN l P).testBit i=(l[i]?.map P).getD false
 | [],i=>by simp[bitsN]
 | x::r,0=>by
  rw[bitsN,Nat.testBit_zero];have e:((if P x=true then 1 else 0)+2*bitsN r P) % 2=(if P x=true then 1 else 0):=by split<;>omega
  rw[e];cases h:P x<;>simp[h]
 | x::r,i+1=>by
  rw[bitsN,Nat.testBit_succ,List.getElem?_cons_succ,← Aae P r i];congr 1
  split<;>omega
theorem Ak5 {P Q:ByteArray->Bool} {l:List ByteArray} (hl:l.length<=8):(bitsN l P &&& (18446744073709551615-bitsN l Q)=0)↔∀t∈l,P t=true->Q t=true:=by
 have hQ:=L7 hl Q;have e:18446744073709551615-bitsN l Q=2 ^ 64-(bitsN l Q+1):=by omega
 constructor
 ·intro h t ht hp
  obtain⟨i,hi,rfl⟩:=B6 ht;have h1:=congrArg (Nat.testBit · i) h;simp only[Nat.testBit_and,Nat.zero_testBit] at h1;rw[e,Nat.testBit_two_pow_sub_succ (by omega),Aae,Aae,A0 hi] at h1;simp[hp] at h1;exact h1 (by omega)
 ·intro h
  refine Nat.eq_of_testBit_eq λi=>?_;rw[Nat.testBit_and,Nat.zero_testBit,e,Nat.testBit_two_pow_sub_succ (by omega),Aae,Aae];rcases Nat.lt_or_ge i l.length with hi|hi
  ·rw[A0 hi]
   have:=h l[i] (List.getElem_mem hi);cases hp:P l[i]<;>simp_all
  ·rw[C7 hi];simp
def CanTo (bs:List Ba) (at':Nat) (gone:List ByteArray) (k:Nat):Prop:=∀(i:Nat) (x y:Ba),i<k->i≠at'->bs[i]?=some x->bs[at']?=some y->memS gone x.nm=false->shareB x.has y.needs=false
def Can (bs:List Ba) (at':Nat) (gone:List ByteArray):Prop:=CanTo bs at' gone bs.length
theorem CanTo.zero (bs:List Ba) (a:Nat) (gone:List ByteArray):CanTo bs a gone 0:=λi _ _ h=>by omega
theorem An7 {bs:List Ba} {a:Nat} {gone:List ByteArray} {k:Nat} (h:CanTo bs a gone k) (hk:¬k<bs.length):Can bs a gone:=λi x y hi hne hx hy hm=>h i x y (by omega) hne hx hy hm
theorem CanTo.step {bs:List Ba} {a:Nat} {gone:List ByteArray} {k:Nat} (h:CanTo bs a gone k) (hk:k<bs.length) (ha:a<bs.length) (h1:k=a∨memS gone (bs[k]).nm=true∨shareB (bs[k]).has (bs[a]).needs=false):CanTo bs a gone (k+1):=λi x y hi hne hx hy hm=>by
 by_cases e:i=k
 ·subst e
  rw[A0 hk] at hx;rw[A0 ha] at hy;obtain rfl:=A5 hx;obtain rfl:=A5 hy;rcases h1 with h1|h1|h1
  ·exact absurd h1 hne
  ·rw[hm] at h1;cases h1
  ·exact h1
 ·exact h i x y (by omega) hne hx hy hm
theorem can_no {bs:List Ba} {a:Nat} {gone:List ByteArray} {k:Nat} (hk:k<bs.length) (ha:a<bs.length) (hne:k≠a) (hm:memS gone (bs[k]).nm=false) (hs:shareB (bs[k]).has (bs[a]).needs=true):¬Can bs a gone:=λh=>by
 have:=h k _ _ hk hne (A0 hk) (A0 ha) hm;rw[hs] at this;cases this
def freeB (bs:List Ba) (G:Nat->Bool) (k:Nat) (t:ByteArray):Bool:=(List.range k).all λi=>G i || !((bs[i]?.map λx=>memS x.has t).getD false)
theorem AcT (bs:List Ba) (G:Nat->Bool) (k:Nat) (t:ByteArray):freeB bs G k t=true↔∀(i:Nat) (x:Ba),i<k->bs[i]?=some x->G i=false->memS x.has t=false:=by
 simp only[freeB,List.all_eq_true,List.mem_range];constructor
 ·intro h i x hi hx hg
  have:=h i hi;rw[hx,hg] at this;simpa using this
 ·intro h i hi
  cases hg:G i
  ·cases hx:bs[i]? with
   | none=>simp
   | some x=>simp[h i x hi hx hg]
  ·rfl
theorem Aml {b:Bk} (hok:BookOk b) {a:Nat} (ha:a<b.bs.length) {gone:List ByteArray} {G:Nat->Bool} (hG:∀(i:Nat) (hi:i<b.bs.length),G i=memS gone (b.bs[i]).nm) (hga:G a=false) :
  (∀t∈b.things,memS (b.bs[a]).needs t=true->(freeB b.bs G b.bs.length t || memS (b.bs[a]).has t)=true)↔Can b.bs a gone:=by
 have hb:=hok.2.2.2.2.1.at ha ha;constructor
 ·intro h i x y hi hne hx hy hm
  rw[A0 hi] at hx;rw[A0 ha] at hy;obtain rfl:=A5 hx;obtain rfl:=A5 hy;rw[N9];intro s h1 h2;have h3:=h s (Acd hb.1.1 h2) ((K1 _ _).2 h2);rcases Bool.or_eq_true_iff.1 h3 with h4|h4
  ·have:=(AcT _ _ _ _).1 h4 i _ hi (A0 hi) (by rw[hG i hi];exact hm)
   rw[S3] at this;exact this h1
  ·have h5:=(K1 _ _).1 h4
   rcases Nat.lt_or_gt_of_ne hne with h6|h6
   ·have:=hok.2.2.2.2.2.at ha h6
    rw[N9] at this;exact this s h5 h1
   ·have:=hok.2.2.2.2.2.at hi h6
    rw[N9] at this;exact this s h1 h5
 ·intro h t ht hn
  cases hh:memS (b.bs[a]).has t
  ·rw[Bool.or_false,AcT]
   intro i x hi hx hg;rw[A0 hi] at hx;obtain rfl:=A5 hx;by_cases e:i=a
   ·subst e;exact hh
   ·have:=h i _ _ hi e (A0 hi) (A0 ha) (by rw[← hG i hi];exact hg)
    rw[N9] at this;rw[S3];exact λh1=>this t h1 ((K1 _ _).1 hn)
  ·simp
theorem Ai5 {l:List ByteArray} {s:ByteArray} (h:0<=idxI l s):∃k:Nat,idxI l s=(k:Int)/\∃hk:k<l.length,l[k]=s:=by
 rw[idxI] at h ⊢
 split at h
 ·rename_i hm
  rw[if_pos hm];refine⟨_,rfl,?_⟩
  have hl:l.findIdx (λx=>x.toList==s.toList)<l.length:=by
   rw[List.findIdx_lt_length];rw[memS,List.any_eq_true] at hm;exact hm
  refine⟨hl,?_⟩;have:=List.findIdx_getElem (w:=hl);exact Aac (by simpa using this)
 ·omega
abbrev Tr:=Ba×Bool
def rowC (things:List ByteArray) (p:Tr):List Value:=[.string p.1.nm,.int .u64 (bitsN things (memS p.1.has):Nat),.int .u64 (bitsN things (memS p.1.needs):Nat),.bool p.2]
def rowsL (things:List ByteArray):List Tr->List Value
 | []=>[]
 | p::r=>rowC things p++rowsL things r
theorem Agl (things:List ByteArray):∀ts:List Tr,(rowsL things ts).length=ts.length*4
 | []=>rfl
 | p::r=>by rw[rowsL,A9,Agl things r,List.length_cons];simp[rowC];omega
theorem Aeu (things:List ByteArray) (p:Tr):∀ts:List Tr,rowsL things (ts++[p])=rowsL things ts++rowC things p
 | []=>by simp[rowsL]
 | q::r=>by rw[List.cons_append,rowsL,rowsL,Aeu things p r,List.append_assoc]
theorem Aa8 (things:List ByteArray):∀(ts:List Tr) (i j:Nat) (p:Tr),ts[i]?=some p->j<4->(rowsL things ts)[i*4+j]?=(rowC things p)[j]?
 | [],i,j,p,h,_=>by simp at h
 | q::r,0,j,p,h,hj=>by
  simp at h;subst h
  rw[rowsL,List.getElem?_append_left (by simp[rowC];omega)];simp
 | q::r,i+1,j,p,h,hj=>by
  rw[rowsL,C9 (by simp[rowC];omega)];have e:(i+1)*4+j-(rowC things q).length=i*4+j:=by simp[rowC];omega
  rw[e];exact Aa8 things r i j p (by simpa using h) hj
theorem Afi (things:List ByteArray):∀(ts:List Tr) (i:Nat) (p:Tr),ts[i]?=some p->(rowsL things ts).set (i*4+3) (.bool true)=rowsL things (ts.set i (p.1,true))
 | [],i,p,h=>by simp at h
 | q::r,0,p,h=>by
  simp at h;subst h
  simp[rowsL,rowC]
 | q::r,i+1,p,h=>by
  rw[rowsL,List.set_append_right _ _ (by simp[rowC];omega)];have e:(i+1)*4+3-(rowC things q).length=i*4+3:=by simp[rowC];omega
  rw[e,Afi things r i p (by simpa using h)];simp[rowsL]
def freeL (ts:List Tr) (t:ByteArray):Bool:=ts.all λp=>p.2 || !memS p.1.has t
theorem Z0 (ts:List Tr) (t:ByteArray):freeL ts t=true↔∀(i:Nat) (p:Tr),ts[i]?=some p->p.2=false->memS p.1.has t=false:=by
 simp only[freeL,List.all_eq_true,Bool.or_eq_true,Bool.not_eq_true'];constructor
 ·intro h i p hp h2
  rcases h p (A6 hp) with h3|h3
  ·rw[h2] at h3;cases h3
  ·exact h3
 ·intro h p hp
  obtain⟨i,hi,rfl⟩:=B6 hp;cases h2:ts[i].2
  ·exact .inr (h i _ (A0 hi) h2)
  ·exact .inl rfl
theorem Agm {bs:List Ba} {ts:List Tr} (h:ts.map (·.1)=bs) (t:ByteArray):freeL ts t=freeB bs (λi=>(ts[i]?.map (·.2)).getD false) bs.length t:=by
 rw[Bool.eq_iff_iff,Z0,AcT];subst h;constructor
 ·intro h i x hi hx hg
  rw[B0,B5] at hx;obtain⟨p,hp,rfl⟩:=hx;exact h i p hp (by rw[hp] at hg;simpa using hg)
 ·intro h i p hp h2
  exact h i p.1 (by simpa using (A2.1 hp).1) (by rw[B0,hp];rfl) (by rw[hp];simpa using h2)
theorem Ajb (ts:List Tr) (p:Tr) (t:ByteArray):freeL (ts++[p]) t=(freeL ts t&&(p.2 || !memS p.1.has t)):=by simp[freeL]
theorem Y0 {bs:List Ba} {ts:List Tr} (h:ts.map (·.1)=bs) {i:Nat} {p:Tr} (hp:ts[i]?=some p):bs[i]?=some p.1:=by subst h;rw[B0,hp];rfl
theorem Ak6 {bs:List Ba} (ha:Apart bs) {ts:List Tr} {k:Nat} (hk:k<bs.length) (h:ts.map (·.1)=bs.take k) (things:List ByteArray) :
  bitsN things (freeL ts)=bitsN things (memS (bs[k]).has)+bitsN things (freeL (ts++[(bs[k],false)])):=by
 rw[Ak4 (P:=freeL ts) (Q:=memS (bs[k]).has)]
 ·congr 1
  refine X9 λt _=>?_;rw[Ajb];simp
 ·intro t _ hm
  rw[Z0];intro i p hp _;have h1:=Y0 h hp;rw[List.getElem?_take] at h1;split at h1
  ·rename_i hi
   rw[A0 (by omega)] at h1;obtain h1:=A5 h1;have:=ha.at hk hi;rw[N9] at this;rw[S3,← h1];exact this t ((K1 _ _).1 hm)
  ·cases h1
theorem Ajc {bs:List Ba} (ha:Apart bs) {ts:List Tr} {i:Nat} {p:Tr} (h:ts.map (·.1)=bs) (hp:ts[i]?=some p) (hg:p.2=false) (things:List ByteArray) :
  bitsN things (freeL ts)+bitsN things (memS p.1.has)=bitsN things (freeL (ts.set i (p.1,true))):=by
 have hi:=(A2.1 hp).1;have hb:=Y0 h hp;have hib:i<bs.length:=by rw[← h];simpa using hi
 rw[Aby]
 ·refine X9 λt _=>?_
  rw[Bool.eq_iff_iff,Bool.or_eq_true,Z0,Z0];constructor
  ·rintro (h1|h1) j q hq hg2
   ·rw[List.getElem?_set] at hq
    split at hq
    ·obtain rfl:=A5 hq;cases hg2
    ·exact h1 j q hq hg2
   ·rw[List.getElem?_set] at hq
    split at hq
    ·obtain rfl:=A5 hq;cases hg2
    ·rename_i hne
     have hq':=Y0 h hq;have hjb:=(A2.1 hq').1;rw[S3];intro h5;have h6:=(K1 _ _).1 h1;rw[A0 hjb] at hq';rw[A0 hib] at hb;have hq2:=A5 hq';have hb2:=A5 hb;rcases Nat.lt_or_gt_of_ne hne with h7|h7
     ·have:=ha.at hjb h7
      rw[N9,hq2,hb2] at this;exact this t h5 h6
     ·have:=ha.at hib h7
      rw[N9,hq2,hb2] at this;exact this t h6 h5
  ·intro h1
   cases hm:memS p.1.has t
   ·refine .inl λj q hq hg2=>?_
    by_cases e:i=j
    ·subst e;rw[hp] at hq;obtain rfl:=A5 hq;exact hm
    ·exact h1 j q (by rw[List.getElem?_set,if_neg e];exact hq) hg2
   ·exact .inr rfl
 ·intro t _ h1
  exact (Z0 _ _).1 h1 i p hp hg
theorem Ai6 {b:Bk} (hok:BookOk b) {ts:List Tr} (h:ts.map (·.1)=b.bs) {gone:List ByteArray} (hG:∀(i:Nat) (p:Tr),ts[i]?=some p->p.2=memS gone p.1.nm) {a:Nat} {p:Tr} (hp:ts[a]?=some p) (hg:p.2=false) :
  (bitsN b.things (memS p.1.needs) &&& (18446744073709551615-(bitsN b.things (freeL ts)+bitsN b.things (memS p.1.has)))=0)↔Can b.bs a gone:=by
 have hb:=Y0 h hp;have hab:a<b.bs.length:=(A2.1 hb).1;have hb2:b.bs[a]=p.1:=by rw[A0 hab] at hb;exact A5 hb
 rw[Aby (λt _ h1=>(Z0 _ _).1 h1 a p hp hg),Ak5 hok.1.1,
  ← Aml hok hab (gone:=gone) (G:=λi=>(ts[i]?.map (·.2)).getD false) (λi hi=>?_) (by simp[hp,hg]),hb2]
 ·constructor
  ·intro h1 t ht hn;rw[← Agm h];exact h1 t ht hn
  ·intro h1 t ht hn;have:=h1 t ht hn;rwa [← Agm h] at this
 ·have hi':i<ts.length:=by rw[← h] at hi;simpa using hi
  have e:=Y0 h (A0 hi');rw[A0 hi] at e;rw[A0 hi'];simp only[Option.map_some,Option.getD_some];rw[hG i _ (A0 hi'),A5 e]
def Good (bs:List Ba) (gone:List ByteArray) (k:Nat):Prop:=∃x,bs[k]?=some x/\memS gone x.nm=false/\Can bs k gone
def NextIs (bs:List Ba) (gone:List ByteArray) (n:Int):Prop:=(n=-1/\∀k,k<bs.length->¬Good bs gone k)∨∃k:Nat,n=(k:Int)/\k<bs.length/\Good bs gone k/\∀j,j<k->¬Good bs gone j
theorem NextIs.uniq {bs:List Ba} {gone:List ByteArray} {m n:Int} (h:NextIs bs gone m) (h':NextIs bs gone n):m=n:=by
 rcases h with⟨rfl,h1⟩|⟨k,rfl,hk,hg,hl⟩<;>rcases h' with⟨rfl,h2⟩|⟨j,rfl,hj,gg,gl⟩
 ·rfl
 ·exact absurd gg (h1 j hj)
 ·exact absurd hg (h2 k hk)
 ·rcases Nat.lt_trichotomy k j with h3|h3|h3
  ·exact absurd hg (gl k h3)
  ·rw[h3]
  ·exact absurd gg (hl j h3)
inductive Goes (bs:List Ba):Nat->List ByteArray->Prop
 | none:Goes bs 0 []
 | more {n:Nat} {gone:List ByteArray} {k:Nat} {x:Ba}:Goes bs n gone->NextIs bs gone (k:Int)->bs[k]?=some x->Goes bs (n+1) (gone++[x.nm])
theorem Goes.length {bs:List Ba} {n:Nat} {gone:List ByteArray} (h:Goes bs n gone):gone.length=n:=by
 induction h with
 | none=>rfl
 | more _ _ _ ih=>simp[ih]
theorem Goes.uniq {bs:List Ba} {n:Nat} {g g':List ByteArray} (h:Goes bs n g) (h':Goes bs n g'):g=g':=by
 induction h generalizing g' with
 | none=>cases h';rfl
 | more h1 h2 h3 ih =>
  cases h' with
  | more k1 k2 k3 =>
   obtain rfl:=ih k1;have e:=h2.uniq k2;obtain rfl:_=_:=Int.ofNat.inj e;rw[h3] at k3;obtain rfl:=A5 k3;rfl
theorem Goes.part {bs:List Ba} {n:Nat} {gone:List ByteArray} (h:Goes bs n gone):∀m,m<=n->Goes bs m (gone.take m):=by
 induction h with
 | none=>intro m hm;obtain rfl:m=0:=(by omega);exact .none
 | @more n gone k x h1 h2 h3 ih =>
  intro m hm;have hl:=h1.length;by_cases e:m=n+1
  ·subst e
   rw[D3 (by simp[hl])];exact .more h1 h2 h3
  ·rw[List.take_append_of_le_length (by omega)]
   exact ih m (by omega)
def OrderIs (b:Bk) (ss:List ByteArray) (ok:Bool):Prop:=(ok=true/\BookOk b/\Goes b.bs b.bs.length ss)∨(ok=false/\ss=[]/\(¬BookOk b∨∃n gone,n<b.bs.length/\Goes b.bs n gone/\NextIs b.bs gone (-1)))
theorem OrderIs.uniq {b:Bk} {ss ss':List ByteArray} {ok ok':Bool} (h:OrderIs b ss ok) (h':OrderIs b ss' ok'):ss=ss'/\ok=ok':=by
 have no:∀{t},BookOk b->Goes b.bs b.bs.length t->¬(¬BookOk b∨∃n gone,n<b.bs.length/\Goes b.bs n gone/\NextIs b.bs gone (-1)):=by
  rintro t hb hg (h1|⟨n,gone,hn,h2,h3⟩)
  ·exact h1 hb
  ·have h4:=hg.part (n+1) (by omega)
   have hl:=hg.length;generalize hq:t.take (n+1)=q at h4;cases h4 with
   | more k1 k2 k3 =>
    obtain rfl:=h2.uniq k1;have:=h3.uniq k2;omega
 rcases h with⟨rfl,h1,h2⟩|⟨rfl,rfl,h2⟩<;>rcases h' with⟨rfl,g1,g2⟩|⟨rfl,rfl,g2⟩
 ·exact⟨h2.uniq g2,rfl⟩
 ·exact absurd g2 (no h1 h2)
 ·exact absurd h2 (no g1 g2)
 ·exact⟨rfl,rfl⟩
theorem AbD {bs:List Ba} {gone:List ByteArray} {k:Nat} (h:∀j,j<k->¬Good bs gone j) (h1:¬Good bs gone k):∀j,j<k+1->¬Good bs gone j:=λj hj=>by
 by_cases e:j=k
 ·subst e;exact h1
 ·exact h j (by omega)
theorem Amm {bs:List Ba} {gone:List ByteArray} {k:Nat} (hk:k<bs.length):Good bs gone k↔memS gone (bs[k]).nm=false/\Can bs k gone:=by
 constructor
 ·rintro⟨x,hx,h⟩
  rw[A0 hk] at hx;obtain rfl:=A5 hx;exact h
 ·exact λh=>⟨_,A0 hk,h⟩
def Szb (b:Bk):Prop:=(∀s∈b.things,s.size<=maxLen)/\∀x∈b.bs,(∀s∈x.has,s.size<=maxLen)/\(∀s∈x.needs,s.size<=maxLen)
def nobody:Bk:=⟨[],[]⟩
theorem Aau:Szb nobody:=⟨λs hs=>by simp[nobody] at hs,λx hx=>by simp[nobody] at hx⟩
def plN (b:Bk) (nm:ByteArray):Nat:=(idxI (nms b.bs) nm).toNat
theorem T8 {b:Bk} {nm:ByteArray} (h:memS (nms b.bs) nm=true):idxI (nms b.bs) nm=(plN b nm:Int)/\plN b nm<b.bs.length:=by
 have h0:=AdJ (nms b.bs) nm;rw[h,decide_eq_true_eq] at h0;refine⟨by unfold plN;omega,?_⟩;rw[plN,idxI,if_pos h]
 have:(nms b.bs).findIdx (λx=>x.toList==nm.toList)<(nms b.bs).length:=List.findIdx_lt_length.2 (by
  rw[memS,List.any_eq_true] at h;exact h)
 rw[I6] at this;simpa using this
noncomputable def leaveC (b:Bk) (nm:ByteArray):Int:=if bookB b=false then 1 else if memS (nms b.bs) nm=false then 3 else 0
noncomputable def leaveB (b:Bk) (nm:ByteArray):Bk:=if bookB b=false then nobody else if memS (nms b.bs) nm=false then b else ⟨b.things,b.bs.take (plN b nm)++b.bs.drop (plN b nm+1)⟩
theorem Ach {b:Bk} {nm:ByteArray} (h:bookB b=false):leaveC b nm=1/\leaveB b nm=nobody:=by simp[leaveC,leaveB,h]
theorem AaK {b:Bk} {nm:ByteArray} (h:bookB b=true) (hm:memS (nms b.bs) nm=false):leaveC b nm=3/\leaveB b nm=b:=by simp[leaveC,leaveB,h,hm]
theorem Abz {b:Bk} {nm:ByteArray} (h:bookB b=true) (hm:memS (nms b.bs) nm=true):leaveC b nm=0/\leaveB b nm=⟨b.things,b.bs.take (plN b nm)++b.bs.drop (plN b nm+1)⟩:=by simp[leaveC,leaveB,h,hm]
theorem Ak7 {α:Type} (p:α->Bool):∀(l:List α) (k:Nat),k<=l.length->(∀j x,j<k->l[j]?=some x->p x=true)->(∀x,l[k]?=some x->p x=false)->(l.takeWhile p).length=k
 | [],k,hk,_,_=>by simp at hk;subst hk;rfl
 | x::r,0,_,_,h2=>by
  rw[List.takeWhile_cons,h2 x (by simp)];rfl
 | x::r,k+1,hk,h1,h2=>by
  rw[List.takeWhile_cons,h1 0 x (by omega) (by simp)];simp only[if_true,List.length_cons];rw[Ak7 p r k (by simpa using hk) (λj y hj hy=>h1 (j+1) y (by omega) (by simpa using hy)) (λy hy=>h2 y (by simpa using hy))]
theorem O0 {b:Bk} (h:BookOk b):b.things.length<=8/\b.bs.length<=5/\∀x∈b.bs,x.has.length<=8/\x.needs.length<=8:=by
 refine⟨h.1.1,h.2.1,λx hx=>?_⟩;obtain⟨i,hi,rfl⟩:=B6 hx;have ho:=h.2.2.2.2.1.at (k:=i) hi hi;have h1:=N8 ho.1;have h2:=N8 ho.2;have h0:=h.1.1;omega
theorem O4 {b:Bk} (h:bookB b=true):BookOk b:=F8.1 h
end Go.Proofs.YtebfdccbmmpceaaGreatDoor
namespace Go.Proofs.YtebfdccbmmpceaaGreatDoor
open Go.RowKit
theorem Aaf (a b:List Bv):rowsB (a++b)=rowsB a++rowsB b:=by
 induction a with
 | nil=>rfl
 | cons p r ih=>simp[rowsB,ih]
theorem K5:∀(ps:List Bv) (i:Nat) (p:Bv),ps[i]?=some p->∀(j:Nat) (u:Value),(rowB p)[j]?=some u->(rowsB ps)[i*3+j]?=some u
 | q::r,0,p,hp,j,u,hu=>by
  simp at hp;subst hp
  have hj:j<(rowB q).length:=(A2.1 hu).1;rw[rowsB,Nat.zero_mul,Nat.zero_add,List.getElem?_append_left hj];exact hu
 | q::r,i+1,p,hp,j,u,hu=>by
  have:=K5 r i p (by simpa using hp) j u hu;have hl:(rowB q).length=3:=rfl;rw[rowsB,C9 (by rw[hl];omega),hl,show (i+1)*3+j-3=i*3+j by omega];exact this
theorem Ajd (ps:List Bv) (k:Nat) (hk:k<=ps.length):(rowsB ps).take (k*3)=rowsB (ps.take k):=by
 have h:rowsB ps=rowsB (ps.take k)++rowsB (ps.drop k):=by rw[← Aaf,List.take_append_drop]
 rw[h,List.take_left' (by rw[R3,B7];omega)]
def BkW (w:World) (base:Nat) (v:Value) (b:Bk):Prop:=∃tu bu ps,v=.agg #[tu,bu]/\OwnT w base tu b.things/\BsW w base bu ps/\ps.map (·.1)=b.bs
theorem BkV.szb {w:World} {v:Value} {b:Bk} (h:BkV w v b):Szb b:=by
 obtain⟨tv,bv,rfl,⟨_,_,_,_,h1,_⟩,⟨a,c,_,_,h2⟩⟩:=h;refine⟨h1,λx hx=>?_⟩;obtain⟨i,hi,rfl⟩:=B6 hx;obtain⟨g,o,_,hS,_⟩:=h2 (by omega);obtain⟨hv,nv,_,⟨_,_,_,_,h3,_⟩,⟨_,_,_,_,h4,_⟩,_⟩:=hS.at hi;exact⟨h3,h4⟩
theorem Y7 {w:World} {base e size n g cap:Nat} {xs:List Value} (h:w.ownsRow base e size (.slice (some ⟨g,0,none⟩) n cap) n xs):n<=cap/\cap<=maxLen:=by
 rcases h.2 with⟨h0,_⟩|⟨g',cap',cur,h',_,_,hc,hm,_⟩
 ·simp at h0
 ·simp only[Value.slice.injEq] at h';omega
theorem Aav {w:World} {base e size n:Nat} {v:Value} {xs:List Value} (h:w.ownsRow base e size v n xs):n<=maxLen:=by
 rcases h.2 with⟨_,rfl⟩|⟨g,cap,_,_,_,_,h1,h2,_⟩
 ·omega
 ·omega
theorem BsW.bs {w:World} {base:Nat} {v:Value} {ps:List Bv} {bs:List Ba} (h:BsW w base v ps) (hm:ps.map (·.1)=bs) (hz:∀x∈bs,(∀s∈x.has,s.size<=maxLen)/\(∀s∈x.needs,s.size<=maxLen)):Bs w v bs:=by
 subst hm;have hl:(ps.map (·.1)).length=ps.length:=B4 _;obtain⟨a,c,rfl⟩:=F2 h.1;refine⟨a,c,by rw[hl],by rw[hl];exact Aav h.1,λhp=>?_⟩;rw[hl] at hp;obtain⟨g,cap,hv⟩:=F4 h.1 hp;obtain⟨rfl,-,rfl⟩:=Value.slice.inj hv;refine⟨g,0,rfl,λi x hx=>?_,(h.1.lt g rfl).2⟩;rw[B0,B5] at hx;obtain⟨p,hp',rfl⟩:=hx;have hpm:p∈ps:=A6 hp';obtain⟨q1,q2,q3⟩:=h.2 p hpm;have hzz:=hz p.1 (List.mem_map_of_mem hpm);have hi:i<ps.length:=(A2.1 hp').1;refine⟨p.2.1,p.2.2,λj u hu=>?_,q1.lst.ls hzz.1,q2.lst.ls hzz.2,q3⟩;have hr:=K5 ps i p hp' j u hu;have hj:j<3:=(A2.1 hu).1;rw[Nat.zero_add,h.1.cellAt (i*3+j) (by omega)];exact hr
theorem BkW.bk {w:World} {base:Nat} {v:Value} {b:Bk} (h:BkW w base v b) (hz:Szb b):BkV w v b:=by
 obtain⟨tu,bu,ps,rfl,h1,h2,h3⟩:=h;exact⟨tu,bu,rfl,h1.lst.ls hz.1,h2.bs h3 hz.2⟩
theorem BkW.low {w:World} {base base':Nat} {v:Value} {b:Bk} (h:BkW w base v b) (hb:base'<=base):BkW w base' v b:=by
 obtain⟨tu,bu,ps,rfl,h1,h2,h3⟩:=h;exact⟨tu,bu,ps,rfl,G4 h1 hb,h2.low hb,h3⟩
theorem BkW.up {w w':World} {base:Nat} {v:Value} {b:Bk} (h:BkW w base v b) (hb:Below w.heap.size w w'):BkW w' base v b:=by
 obtain⟨tu,bu,ps,rfl,h1,h2,h3⟩:=h;exact⟨tu,bu,ps,rfl,h1.up hb,h2.up hb,h3⟩
theorem BkW.set {w:World} {base r j:Nat} {v u:Value} {b:Bk} (h:BkW w base v b) (hr:r<base):BkW (w.setCell ⟨r,j,none⟩ u) base v b:=by
 obtain⟨tu,bu,ps,rfl,h1,h2,h3⟩:=h;exact⟨tu,bu,ps,rfl,E9 h1 (E0 (E4 _ _) _) hr,h2.set hr,h3⟩
theorem BkW.gr {w w':World} {base r:Nat} {v:Value} {b:Bk} (h:BkW w base v b) (hg:w.grownBy w' (some r)) (hr:r<base):BkW w' base v b:=by
 obtain⟨tu,bu,ps,rfl,h1,h2,h3⟩:=h;exact⟨tu,bu,ps,rfl,E9 h1 hg hr,⟨E9 h2.1 hg hr,λp hp=>⟨E9 (h2.2 p hp).1 hg hr,E9 (h2.2 p hp).2.1 hg hr,(h2.2 p hp).2.2⟩⟩,h3⟩
theorem BkW.parts {w:World} {base:Nat} {v:Value} {b:Bk} (h:BkW w base v b):∃a1 c1 a2 c2 ps,v=.agg #[.slice a1 b.things.length c1,.slice a2 b.bs.length c2]/\OwnT w base (.slice a1 b.things.length c1) b.things/\BsW w base (.slice a2 b.bs.length c2) ps/\ps.map (·.1)=b.bs:=by
 obtain⟨tu,bu,ps,rfl,h1,h2,h3⟩:=h;obtain⟨a1,c1,rfl⟩:=h1.lst.shape;obtain⟨a2,c2,rfl⟩:=F2 h2.1;have hl:ps.length=b.bs.length:=by rw[← h3,B4]
 rw[hl] at h2;exact⟨a1,c1,a2,c2,ps,by rw[hl],h1,h2,h3⟩
theorem AdL (w:World) (base:Nat):BkW w base (.agg #[.slice none 0 0,.slice none 0 0]) nobody :=
 ⟨_,_,[],rfl,B8 _ _ _ _,⟨B8 _ _ _ _,λp hp=>by simp at hp⟩,rfl⟩
theorem BkV.bsOf {w:World} {x y:Value} {b:Bk} (h:BkV w (.agg #[x,y]) b):Bs w y b.bs:=by
 obtain⟨tv,bv,e,-,h2⟩:=h;simp at e;obtain⟨rfl,rfl⟩:=e;exact h2
theorem Aaw {v:Value} {x y:Int} (h:x=y):Ending.returned (.tuple #[v,.int .i64 x])=.returned (.tuple #[v,.int .i64 y]):=by rw[h]
theorem J3 {P:Program} {fn:Func} {q q2:Tmp} {T:TypeId} (h:fn.results=#[.cell q T,.tmp q2]) {d:TypeDesc} (hu:P.underlying T=some d) (hd:d.isRow=true) (hi:(P.info? T).map (·.size)=some 2) {R:Ending->World->Prop} {tmps:Array Value} {w:World} {rk:Nat} {y0 y1 x0 x1 v:Value}
  (k:CB w rk [y0,y1]) (ht:tmps.getD q undef=.pointer (some ⟨rk,0,none⟩)) (hv:tmps.getD q2 undef=v) (hR:R (.returned (.tuple #[.agg #[x0,x1],v])) ((w.setCell ⟨rk,0,none⟩ x0).setCell ⟨rk,1,none⟩ x1)) :
  bodyPost P fn R .ret {tmps:=tmps,defers:=[]} ((w.setCell ⟨rk,0,none⟩ x0).setCell ⟨rk,1,none⟩ x1) :=
 bodyPost_ret (Ads (cs:=[x0,x1]) h hu hd hi ht hv (k.copy2 x0 x1)) rfl hR
theorem M0 {W W':World} {base b2 n:Nat} {u v:Value} {ss:List ByteArray} {xs:List Value} (h:OwnT W base u ss) (hrow:W.ownsRow b2 128 3 v n xs) (hg:W.grownBy W' v.ownBlock):OwnT W' base u ss :=
 E2 h hg (E5 h hrow (by decide))
theorem Aci {w:World} {base g cap n:Nat} {ps:List Bv} (h:w.ownsRow base 128 3 (.slice (some ⟨g,0,none⟩) n cap) n (rowsB ps)) (k:Nat) (qs:List Bv) (hq:∀i p,qs[i]?=some p->ps[k+i]?=some p) :
  ∀(j:Nat) (u:Value),(rowsB qs)[j]?=some u->w.cell? ((⟨g,k*3,none⟩:Addr).add j)=some u:=λj u hu=>by
 have hj:j<qs.length*3:=by rw[← R3];exact (A2.1 hu).1
 have hi:j / 3<qs.length:=by omega
 have hp:=A0 hi
 have h3:(rowB (qs[j / 3]))[j % 3]?=some u:=by
  have hl:j % 3<(rowB (qs[j / 3])).length:=by show _<3;omega
  have:=K5 qs (j / 3) _ hp (j % 3) _ (A0 hl);rw[show j / 3*3+j % 3=j by omega,hu] at this;rw[A0 hl];exact this.symm
 have h4:=K5 ps (k+j / 3) _ (hq _ _ hp) (j % 3) u h3;have h5:=(A2.1 h4).1;rw[h.1] at h5;rw[Addr.add_mid,show k*3+j=(k+j / 3)*3+j % 3 by omega,h.cellAt _ h5];exact h4
theorem Agn {g n c:Nat} {r:Option Nat} (h:some g≠r):∀g',(Value.slice (some ⟨g,0,none⟩) n c).ownBlock=some g'->some g'≠r:=λg' hg'=>by
 simp only[Value.ownBlock,Option.some.injEq] at hg';subst hg';exact h
theorem An8 (ps:List Bv) (k:Nat):∀(i:Nat) (q:Bv),(ps.take k)[i]?=some q->ps[0+i]?=some q:=λi q hq=>by
 rw[List.getElem?_take] at hq;split at hq
 ·rw[Nat.zero_add];exact hq
 ·cases hq
theorem Ai7 (ps:List Bv) (k:Nat):∀(i:Nat) (q:Bv),(ps.drop k)[i]?=some q->ps[k+i]?=some q:=λi q hq=>by rwa [List.getElem?_drop] at hq
theorem Ago {w:World} {base n:Nat} {v:Value} {qs:List Bv} {xs:List Value} (h:w.ownsRow base 128 3 v n xs) (hx:xs=rowsB qs) (hn:n=qs.length) (hl:∀p∈qs,OwnT w base p.2.1 p.1.has/\OwnT w base p.2.2 p.1.needs/\p.1.nm.size<=maxLen):BsW w base v qs:=by
 subst hx hn;exact⟨h,hl⟩
theorem oneB (ps:List Bv) (h:∀p∈ps,(∃a n c,p.2.1=.slice a n c)/\∃a n c,p.2.2=.slice a n c):∀u∈rowsB ps,u.oneCell'=true:=by
 induction ps with
 | nil=>intro u hu;simp[rowsB] at hu
 | cons p r ih =>
  intro u hu;rw[rowsB,D1] at hu;rcases hu with hu|hu
  ·obtain⟨⟨a,n,c,h1⟩,a2,n2,c2,h2⟩:=h p (by simp)
   simp only[rowB,h1,h2,List.mem_cons,List.not_mem_nil,or_false] at hu;rcases hu with rfl|rfl|rfl<;>rfl
  ·exact ih (λq hq=>h q (by simp[hq])) u hu
theorem BsW.one {w:World} {base:Nat} {v:Value} {ps:List Bv} (h:BsW w base v ps) (qs:List Bv) (hq:∀p∈qs,p∈ps):∀u∈rowsB qs,u.oneCell'=true :=
 oneB qs λp hp=>by
  obtain⟨q1,q2,-⟩:=h.2 p (hq p hp);obtain⟨a,c,e1⟩:=q1.lst.shape;obtain⟨a2,c2,e2⟩:=q2.lst.shape;exact⟨⟨_,_,_,e1⟩,⟨_,_,_,e2⟩⟩
end Go.Proofs.YtebfdccbmmpceaaGreatDoor
