/- The program's walk of ShareFits (chapter 12). -/
import Derived.Test.YtmonodehegcfhaaGreatDoorJ38
import Derived.Test.YtmonodehegcfhaaGreatDoorJ13
import Derived.Test.YtmonodehegcfhaaGreatDoorRf2
import Derived.OwnWalkIn
import Derived.TacticsIn
import Derived.TacticsInMore
import Derived.LoopIn
import Derived.RegionIn
import Derived.WalkKit
import Derived.Deep.RegionWith
import Derived.Shelf.RegionOpen
import Derived.Test.YtmonodehegcfhaaGreatDoorJ31
import Derived.Test.YtmonodehegcfhaaGreatDoorJ37
import Derived.Test.YtmonodehegcfhaaGreatDoorJ23
set_option maxRecDepth 100000
set_option maxHeartbeats 4000000
namespace Go.Proofs.YtmonodehegcfhaaGreatDoor
open Go.Proofs.Tryz
open Go.RowKit
variable{tmps:Array Value}{b:Bk}{nm s:BA}{cd:Int}{bs:List Ba}{gone ls tg:List BA}{ts:List Tr}{a l n r:Nat}{P:Program}{T T2:TypeId}{x x0 y:Value}{W X Z w:World}
def Fs(ts:List Tr)(gone:List BA):Prop:=∀(i:Nat)(p:Tr),ts[i]?=some p->p.2=E3 gone p.1.nm
theorem Vi(l:List BA)(s t:BA):E3 (l++[s]) t=(E3 l t || (s.toList==t.toList)):=by simp[E3]
theorem Vj(ha:Ad (G7 bs))(h:ts.map (·.1)=bs)(hG:Fs ts gone){p:Tr}(hp:ts[n]?=some p):Fs (ts.set n (p.1,true)) (gone++[p.1.nm]):=λi q hq=>by
 rw[Vi];by_cases e:n=i
 ·subst e;rw[List.getElem?_set,if_pos rfl,if_pos (A3.1 hp).1] at hq;obtain rfl:=A6 hq;simp
 ·rw[List.getElem?_set,if_neg e] at hq;rw[hG i q hq]
  have:(p.1.nm.toList==q.1.nm.toList)=false:=by
   rw[← Bool.not_eq_true,beq_iff_eq];intro h1;refine e (Fh ha (a:=p.1.nm) ?_ ?_)
   ·rw[G7,B1,Dw h hp];rfl
   ·rw[G7,B1,Dw h hq,CL h1];rfl
  rw[this,Bool.or_false]
theorem Yh(h:ts.map (·.1)=bs){p:Tr}(hp:ts[n]?=some p):(ts.set n (p.1,true)).map (·.1)=bs:=by
 rw[List.map_set,h];have:=Dw h hp;obtain⟨hn,e⟩:=A3.1 this;show bs.set n p.1=bs
 rw[← e,List.set_getElem_self]
theorem YS(h:ts.map (·.1)=bs)(hn:n<bs.length):∃p,ts[n]?=some p/\p.1=bs[n]:=by
 have hl:n<ts.length:=by rw[← h] at hn;simpa using hn
 refine⟨ts[n],A0 hl,?_⟩;have:=Dw h (A0 hl);rw[A0 hn] at this;exact (A6 this).symm
theorem Vk(bs:List Ba)(k:Nat):Fs (AH bs k) []:=λi p hp=>by
 rw[AH,B1,B6] at hp;obtain⟨x,_,rfl⟩:=hp;rfl
theorem WW(hok:J1 b)(h:ts.map (·.1)=b.bs)(hG:Fs ts gone){p:Tr}(hp:ts[a]?=some p):
  (!p.2&&decide (G5 b.tg (E3 p.1.nj) &&& (18446744073709551615-(G5 b.tg (S7 ts)+G5 b.tg (E3 p.1.has)))=0))=true↔AZ b.bs gone a:=by
 have hb:=Dw h hp;rw[Bool.and_eq_true,Bool.not_eq_true',decide_eq_true_eq];constructor
 ·rintro⟨h1,h2⟩;exact⟨p.1,hb,by rw[← hG a p hp];exact h1,(Ry hok h hG hp h1).1 h2⟩
 ·rintro⟨x,hx,h1,h2⟩;rw[hb] at hx;obtain rfl:=A6 hx;have h3:p.2=false:=by rw[hG a p hp];exact h1
  exact⟨h3,(Ry hok h hG hp h3).2 h2⟩
theorem Vl(tb:Nat)(b:Bk)(ts:List Tr)(gone:List BA)(w:World)(h:Da w tb b.tg ts)(hok:J1 b)(hm:ts.map (·.1)=b.bs)(hG:Fs ts gone):
  Calls prog 196 #[Pz tb 0] w λe w'=>((∃k:Nat,e=.returned (.tuple #[Iz k,.bool true])/\Az b.bs gone (k:Int))∨(e=.returned (.tuple #[Iz 0,.bool false])/\Az b.bs gone (-1)))/\Up w w':=by
 have hT:=h;obtain⟨rv,hC,a0⟩:=h;have h8:=hok.1.1;have a2:ts.length=b.bs.length:=by rw[← hm];simp
 have h5:ts.length<=5:=by have:=hok.2.1;omega
 have Hlb:Hid (ts.length=b.bs.length):=a2;have HG:Hid (∀(a:Nat)(p:Tr),ts[a]?=some p->((!p.2&&decide (G5 b.tg (E3 p.1.nj) &&& (18446744073709551615-(G5 b.tg (S7 ts)+G5 b.tg (E3 p.1.has)))=0))=true↔AZ b.bs gone a)):=λa p hp=>WW hok hm hG hp
 obtain⟨a6,a7,rfl⟩:∃a c,rv=Vz a ts.length c:=by
  rcases a0.2 with⟨h0,h1⟩|⟨g,cap,_,hv,_⟩
  ·exact⟨none,0,by rw[h0,h1]⟩
  ·exact⟨_,cap,hv⟩
 obtain⟨t0,t1⟩:=hC.c2';clear hC a0 a2 hok hm hG;go_in;go_wp2_with fail;(try dsimp only[Iz,Sz,Sy,Nz,Vz,Tz,Ez,Pz]);go_loopw [4,10] (λ_ i w'=>∃k:Nat,k<=ts.length/\i=.int .i64 k/\(∀j,j<k->¬AZ b.bs gone j)/\Up w w') (λ_ i _=>ts.length-(intOf i).toNat)
 case atStart=>exact⟨0,by omega,rfl,λj hj=>by omega,A5 _ _⟩
 case round =>
  obtain⟨k,hk,rfl,a1,hB⟩:=hrel;have Hal:Hid (∀j,j<k->¬AZ b.bs gone j):=a1;clear a1;by_cases hp:k<ts.length
  ·have a3:=A0 hp;have HI:=HG.out k _ a3;have HI':Hid ((!(ts[k]).2&&decide (G5 b.tg (E3 (ts[k]).1.nj) &&& (18446744073709551615-(G5 b.tg (S7 ts)+G5 b.tg (E3 (ts[k]).1.has)))=0))=true↔AZ b.bs gone k):=HI;clear HI;go_wp2_with fail;refine (Ye tb k b.tg ts _ _ (hT.up hB) h8 a3 h5).mono ?_;rintro e w2 ⟨rfl,a5⟩;have a4:=D5 hB a5;clear hB a5;revert HI'
   generalize (!(ts[k]).2&&decide (G5 b.tg (E3 (ts[k]).1.nj) &&& (18446744073709551615-(G5 b.tg (S7 ts)+G5 b.tg (E3 (ts[k]).1.has)))=0))=cb;intro HI';cases cb
   ·have Hs:Hid (∀j,j<k+1->¬AZ b.bs gone j):=GV Hal.out λh=>by have:=HI'.out.2 h;cases this
    clear HI' HG;go_wp2_with fail;go_roundw
    case rel=>exact⟨k+1,by omega,by go_num,Hs.out,a4⟩
    case measure=>simp[intOf];omega
   ·have Hs:Hid (Az b.bs gone (k:Int)):=.inr ⟨k,rfl,by have:=Hlb.out;omega,HI'.out.1 rfl,Hal.out⟩;clear HI' HG;go_wp2_with fail;go_returns
    exact⟨.inl ⟨k,rfl,Hs.out⟩,a4⟩
  ·have Hs:Hid (Az b.bs gone (-1)):=.inl ⟨rfl,λj hj=>Hal.out j (by have:=Hlb.out;omega)⟩;go_wp2_with fail;go_returns
   exact⟨.inr ⟨rfl,Hs.out⟩,hB⟩
end Go.Proofs.YtmonodehegcfhaaGreatDoor
namespace Go.Proofs.YtmonodehegcfhaaGreatDoor
open Go.Proofs.Tryz
open Go Go.RowKit Go.Shelf
variable{tmps:Array Value}{b:Bk}{nm s:BA}{cd:Int}{bs:List Ba}{gone ls tg:List BA}{ts:List Tr}{a l n r:Nat}{P:Program}{T T2:TypeId}{x x0 y:Value}{W X Z w:World}
def YT:Value->Nat
 | .slice _ n _=>n
 | _=>0
theorem QW{lp:Loop}(hg:W.grownBy X (some l))(h1:W.heap[l]?=some (.loop lp))(h2:X.heap[l]?=some (.loop lp)):Below (l+1) W X :=
 ⟨hg.os,hg.tape,hg.output,hg.size,λi hi=>by
  by_cases e:i=l
  ·subst e;rw[h1,h2]
  ·exact hg.block i (by have:=(D3.1 h1).1;omega) (by simp;omega)⟩
theorem Oc(m:Nat)(W1:World)(q l:Nat)(b:Bk)(tv bv:Value)(lp:Loop)(Fin:World->List BA->Value->Prop)(hq:CB W1 q [tv,bv])(hbk:Q6 W1 (.agg #[tv,bv]) b)(hlow:∀X,Below (l+1) W1 X->Q6 X (.agg #[tv,bv]) b)(hok:J1 b)(hL:W1.heap[l]?=some (.loop lp))
  (hY:∀(gone:List BA)(u:Value)(W:World),Below (l+1) W1 W->Am b.bs gone.length gone->F7 W (l+1) u gone->(∀s∈gone,s.size<=maxLen)->YieldAt Fence.wide m prog l #[u] W λe W' =>
   (gone.length≠b.bs.length/\e=.returned (.bool true)/\W.grownBy W' (some l)/\W'.heap[l]?=some (.loop lp))∨(gone.length=b.bs.length/\e=.returned (.bool false)/\Fin W' gone u)) :
  CallsIn Fence.wide (m+1) prog 194 #[.func (.yield l) #[] #[],.pointer (some ⟨q,0,none⟩)] W1 λe W'=>(∃v,e=.returned v)/\
   ((∃gone u,Am b.bs b.bs.length gone/\(∀s∈gone,s.size<=maxLen)/\Fin W' gone u)∨(Below (l+1) W1 W'/\∃n gone,n<b.bs.length/\Am b.bs n gone/\Az b.bs gone (-1))):=by
 have f1:l<W1.heap.size:=(D3.1 hL).1;obtain⟨a1,c1,a2,c2,he,-,-⟩:=hbk.parts;obtain⟨rfl,rfl⟩:tv=.slice a1 b.tg.length c1/\bv=.slice a2 b.bs.length c2:=by simpa using he
 clear he;obtain⟨ii,hi,e4,e5,e6⟩:=info_parts V7;refine callsIn_of_wp func194 rfl trivial ?_ rfl;simp only[ntmps194,List.size_toArray,List.length_cons,List.length_nil,Nat.reduceAdd,Nat.reduceSub,Array.replicate_succ,Array.replicate_zero,List.push_toArray,List.append_toArray,List.nil_append,List.cons_append];obtain⟨q0,q1⟩:=hq.c2';have h5:=hok.2.1;have Hok:Hid (J1 b):=hok;clear hok;gi_wp2_with fail
 refine⟨trivial,(callsIn_wide.2 (QV b _ _ hbk Hok.out)).mono ?_⟩;rintro e W2 ⟨⟨tb,rfl,hT,g6⟩,d9⟩;clear q0 q1;have d0:Below (l+1) W1 W2:=d9.mono f1;gi_wp2_with fail
 gi_loopw [4,5,6] (λu _ _ w'=>∃(gone:List BA)(ts:List Tr),gone.length<=b.bs.length/\Am b.bs gone.length gone/\F7 w' (tb+1) u gone/\(∀s∈gone,s.size<=maxLen)/\Da w' tb b.tg ts/\ts.map (·.1)=b.bs/\Fs ts gone/\Below (l+1) W1 w') (λu _ _ _=>b.bs.length+1-YT u)
 case atStart=>exact⟨[],_,by simp,.none,⟨by simp,.inl ⟨rfl,rfl⟩⟩,λs hs=>by simp at hs,hT,by rw[RS,List.take_length],Vk _ _,d0⟩
 case round =>
  clear hT d0 d9;obtain⟨gone,ts,f7,b7,a3,b8,hT,b2,hG,hB⟩:=hrel;have f2:=hY gone _ wr hB b7 (I8 a3 (by omega)) b8;obtain⟨fn,e7,b9,e8,e9,hR⟩:=f2;have d1:=(hB.block l (by omega)).trans hL;obtain⟨ag,cg,rfl⟩:=a3.lst.shape;have Hgo:Hid (Am b.bs gone.length gone):=b7;have Hsz:Hid (∀s∈gone,s.size<=maxLen):=b8;have Hfst:Hid (ts.map (·.1)=b.bs):=b2;have HG:Hid (Fs ts gone):=hG;clear b7 b8 b2 hG;gi_wp2_with fail
  refine hR.mono ?_;rintro e W5 (⟨h0,rfl,b3,b1⟩|⟨h0,rfl,hF⟩)
  ·have d2:=QW b3 d1 b1;have c5:=hB.trans d2
   have c6:Da W5 tb b.tg ts:=by
    obtain⟨rv,k1,k2⟩:=hT;exact⟨rv,k1.kept b3 (by simp;omega),F2 k2 b3 (by omega)⟩
   have a4:=F2 a3 b3 (by omega);clear b3 b1 d2 hT a3 hB hR e9 d1;gi_wp2_with fail
   refine⟨trivial,(callsIn_wide.2 (Vl tb b ts gone _ c6 Hok.out Hfst.out HG.out)).mono ?_⟩;rintro e W6 ⟨hh,b4⟩;have g1:=c5.size;have g2:=b4.size;have b6:=c5.trans (b4.mono (by omega));have d3:=c6.up b4;have a5:=E4 a4 b4;clear b4 c6 a4 c5;rcases hh with⟨k,rfl,hnx⟩|⟨rfl,hnx⟩
   ·have Hnx:Hid (Az b.bs gone (k:Int)):=hnx
    obtain⟨k',f0,c0,⟨x,hx,c9,-⟩,-⟩:∃k':Nat,(k:Int)=(k':Int)/\k'<b.bs.length/\AZ b.bs gone k'/\∀j,j<k'->¬AZ b.bs gone j:=by
     rcases hnx with⟨h,-⟩|h
     ·omega
     ·exact h
    obtain rfl:k=k':=by omega
    obtain⟨p,b0,c3⟩:=YS Hfst.out c0
    obtain rfl:x=p.1:=by
     rw[A0 c0] at hx;rw[c3];exact (A6 hx).symm
    have d4:p.2=false:=by rw[HG.out k p b0];exact c9
    have b1:ts.length<=5:=by
     have:=congrArg List.length Hfst.out;simp at this;omega
    have Hs:Hid (Am b.bs (gone.length+1) (gone++[p.1.nm])):=.more Hgo.out Hnx.out hx;have HG2:Hid (Fs (ts.set k (p.1,true)) (gone++[p.1.nm])):=Vj Hok.out.2.2.2.1 Hfst.out HG.out b0;have Hf2:Hid ((ts.set k (p.1,true)).map (·.1)=b.bs):=Yh Hfst.out b0;have d5:(ts.set k (p.1,true))[k]?=some (p.1,true):=by rw[List.getElem?_set,if_pos rfl,if_pos (A3.1 b0).1]
    have g3:(ts.set k (p.1,true)).length<=5:=by rw[List.length_set];exact b1
    have Hnm:Hid (p.1.nm.size<=maxLen):=by
     obtain⟨f8,f9,e0,-,e2⟩:=(hlow W6 b6);obtain⟨a',c',e3,-,c4⟩:=e2;obtain⟨bb,o,-,hS,-⟩:=c4 (by omega);have:=(hS.at c0).batch;rw[← c3] at this;exact this
    clear hnx hx c9 c3 f0;gi_wp2_with fail
    refine⟨trivial,(callsIn_wide.2 (Vg tb k b.tg ts p b.bs _ d3 Hok.out.1.1 b0 d4 Hfst.out Hok.out.2.2.2.2.2 b1)).mono ?_⟩;rintro e W7 ⟨⟨v7,rfl⟩,f6,c7,e1⟩;have a6:=e1 _ _ _ a5 (by omega);have d6:=b6.trans (c7.mono (by omega));have g4:=c7.size;clear e1 c7 d3 a5 b6 b0 d4 b1;generalize ts.set k (p.1,true)=ts2 at *;obtain⟨rv,kT,b5⟩:=f6;have g5:=(A3.1 d5).1;obtain⟨g,g0,rfl⟩:=I6 b5 (by omega);obtain⟨r0,-,-,-⟩:=GK b5 d5;simp only at r0;obtain⟨t0,t1⟩:=kT.c2';have f3:=kT.2.2;generalize p.1.nm=nm at *;have a0:=E4 a6 ((A5 W7.heap.size W7).alloc (A4 _) (.cells #[.string nm] 9));have a7:=E4 b5 ((A5 W7.heap.size W7).alloc (A4 _) (.cells #[.string nm] 9));have d7:=kT.up ((A5 W7.heap.size W7).alloc (A4 _) (.cells #[.string nm] 9)) f3;have a9:=d6.alloc (by omega) (.cells #[.string nm] 9);gi_wp2_with (gi_at_builtin;refine wpListIn_append_own _ rfl _ _ 23 rfl (tb+1) 9 ii _ 1 16 underlying23 hi e4 e5 e6 rfl (by decide) _ _ _ rfl a0 ⟨W7.heap.size,0,none⟩ 1 1 [.string nm] rfl rfl (AD _ _ _) (DG _) (by unfold maxLen;omega) (by omega) (by simp;omega) ?_)
    intro v8 W8 hown8 hgr8 _;have f4:Da W8 tb b.tg ts2:=⟨_,d7.kept hgr8 (Aj a0 (by omega)),PV a7 hgr8 (NE a7 a0 (by decide))⟩;have f5:Below (l+1) W1 W8:=⟨hgr8.os.trans a9.os,hgr8.tape.trans a9.tape,hgr8.output.trans a9.output,B3 a9.size hgr8.size,λi hi=>(hgr8.block i (by have:=a9.size;omega) (Aj a0 (by omega))).trans (a9.block i hi)⟩;have d8:F7 W8 (tb+1) v8 (gone++[nm]):=by unfold F7;rw[B0,List.map_append];exact hown8
    obtain⟨a8,c8,rfl⟩:∃a c,v8=.slice a (gone.length+1) c:=by simpa using d8.lst.shape
    clear a0 a7 d7 a9 hown8 hgr8 a6 b5 kT t0 t1 r0 d6;gi_wp2_with fail
    go_roundw
    case rel =>
     refine⟨gone++[nm],ts2,by simp;omega,by rw[B0];exact Hs.out,d8,λs hs=>?_,f4,Hf2.out,HG2.out,f5⟩;rcases D0.1 hs with h|h
     ·exact Hsz.out s h
     ·obtain rfl:s=nm:=by simpa using h
      exact Hnm.out
    case measure=>simp[YT];omega
   ·gi_wp2_with fail
    (try simp only[Exit.inBlock,Exit.then])
    refine bodyPost_ret (results_none rfl _ _ _) rfl ?_;exact⟨⟨_,rfl⟩,.inr ⟨b6,gone.length,gone,by omega,Hgo.out,hnx⟩⟩
  ·gi_wp2_with fail
   go_end0
   exact⟨⟨_,rfl⟩,.inl ⟨gone,_,by rw[← h0];exact Hgo.out,Hsz.out,hF⟩⟩
attribute [local go_sem] Oper.semAt_some
theorem SX(b:Bk)(a1 a2:Option Addr)(c1 c2:Nat)(w:World):
  Calls prog 168 #[.agg #[Vz a1 b.tg.length c1,Vz a2 b.bs.length c2]] w λe w'=>e=.returned (.func (.func 194) #[] #[Pz w.heap.size 0])/\w'=w.alloc (Kz [Vz a1 (b).tg.length c1,Vz a2 (b).bs.length c2] 26):=by
 go_in;go_wp2;go_ret;exact⟨rfl,rfl⟩
theorem CB.c1'{b:Nat}(h:CB w b [x0]):At w b 0 x0/\w.frozen? ⟨b,0,none⟩=false:=⟨h.1 0 _ rfl,(h.2.1 0 (by simp)).2⟩
theorem Lt(h:At Z r 0 x):(loadVar 23 ⟨r,0,none⟩).run prog Z=.ok x Z:=by
 simp[loadVar,isAgg,h,go_sem]
theorem Lu(h:At Z r 0 x):(loadVar 4 ⟨r,0,none⟩).run prog Z=.ok x Z:=by
 simp[loadVar,isAgg,h,go_sem]
theorem Jo{fn:Func}{q q2:Tmp}(h:fn.results=#[.cell q T,.cell q2 T2]){r2:Nat}
  (ht:tmps.getD q undef=Pz r 0) (ht2:tmps.getD q2 undef=Pz r2 0) (hZ:(loadVar T ⟨r,0,none⟩).run P Z=.ok x Z) (hZ2:(loadVar T2 ⟨r2,0,none⟩).run P Z=.ok y Z):(results fn tmps).run P Z=.ok (.tuple #[x,y]) Z:=by
 have ha:(asAddr (Pz r 0)).run P Z=.ok ⟨r,0,none⟩ Z:=by simp[go_sem]
 have a1:(asAddr (Pz r2 0)).run P Z=.ok ⟨r2,0,none⟩ Z:=by simp[go_sem]
 have a2:tmps[q]?.getD undef=Pz r 0:=by simpa using ht
 have a0:tmps[q2]?.getD undef=Pz r2 0:=by simpa using ht2
 simp only[results,h];simp[Sem.run_bind,Result.andThen,a2,a0,ha,a1,hZ,hZ2]
theorem Vm(b:Bk)(v:Value)(w:World)(h:Q6 w v b):
  Calls prog 143 #[v] w λe w'=>(∃u ss ok,e=.returned (.tuple #[u,.bool ok])/\R9 b ss ok/\F7 w' w.heap.size u ss/\∀s∈ss,s.size<=maxLen)/\Up w w':=by
 obtain⟨a1,c1,a2,c2,rfl,-,-⟩:=h.parts;refine (callsIn_wide (n:=3)).1 ?_;refine callsIn_of_wp_marks func143 rfl trivial ?_ rfl;simp only[ntmps143,List.size_toArray,List.length_cons,List.length_nil,Nat.reduceAdd,Nat.reduceSub,Array.replicate_succ,Array.replicate_zero,List.push_toArray,List.append_toArray,List.nil_append,List.cons_append];obtain⟨W1,c5,kA,k2,k3,c0,e4⟩:=cbE3 w [Vz a1 (b).tg.length c1,Vz a2 (b).bs.length c2] 26 [Nz] 23 [.bool false] 4;obtain⟨p0,p1⟩:=kA.c2';gi_wp2_with fail
 try rw[c5]
 clear c5;refine⟨trivial,(callsIn_wide.2 (IA b _ _ (h.up c0))).mono ?_⟩;rintro e w2 ⟨rfl,b6⟩;clear p0 p1;have e6:=b6.size;have c3:=D5 c0 b6;have kA:=kA.up b6 kA.2.2;have k2:=k2.up b6 k2.2.2;have k3:=k3.up b6 k3.2.2;clear b6 c0;cases hq:K4 b
 ·have Hq:Hid (R9 b [] false):=.inr ⟨rfl,rfl,.inl (S1.1 hq)⟩;obtain⟨x2,f2⟩:=k2.c1';obtain⟨x3,f3⟩:=k3.c1';have c7:¬w.heap.size+2=w.heap.size+1:=by omega
  gi_wp2_with fail
  refine⟨_,Jo (r:=w.heap.size+1) (r2:=w.heap.size+2) (x:=Nz) (y:=.bool false) results143 rfl rfl (Lt ?_) (Lu ?_),?_⟩
  ·exact (((k2.set (j:=0) (u:=Nz) (by simp)).other (by omega)).c1').1
  ·exact (((k3.other (q:=w.heap.size+1) (j:=0) (u:=Nz) (by omega)).set (j:=0) (u:=.bool false) (by simp)).c1').1
  exact⟨⟨_,[],false,rfl,Hq.out,⟨by simp,.inl ⟨rfl,rfl⟩⟩,λs hs=>by simp at hs⟩,(c3.setCell (p:=⟨w.heap.size+1,0,none⟩) (by simp) _).setCell (p:=⟨w.heap.size+2,0,none⟩) (by simp) _⟩
 ·have c8:J1 b:=K5.1 hq;clear hq;obtain⟨p0,p1⟩:=kA.c2';gi_wp2_with fail
  refine⟨trivial,(callsIn_wide.2 (SX b _ _ _ _ _)).mono ?_⟩;rintro e W3 ⟨rfl,d1⟩;obtain⟨kQ,b7,e5⟩:CB W3 w2.heap.size [Vz a1 b.tg.length c1,Vz a2 b.bs.length c2]/\Up w2 W3/\W3.heap.size=w2.heap.size+1:=by rw[d1];exact Rg w2 [Vz a1 b.tg.length c1,Vz a2 b.bs.length c2] _
  clear d1 p0 p1;have c9:=D5 c3 b7;have kA:=kA.up b7 kA.2.2;have k2:=k2.up b7 k2.2.2;have k3:=k3.up b7 k3.2.2;clear b7 c3;gi_wp2_with fail
  refine Qn rfl (by omega) (gf:=194) (lb:=#[Pz w2.heap.size 0]) rfl trivial (enters_of func194 (by kernel_rfl) rfl) ?_;intro fn lp _ hlp;obtain⟨W4,b3⟩:∃W4,(W3.alloc (.deferred (some []))).alloc (.loop lp)=W4:=⟨_,rfl⟩;rw[b3]
  have hL:W4.heap[W3.heap.size+1]?=some (.loop lp):=by
   rw[← b3];have:=World.alloc_heap_new (W3.alloc (.deferred (some []))) (.loop lp);rwa [World.size_alloc] at this
  have hD:W4.heap[W3.heap.size]?=some (.deferred (some [])):=by
   rw[← b3];exact (Below.heap_alloc _ _ _ (by simp)).trans (World.alloc_heap_new W3 _)
  have b4:Up W3 W4:=by rw[← b3];exact ((A5 _ W3).alloc (A4 _) _).alloc (by simp) _
  have e7:W4.heap.size=W3.heap.size+2:=by rw[← b3];simp
  clear b3;have b5:=D5 c9 b4;have kA:=kA.up b4 kA.2.2;have k2:=k2.up b4 k2.2.2;have k3:=k3.up b4 k3.2.2;have kQ:=kQ.up b4 kQ.2.2;have b2:=h.up b5;have d4:=b5.size;clear b4 c9;refine CallsIn.mono (Oc 1 W4 w2.heap.size (W3.heap.size+1) b _ _ lp (λW' a0 u=>CB W' (w.heap.size+1) [u]/\CB W' (w.heap.size+2) [.bool true]/\W'.heap[W3.heap.size]?=some (.deferred (some []))/\W'.heap[W3.heap.size+1]?=some (.loop {lp with state:=.done,pending:=some .ret})/\F7 W' (W3.heap.size+2) u a0/\Up w W') kQ b2 (λX hX=>h.up (b5.trans (hX.mono (by omega)))) c8 hL ?hY) ?_
  case hY =>
   intro a0 u W hB b8 a4 d2;have a5:=(hB.block (W3.heap.size+1) (by omega)).trans hL;have a6:=(hB.block W3.heap.size (by omega)).trans hD;have kA:=kA.up hB (by omega);have k2:=k2.up hB (by omega);have k3:=k3.up hB (by omega);have a7:=b5.trans (hB.mono (by omega));have b0:({lp with state:=.ready,pending:=none}:Loop)=lp:=by rw[hlp];rfl
   have Hback:Hid (({lp with state:=.ready,pending:=none}:Loop)=lp):=b0;obtain⟨au,cu,rfl⟩:=a4.lst.shape;clear kQ b2 hL hD hB b5 b0 d4;refine Qm a5 (congrArg Loop.state hlp) (congrArg Loop.assign hlp) (congrArg Loop.body hlp) (congrArg Loop.params hlp) (congrArg Loop.tmps hlp) rfl trivial ?_;dsimp only[RX]
   clear hlp;have d5:W3.heap.size+1<W.heap.size:=(D3.1 a5).1;gi_wp2_with fail
   refine⟨a5,?_⟩;have a9:=grownBy_putObj' W (W3.heap.size+1) (.loop {lp with state:=.busy});have c4:(W.putObj (W3.heap.size+1) (.loop {lp with state:=.busy})).heap[W3.heap.size+1]?=some (.loop {lp with state:=.busy}):=World.putObj_heap_same d5;have kA:=kA.kept a9 (by simp;omega);have k2:=k2.kept a9 (by simp;omega);have k3:=k3.kept a9 (by simp;omega);have a4:=F2 a4 a9 (by omega);have a6:=(a9.block W3.heap.size (by omega) (by simp)).trans a6;have a7:=CK a7 a9 (by omega);have Hg2:Hid (W.grownBy (W.putObj (W3.heap.size+1) (.loop {lp with state:=.busy})) (some (W3.heap.size+1))):=a9;have d6:=a9.size;clear a9 a5;generalize W.putObj (W3.heap.size+1) (.loop {lp with state:=.busy})=X2 at *;obtain⟨p0,p1⟩:=kA.c2';by_cases h0:a0.length=b.bs.length
   ·have d7:((a0.length:Int)==(b.bs.length:Int))=true:=by rw[beq_iff_eq];omega
    obtain⟨x2,f2⟩:=k2.c1';obtain⟨x3,f3⟩:=k3.c1';have c7:¬w.heap.size+2=w.heap.size+1:=by omega
    have d8:¬w.heap.size+1=w.heap.size+2:=by omega
    have e8:¬w.heap.size=w.heap.size+1:=by omega
    have e9:¬w.heap.size=w.heap.size+2:=by omega
    have Hh0:Hid (a0.length=b.bs.length):=h0;clear h0;gi_wp2_with fail
    obtain⟨X3,b9,c6,y2,y3⟩:∃X3,(X2.setCell ⟨w.heap.size+1,0,none⟩ (Vz au a0.length cu)).setCell ⟨w.heap.size+2,0,none⟩ (.bool true)=X3/\(∀i,i≠w.heap.size+1->i≠w.heap.size+2->X3.heap[i]?=X2.heap[i]?)/\CB X3 (w.heap.size+1) [Vz au a0.length cu]/\CB X3 (w.heap.size+2) [.bool true] :=
     ⟨_,rfl,λi q1 q2=>(Below.heap_setCell _ _ _ _ q2).trans (Below.heap_setCell _ _ _ _ q1),(k2.set (j:=0) (by simp)).other (by omega),(k3.other (by omega)).set (j:=0) (by simp)⟩
    have d9:Up w X3:=by rw[← b9];exact (a7.setCell (p:=⟨w.heap.size+1,0,none⟩) (by simp) _).setCell (p:=⟨w.heap.size+2,0,none⟩) (by simp) _
    have e0:F7 X3 (W3.heap.size+2) (Vz au a0.length cu) a0:=by
     rw[← b9];exact F2 (F2 a4 (E1 (off:=0) (E2 _ (some (w.heap.size+1))) _) (by omega)) (E1 (off:=0) (E2 _ (some (w.heap.size+2))) _) (by omega)
    have d0:=(c6 (W3.heap.size+1) (by omega) (by omega)).trans c4;have e1:=(c6 W3.heap.size (by omega) (by omega)).trans a6;try rw[b9]
    clear b9 x2 x3 f2 f3 p0 p1;refine⟨d0,.inr ⟨Hh0.out,rfl,?_⟩⟩;have a8:W3.heap.size+1<X3.heap.size:=(D3.1 d0).1;have a3:=grownBy_putObj' X3 (W3.heap.size+1) (.loop {lp with state:=.done,pending:=some .ret});exact⟨y2.kept a3 (by simp;omega),y3.kept a3 (by simp;omega),(a3.block W3.heap.size (by omega) (by simp)).trans e1,World.putObj_heap_same a8,F2 e0 a3 (by omega),CK d9 a3 (by omega)⟩
   ·have d7:((a0.length:Int)==(b.bs.length:Int))=false:=by rw[beq_eq_false_iff_ne];omega
    gi_wp2_with fail
    have a8:W3.heap.size+1<X2.heap.size:=(D3.1 c4).1;refine⟨c4,.inl ⟨h0,rfl,?_⟩⟩;rw[Hback.out];exact⟨E0 Hg2.out (grownBy_putObj' _ _ _),World.putObj_heap_same a8⟩
  rintro e W ⟨⟨v,rfl⟩,⟨a0,u,b8,d2,y2,y3,a6,a5,a4,a7⟩|⟨hB,n,a0,hn,b8,d3⟩⟩
  ·refine⟨⟨_,rfl⟩,.inl ⟨a5,?_⟩⟩;have HR:Hid (R9 b a0 true):=.inl ⟨rfl,c8,b8⟩;have a3:=grownBy_putObj' W (W3.heap.size+1) (.loop {lp with state:=.exhausted,pending:=some .ret});have a8:W3.heap.size+1<W.heap.size:=(D3.1 a5).1;have y2:=y2.kept a3 (by simp;omega);have y3:=y3.kept a3 (by simp;omega);have a6:=(a3.block W3.heap.size (by omega) (by simp)).trans a6;have a4:=F2 a4 a3 (by omega);have a7:=CK a7 a3 (by omega);clear a3 a5;generalize W.putObj (W3.heap.size+1) (.loop {lp with state:=.exhausted,pending:=some .ret})=V at *;have b1:=grownBy_putObj' V W3.heap.size (.deferred none);dsimp only
   gi_wp2_with fail
   refine⟨by simp,.inl ⟨_,_,rfl,run_takeDeferred a6,?_⟩⟩;refine⟨_,Jo (r:=w.heap.size+1) (r2:=w.heap.size+2) (x:=u) (y:=.bool true) results143 rfl rfl (Lt (y2.kept b1 (by simp;omega)).c1'.1) (Lu (y3.kept b1 (by simp;omega)).c1'.1),?_⟩;exact⟨⟨u,a0,true,rfl,HR.out,I8 (F2 a4 b1 (by omega)) (by omega),d2⟩,CK a7 b1 (by omega)⟩
  ·have a5:=(hB.block (W3.heap.size+1) (by omega)).trans hL;have a6:=(hB.block W3.heap.size (by omega)).trans hD;refine⟨⟨_,rfl⟩,.inr ⟨a5,?_⟩⟩;have HR:Hid (R9 b [] false):=.inr ⟨rfl,rfl,.inr ⟨n,a0,hn,b8,d3⟩⟩;have k2:=k2.up hB (by omega);have k3:=k3.up hB (by omega);have a7:=b5.trans (hB.mono (by omega));have a8:W3.heap.size+1<W.heap.size:=(D3.1 a5).1;have a3:=grownBy_putObj' W (W3.heap.size+1) (.loop {lp with state:=.exhausted,pending:=none});have k2:=k2.kept a3 (by simp;omega);have k3:=k3.kept a3 (by simp;omega);have a6:=(a3.block W3.heap.size (by omega) (by simp)).trans a6;have a7:=CK a7 a3 (by omega);have f0:=a3.size;clear a3 a5 kA kQ b2 hL hD hB b8 d3 hn;generalize W.putObj (W3.heap.size+1) (.loop {lp with state:=.exhausted,pending:=none})=V at *;obtain⟨x2,f2⟩:=k2.c1';obtain⟨x3,f3⟩:=k3.c1';have c7:¬w.heap.size+2=w.heap.size+1:=by omega
   dsimp only
   gi_wp2_with fail
   have y2:CB ((V.setCell ⟨w.heap.size+1,0,none⟩ (Nz)).setCell ⟨w.heap.size+2,0,none⟩ (.bool false)) (w.heap.size+1) [Nz]:=(k2.set (j:=0) (by simp)).other (by omega);have y3:CB ((V.setCell ⟨w.heap.size+1,0,none⟩ (Nz)).setCell ⟨w.heap.size+2,0,none⟩ (.bool false)) (w.heap.size+2) [.bool false]:=(k3.other (by omega)).set (j:=0) (by simp);have e2:((V.setCell ⟨w.heap.size+1,0,none⟩ (Nz)).setCell ⟨w.heap.size+2,0,none⟩ (.bool false)).heap[W3.heap.size]?=some (.deferred (some [])):=(Below.heap_setCell _ _ _ _ (by simp;omega)).trans ((Below.heap_setCell _ _ _ _ (by simp;omega)).trans a6);have e3:=(a7.setCell (p:=⟨w.heap.size+1,0,none⟩) (by simp) (Nz)).setCell (p:=⟨w.heap.size+2,0,none⟩) (by simp) (.bool false);have b1:=grownBy_putObj' ((V.setCell ⟨w.heap.size+1,0,none⟩ (Nz)).setCell ⟨w.heap.size+2,0,none⟩ (.bool false)) W3.heap.size (.deferred none);refine⟨by simp,.inl ⟨_,_,rfl,run_takeDeferred e2,?_⟩⟩;refine⟨_,Jo (r:=w.heap.size+1) (r2:=w.heap.size+2) (x:=Nz) (y:=.bool false) results143 rfl rfl (Lt (y2.kept b1 (by simp;omega)).c1'.1) (Lu (y3.kept b1 (by simp;omega)).c1'.1),?_⟩;exact⟨⟨_,[],false,rfl,HR.out,⟨by simp,.inl ⟨rfl,rfl⟩⟩,λs hs=>by simp at hs⟩,CK e3 b1 (by omega)⟩
end Go.Proofs.YtmonodehegcfhaaGreatDoor
namespace Go.Proofs.YtmonodehegcfhaaGreatDoor
open Go.Proofs.Tryz
open Go.RowKit
variable{tmps:Array Value}{b:Bk}{nm s:BA}{cd:Int}{bs:List Ba}{gone ls tg:List BA}{ts:List Tr}{a l n r:Nat}{P:Program}{T T2:TypeId}{x x0 y:Value}{W X Z w:World}
theorem Lv(b:Bk)(v:Value)(w:World)(h:Q6 w v b):
  Calls prog 88 #[v] w λe w'=>(∃ss ok,e=.returned (.bool ok)/\R9 b ss ok)/\Up w w':=by
 obtain⟨a1,c1,a2,c2,rfl,-,-⟩:=h.parts;obtain⟨W1,a0,kA,a3,a6⟩:=cbE1 w [Vz a1 b.tg.length c1,Vz a2 b.bs.length c2] 26;go_in;go_upto_region 1 with fail;try rw[a0]
 clear a0;have hk:=h.up a3;obtain⟨e0,e1⟩:=kA.c2';go_wp2_with fail;refine (Vm b _ _ hk).mono ?_;rintro e w2 ⟨⟨u,ss,ok,rfl,ho,-,-⟩,a5⟩;have a4:=D5 a3 a5;clear e0 e1;go_wp2_with fail;go_ret;exact⟨⟨ss,ok,rfl,ho⟩,a4⟩
theorem PX(h:s.toList=[]):s=⟨#[]⟩:=CL (by rw[h,Go.ByteArray.toList_eq])
theorem RT(h:Y0 b)(hn:∀s∈tg,s.size<=maxLen):Y0 (Bd b (L1 b nm) (U1 tg)):=by
 cases hx:b.bs[L1 b nm]? with
 | none=>simp only[Bd,hx];exact h
 | some x =>
  rw[Ih hx];refine⟨h.1,λy hy=>?_⟩;rcases List.mem_or_eq_of_mem_set hy with k|k
  ·exact h.2 y k
  ·subst k;have hm:=A7 hx;refine⟨λs hs=>?_,(h.2 x hm).2⟩;rcases IH x.has tg s hs with k|k
   ·exact (h.2 x hm).1 s k
   ·exact hn s k
theorem SY(b:Bk)(v:Value)(nm:BA)(lv:Value)(ls:List BA)(w:World)(h:Q6 w v b)(hok:J1 b)(hl:Ls w lv ls):
  Calls prog 257 #[.agg #[Tz nm,lv],v] w λe w'=>e=.returned (Z7 (BE b nm ls))/\Up w w':=by
 have d9:=h.szb;obtain⟨a1,c1,a2,c2,rfl,-,-⟩:=h.parts;obtain⟨la,lc,rfl,d7,b9,-⟩:=id hl;unfold maxLen at d7;obtain⟨W1,c3,kA,kB,b3,e5⟩:=cbE2 w [Tz nm,Vz la ls.length lc] 228 [Vz a1 (b).tg.length c1,Vz a2 (b).bs.length c2] 26;go_in;go_upto_region 1 with fail;try rw[c3]
 clear c3;have b5:=h.up b3;have b6:=hl.up b3;obtain⟨e0,e1⟩:=kA.c2';obtain⟨d0,d1⟩:=kB.c2';go_wp2_with fail;refine (QH b _ nm _ ls _ b5 hok b6).mono ?_;rintro e w2 ⟨rfl,a6⟩;have e6:=a6.size;have b7:=kA.up a6 (by omega);have c5:=kB.up a6 (by omega);have c6:=b5.up a6;have c7:=b6.up a6;have a3:=D5 b3 a6;clear d0 d1 e0 e1 kA kB b5 b6 b3 a6 h hl;by_cases hc:Cm b nm ls=0
 case neg =>
  have HR:Hid (Z7 (BE b nm ls)=.iface 104 (.agg #[Iz (Cm b nm ls)])):=by show _=_;rw[KE hc,Kd hc]
  rw[Kd hc];generalize Cm b nm ls=c0 at *;go_wp2_with fail;go_ret;exact⟨Bn HR.out,a3⟩
 have hm:=Mc hc;have e2:=MG hc;have e7:=Pt hok hc;rw[hc,Nk];obtain⟨e0,e1⟩:=b7.c2';obtain⟨-,-,b4⟩:=c7.inv;go_wp2_with fail;(try dsimp only[Iz,Sz,Sy,Nz,Vz,Tz,Ez,Pz]);go_loopw [22] (λi w'=>∃k:Nat,k<=ls.length/\i=.int .i64 (k:Int)/\(∀(j:Nat)(s:BA),j<k->ls[j]?=some s->¬Dn b nm s)/\Up w2 w') (λi _=>ls.length-(intOf i).toNat)
 case atStart=>exact⟨0,by omega,rfl,λj s hj=>by omega,A5 _ _⟩
 case round =>
  obtain⟨k,hk,rfl,c4,hB⟩:=hrel;have Hno:Hid (∀(j:Nat)(s:BA),j<k->ls[j]?=some s->¬Dn b nm s):=c4;clear c4;by_cases hp:k<ls.length
  ·obtain⟨bb,o,rfl,hS,d8⟩:=b4 (by omega);have c0:=(hS.up hB d8).cell hp;have e3:=b9 ls[k] (by simp)
   have Hstep:Hid (¬Dn b nm ls[k]->∀(j:Nat)(s:BA),j<k+1->ls[j]?=some s->¬Dn b nm s):=λhn=>by
    intro j s hj hs;by_cases e:j=k
    ·subst e;rw[A0 hp] at hs;obtain rfl:=A6 hs;exact hn
    ·exact Hno.out j s (by omega) hs
   have H5:Hid (Dn b nm ls[k]->Z7 (BE b nm ls)=.iface 104 (.agg #[Iz 5])):=λho=>by
    rw[ND hc ((NC hok hm).2 ⟨_,List.getElem_mem hp,ho⟩)];rfl
   generalize ls[k]=s0 at *;have a7:=c5.up hB (by omega);have a8:=b7.up hB (by omega);obtain⟨d0,d1⟩:=a7.c2';go_wp2_with fail;refine (XY b _ s0 _ (c6.up hB) e3).mono ?_;rintro e w3 ⟨rfl,a4⟩;rw[JH,if_pos (show K4 b=true from L9 hok)];have a0:=D5 hB a4;have a9:=a8.up a4 (by have:=hB.size;omega);obtain⟨f0,f1⟩:=a9.c2';have Hot:Hid (Dn b nm s0↔Dq b.bs s0≠⟨#[]⟩/\Dq b.bs s0≠nm):=Iff.rfl;generalize Dq b.bs s0=wh at *;clear c0 d0 d1 a7 a8 a9 hB a4;by_cases q1:wh=⟨#[]⟩
   ·have HN:Hid (¬Dn b nm s0):=λho=>(Hot.out.1 ho).1 q1;have HX:Hid (∀(j:Nat)(s:BA),j<k+1->ls[j]?=some s->¬Dn b nm s):=Hstep.out HN.out;subst q1;clear Hot;go_wp2_with fail;go_roundw
    case rel=>exact⟨k+1,by omega,by go_num,HX.out,a0⟩
    case measure=>simp[intOf];omega
   by_cases q2:wh=nm
   ·have HN:Hid (¬Dn b nm s0):=λho=>(Hot.out.1 ho).2 q2;have HX:Hid (∀(j:Nat)(s:BA),j<k+1->ls[j]?=some s->¬Dn b nm s):=Hstep.out HN.out;rw[q2] at q1 ⊢
    have t1:¬nm.toList=[]:=λe=>q1 (PX e);clear Hot;go_wp2_with fail;go_roundw
    case rel=>exact⟨k+1,by omega,by go_num,HX.out,a0⟩
    case measure=>simp[intOf];omega
   ·have HV:Hid (Z7 (BE b nm ls)=.iface 104 (.agg #[Iz 5])):=H5.out (Hot.out.2 ⟨q1,q2⟩);have t1:¬wh.toList=[]:=λe=>q1 (PX e)
    have t2:(!wh.toList.isEmpty)=true:=by cases hx:wh.toList with
     | nil=>exact absurd hx t1
     | cons _ _=>rfl
    have t3:(!wh.toList==nm.toList)=true:=by
     cases hx:(wh.toList==nm.toList)
     ·rfl
     ·exact absurd (CL (by simpa using hx)) q2
    clear Hot;go_wp2_with fail
    all_goals
     first
      | (go_ret;exact⟨Bn HV.out,D5 a3 a0⟩)
      | (exfalso;simp_all)
  ·obtain rfl:k=ls.length:=by omega
   have HT:Hid (¬Bz b.bs (L1 b nm:Int) ls):=λht=>by
    obtain⟨s,hs,ho⟩:=(NC hok hm).1 ht;obtain⟨i,hi,rfl⟩:=B7 hs;exact Hno.out i _ hi (A0 hi) ho
   have HR:=Ki hc HT.out;have a7:=c5.up hB (by omega);have a8:=b7.up hB (by omega);have e8:=hB.size;have b8:=c6.up hB;have c8:=c7.up hB;obtain⟨d0,d1⟩:=a7.c2';obtain⟨f0,f1⟩:=a8.c2';go_wp2_with fail;refine (Lv b _ _ b8).mono ?_;rintro e w3 ⟨⟨ss,ok,rfl,b2⟩,a4⟩;have e9:=a4.size;have a0:=D5 hB a4;have c9:=a7.up a4 (by omega);have a9:=a8.up a4 (by omega);have d2:=b8.up a4;have d3:=c8.up a4;rw[← EM b2] at HR;clear d0 d1 f0 f1 a7 a8 b8 c8 hB a4 b2;cases ok
   ·have HV:Hid (Z7 (BE b nm ls)=.nilIface):=by show _=_;rw[HR];rfl
    clear HR;go_wp2_with fail;go_ret;exact⟨Bn HV.out,D5 a3 a0⟩
   obtain⟨d0,d1⟩:=c9.c2';obtain⟨f0,f1⟩:=a9.c2';go_wp2_with fail;refine (KO b _ nm _ ls _ d2 d3 (by omega) hok e2 hm).mono ?_;rintro e w4 ⟨⟨u,rfl,hu⟩,d5⟩;have b0:=D5 a0 d5;have d4:=hu.w.bk (RT d9 b9);obtain⟨i1,j1,i2,j2,rfl⟩:=hu.shape;clear d0 d1 f0 f1 c9 a9 d2 d3 a0 d5 hu;go_wp2_with fail;refine (Lv _ _ _ d4).mono ?_;rintro e w5 ⟨⟨st,e4,rfl,a5⟩,d6⟩;have b1:=D5 b0 d6;rw[← EM a5] at HR;clear d4 a5 b0 d6;cases e4
   ·have HV:Hid (Z7 (BE b nm ls)=.iface 104 (.agg #[Iz 6])):=by show _=_;rw[HR];rfl
    clear HR;go_wp2_with fail;go_ret;exact⟨Bn HV.out,D5 a3 b1⟩
   ·have HV:Hid (Z7 (BE b nm ls)=.nilIface):=by show _=_;rw[HR];rfl
    clear HR;go_wp2_with fail;go_ret;exact⟨Bn HV.out,D5 a3 b1⟩
noncomputable def Fw(b:Bk)(nm:BA)(ls:List BA):Int:=AA b (BE b nm ls)
noncomputable def CG(b:Bk)(nm:BA)(ls:List BA):Bk:=X7 b (BE b nm ls) (Bd b (L1 b nm) (U1 ls))
theorem Yi{b':Bk}(h:AL b nm ls cd b'):cd=Fw b nm ls/\b'=CG b nm ls:=YR h
theorem WX(h:Y0 b)(hn:∀s∈ls,s.size<=maxLen):Y0 (CG b nm ls):=by
 unfold CG X7;split
 ·exact ED
 ·split
  ·exact RT h hn
  ·exact h
theorem Lw(b:Bk)(v:Value)(nm:BA)(lv:Value)(ls:List BA)(w:World)(h:Q6 w v b)(hl:Ls w lv ls)(hg:BD w):
  Calls prog 129 #[v,Tz nm,lv] w λe w'=>(∃u,e=.returned (.tuple #[u,Iz (Fw b nm ls)])/\S4 w' w.heap.size u (CG b nm ls))/\Up w w':=by
 have hA:∀W,Up w W->Calls prog 128 #[v,.iface 228 (.agg #[Tz nm,lv])] W λe w'=>(∃u,e=.returned (.tuple #[u,Iz (Fw b nm ls)])/\S4 w' W.heap.size u (CG b nm ls))/\Up W w':=λW hW=>by
  refine Mb b v nm _ _ (Fw b nm ls) (CG b nm ls) W (h.up hW) (hg.up hW) λX hX=>?_;unfold Fw CG
  exact RK b v nm _ _ 257 (BE b nm ls) _ X ((h.up hW).up hX) (λn w=>RE n _ _ w) (λn w=>XK n _ _ w) Zq
   (λhok Y hY=>SY b v nm lv ls Y (((h.up hW).up hX).up hY) hok (((hl.up hW).up hX).up hY))
   (λhok hc Y hY=>KO b v nm lv ls Y (((h.up hW).up hX).up hY) (((hl.up hW).up hX).up hY) (by have:=Pt hok (Kj hc);omega) hok (MG (Kj hc)) (Mc (Kj hc)))
 obtain⟨a1,c1,a2,c2,rfl,-,-⟩:=h.parts;obtain⟨la,lc,rfl,-⟩:=id hl;have HA:Hid (∀W,Up w W->Calls prog 128 #[.agg #[Vz a1 b.tg.length c1,Vz a2 b.bs.length c2],.iface 228 (.agg #[Tz nm,Vz la ls.length lc])] W λe w'=>(∃u,e=.returned (.tuple #[u,Iz (Fw b nm ls)])/\S4 w' W.heap.size u (CG b nm ls))/\Up W w'):=hA;clear hA h hg hl;obtain⟨W1,a4,kA,kR,a0,a7⟩:=cbE2 w [Vz a1 (b).tg.length c1,Vz a2 (b).bs.length c2] 26 [Nz,Nz] 26;go_in;go_upto_region 1 with fail;try rw[a4]
 clear a4;obtain⟨e0,e1⟩:=kA.c2';go_wp2_with fail;refine (HA.out _ a0).mono ?_;rintro e w2 ⟨⟨u,rfl,hu⟩,a3⟩;have a5:=kR.up a3 (by omega);have a6:=D5 a0 a3;obtain⟨i1,j1,i2,j2,rfl⟩:=hu.shape;clear e0 e1 kA kR a0 a3 HA;obtain⟨⟨y0,y1⟩,q0,q1⟩:=a5.c2;go_wp2_with fail;refine O0 results129 underlying26 rfl M5 a5 rfl rfl ?_;exact⟨⟨_,rfl,((hu.set (by omega)).set (by omega)).low (by omega)⟩,K6 a6 (Nat.le_succ _) _ _⟩
theorem SZ(h:House)(tv bv xv dv:Value)(w:World)(H:HV w h tv bv xv dv):
  Calls prog 34 #[.agg #[Iz h.now,Iz h.last,tv,bv,xv,dv]] w λe w'=>e=.returned (.bool (pB (DY h)))/\Up w w':=by
 obtain⟨a1,c1,a2,c2,a3,c3,a4,c4,rfl,rfl,rfl,rfl⟩:=H.shapes;have a0:=(A5 w.heap.size w).alloc (A4 _) (.cells (Hcz h a1 c1 a2 c2 a3 c3 a4 c4).toArray 30);by_cases h1:0<=h.now
 case neg =>
  have HN:Hid (pB (DY h)=false):=I5 λt=>h1 t.1;go_in;go_wp2;go_ret;exact⟨D8 HN.out.symm,a0⟩
 by_cases h2:h.now<=100000
 case neg =>
  have HN:Hid (pB (DY h)=false):=I5 λt=>h2 t.2.1;go_in;go_wp2;go_ret;exact⟨D8 HN.out.symm,a0⟩
 by_cases h3:0<=h.last
 case neg =>
  have HN:Hid (pB (DY h)=false):=I5 λt=>h3 t.2.2.1;go_in;go_wp2;go_ret;exact⟨D8 HN.out.symm,a0⟩
 have HN:Hid (pB (DY h)=decide (h.last<=1000000)):=by
  show _=_
  rw[Bool.eq_iff_iff,K5,decide_eq_true_iff];exact⟨λt=>t.2.2.2,λt=>⟨h1,h2,h3,t⟩⟩
 go_in;go_wp2;go_ret;exact⟨D8 (by rw[HN.out]),a0⟩
theorem Ta(h:House)(tv bv xv dv:Value)(w:World)(H:HV w h tv bv xv dv):
  Calls prog 36 #[.agg #[Iz h.now,Iz h.last,tv,bv,xv,dv]] w λe w'=>e=.returned (.bool (pB (BW h.sh)))/\Up w w':=by
 have hk:=H.book;obtain⟨a1,c1,a2,c2,a3,c3,a4,c4,rfl,rfl,rfl,rfl⟩:=H.shapes;have a0:=(A5 w.heap.size w).alloc (A4 _) (.cells (Hcz h a1 c1 a2 c2 a3 c3 a4 c4).toArray 30);have hC:CB (w.alloc (.cells (Hcz h a1 c1 a2 c2 a3 c3 a4 c4).toArray 30)) w.heap.size (Hcz h a1 c1 a2 c2 a3 c3 a4 c4):=F3 w _ _;go_in;go_upto_region 1 with fail;generalize w.alloc (.cells (Hcz h a1 c1 a2 c2 a3 c3 a4 c4).toArray 30)=W1 at *;obtain⟨d0,d1,d2,d3,d4,d5⟩:=hC.c6;go_wp2_with fail;refine (Lv h.sh _ _ (hk.up a0)).mono ?_;rintro e w2 ⟨⟨ss,ok,rfl,ho⟩,a5⟩;have Ho:Hid (ok=pB (BW h.sh)):=RA ho;clear d0 d1 d2 d3 d4 d5 ho;go_wp2_with fail;go_ret;exact⟨D8 Ho.out,D5 a0 a5⟩
theorem Tb(h:House)(tv bv xv dv:Value)(w:World)(H:HV w h tv bv xv dv):
  Calls prog 35 #[.agg #[Iz h.now,Iz h.last,tv,bv,xv,dv]] w λe w'=>e=.returned (.bool (pB (U0 h)))/\Up w w':=by
 obtain⟨-,-,-,b9,c5,b4,-,b0⟩:=id H;obtain⟨a1,c1,a2,c2,a3,c3,a4,c4,rfl,rfl,rfl,rfl⟩:=H.shapes;simp only[Value.slice.injEq] at b4;obtain⟨rfl,-,rfl⟩:=b4;clear H;have a9:=(A5 w.heap.size w).alloc (A4 _) (.cells (Hcz h a1 c1 a2 c2 a3 c3 a4 c4).toArray 30);have hC:CB (w.alloc (.cells (Hcz h a1 c1 a2 c2 a3 c3 a4 c4).toArray 30)) w.heap.size (Hcz h a1 c1 a2 c2 a3 c3 a4 c4):=F3 w _ _;go_in;go_upto_region 1 with fail;generalize w.alloc (.cells (Hcz h a1 c1 a2 c2 a3 c3 a4 c4).toArray 30)=W1 at *;have b1:=hC.2.2;obtain⟨d0,d1,d2,d3,d4,d5⟩:=hC.c6;by_cases h20:20<h.ds.length
 ·have HN:Hid (pB (U0 h)=false):=I5 λt=>by have:=t.1;omega
  go_wp2_with fail;go_ret;exact⟨D8 HN.out.symm,a9⟩
 go_wp2_with fail;(try dsimp only[Iz,Sz,Sy,Nz,Vz,Tz,Ez,Pz]);go_loopw [3,5,13] (λah _ i w'=>∃(k:Nat)(a:Int),k<=h.ds.length/\i=.int .i64 k/\ah=.int .i64 a/\(0<=a/\(k=0->a=0)/\(∀(j:Nat)(p:K0),j+1=k->h.ds[j]?=some p->a=p.t)/\CE h.ds h.now k)/\Up W1 w') (λ_ _ i _=>h.ds.length-(intOf i).toNat)
 case atStart=>exact⟨0,0,by omega,rfl,rfl,⟨by omega,λ_=>rfl,λj p hj=>by omega,λi d hi=>by omega⟩,A5 _ _⟩
 case round =>
  obtain⟨k,a,hk,rfl,rfl,hinv,hB⟩:=hrel;have HI:Hid (0<=a/\(k=0->a=0)/\(∀(j:Nat)(p:K0),j+1=k->h.ds[j]?=some p->a=p.t)/\CE h.ds h.now k):=hinv;clear hinv d0 d1 d2 d3 d4 d5;by_cases hp:k<h.ds.length
  ·obtain⟨b,o,ha,hD,hb⟩:=b0 (by omega);subst ha;have b2:=D5 a9 hB;obtain⟨a8,zn⟩:=hD.up b2 hb k _ (A0 hp);have c0:=a8 0 _ rfl;have b7:=a8 1 _ rfl;have b8:=a8 2 _ rfl;simp only[Nat.add_zero] at c0;obtain⟨d0,-⟩:=(hC.up hB b1).c6;have NO:Hid (¬Dz h.ds h.now k h.ds[k]->pB (U0 h)=false):=λhn=>I5 λt=>hn (t.2 k _ hp (A0 hp));have YES:Hid (Dz h.ds h.now k h.ds[k]->CE h.ds h.now (k+1)):=λhy=>EG (P:=Dz h.ds h.now) HI.out.2.2.2 hp hy
   have HT:Hid (∀(j:Nat)(p:K0),j+1=k+1->h.ds[j]?=some p->(h.ds[k]).t=p.t):=λj p hj hp'=>by
    obtain rfl:j=k:=by omega
    rw[A0 hp] at hp';obtain rfl:=A6 hp';rfl
   have HP:Hid (a<=(h.ds[k]).t->0<=(h.ds[k]).t/\∀(j:Nat)(p:K0),j+1=k->h.ds[j]?=some p->p.t<=(h.ds[k]).t):=λht=>by
    obtain⟨i0,i1,i2,-⟩:=HI.out;exact⟨by omega,λj p hj hp'=>by rw[← i2 j p hj hp'];exact ht⟩
   have HQ:Hid ((h.ds[k]).t<a->¬Dz h.ds h.now k h.ds[k]):=λht hd=>by
    obtain⟨i0,i1,i2,-⟩:=HI.out;obtain⟨-,-,-,k0,-,k2⟩:=hd;rcases C3 k with e|e
    ·have:=i1 e;omega
    ·obtain⟨j,rfl⟩:∃j,k=j+1:=⟨k-1,by omega⟩;have hj:=A0 (l:=h.ds) (i:=j) (by omega);have:=k2 j _ rfl hj;have:=i2 j _ rfl hj;omega
   generalize h.ds[k]=x0 at *;have b5:=hB.alloc hB.size (Kz [Tz (x0).nm,Iz (x0).e,Iz (x0).t] 74);have hX:CB (wr.alloc (Kz [Tz (x0).nm,Iz (x0).e,Iz (x0).t] 74)) wr.heap.size [Tz x0.nm,Iz x0.e,Iz x0.t]:=F3 wr _ _;have b6:=((A5 wr.heap.size wr).alloc (A4 _) (Kz [Tz (x0).nm,Iz (x0).e,Iz (x0).t] 74)).cell (p:=⟨w.heap.size,0,none⟩) (A2 b1 hB.size) |>.trans d0
   go_upto_region 7 with fail;generalize wr.alloc (Kz [Tz (x0).nm,Iz (x0).e,Iz (x0).t] 74)=W2 at *;obtain⟨⟨f0,f1,f2⟩,-⟩:=hX.c3;have a5:=hX.2.2;have b3:w.heap.size<W2.heap.size:=A2 b1 b5.size;clear c0 b7 b8 d0 a8;go_wp2_with fail;refine (AJ _ _ zn).mono ?_;rintro e w3 ⟨rfl,a7⟩;have g1:=(a7.cell (p:=⟨wr.heap.size,1,none⟩) a5).trans f1;have g2:=(a7.cell (p:=⟨wr.heap.size,2,none⟩) a5).trans f2;have g3:=(a7.cell (p:=⟨w.heap.size,0,none⟩) b3).trans b6;have a6:=D5 b5 a7;have a0:=D5 a9 a6;clear f0 f1 f2 b6 a7;cases q1:G0 x0.nm
   ·have HN:Hid (pB (U0 h)=false):=NO.out λt=>by rw[t.1] at q1;cases q1
    go_wp2_with fail;go_ret;exact⟨D8 HN.out.symm,a0⟩
   by_cases q2:1<=x0.e
   case neg =>
    have HN:Hid (pB (U0 h)=false):=NO.out λt=>q2 t.2.1;go_wp2_with fail;go_ret;exact⟨D8 HN.out.symm,a0⟩
   by_cases q3:x0.e<=3
   case neg =>
    have HN:Hid (pB (U0 h)=false):=NO.out λt=>q3 t.2.2.1;go_wp2_with fail;go_ret;exact⟨D8 HN.out.symm,a0⟩
   by_cases q4:a<=x0.t
   case neg =>
    have HN:Hid (pB (U0 h)=false):=NO.out (HQ.out (by omega));go_wp2_with fail;go_ret;exact⟨D8 HN.out.symm,a0⟩
   by_cases q5:x0.t<=h.now
   case neg =>
    have HN:Hid (pB (U0 h)=false):=NO.out λt=>q5 t.2.2.2.2.1;go_wp2_with fail;go_ret;exact⟨D8 HN.out.symm,a0⟩
   have HY:Hid (0<=x0.t/\CE h.ds h.now (k+1)):=⟨(HP.out q4).1,YES.out ⟨q1,q2,q3,(HP.out q4).1,q5,(HP.out q4).2⟩⟩;go_wp2_with fail;go_roundw
   case rel=>exact⟨k+1,x0.t,by omega,by go_num,rfl,⟨HY.out.1,λe=>by omega,HT.out,HY.out.2⟩,a6⟩
   case measure=>simp[intOf];omega
  ·have HY:Hid (pB (U0 h)=true):=L9 ⟨by omega,by
    have:=HI.out.2.2.2;rwa [show k=h.ds.length by omega] at this⟩
   go_wp2_with fail;go_ret;exact⟨D8 HY.out.symm,D5 a9 hB⟩
end Go.Proofs.YtmonodehegcfhaaGreatDoor
