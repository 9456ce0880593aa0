/- What the row's list gives: the table of the ends' names; a world for the witness. -/
import Derived.Test.YtgecdacgmehmbaaGreatDoorJ10
import Derived.Test.YtgecdacgmehmbaaGreatDoorRows
import Derived.Test.YtgecdacgmehmbaaGreatDoorJ2
import Derived.ProofKit
import Derived.OpenShut
import Derived.OpenVars
import Derived.LaidLaws
import Derived.Lib.LaidTab
import Derived.ChangeBears2
import Derived.Deep.DeepHandedRow
import Derived.Test.YtgecdacgmehmbaaGreatDoorKp7
import Derived.Test.YtgecdacgmehmbaaGreatDoorRf2
import Derived.OwnWalkIn
import Derived.TacticsIn
import Derived.TacticsInMore
import Derived.LoopIn
import Derived.RegionIn
import Derived.WalkKit
import Derived.Deep.RegionWith
import Derived.Shelf.RegionOpen
import Derived.Test.YtgecdacgmehmbaaGreatDoorJ11
import Derived.Laws.OwnMore
import Derived.Test.YtgecdacgmehmbaaGreatDoorJ19
import Derived.Test.YtgecdacgmehmbaaGreatDoorJ17
set_option maxRecDepth 100000
set_option maxHeartbeats 4000000
namespace Go.Proofs.YtgecdacgmehmbaaGreatDoor
open Go.ChangeShapes Go.WideShapes Go.ChangeAt Go.RowKit
theorem gN:Tryz.prog.globalNamed "loop.example/maltrun/impl.recEndNames"=some 1:=by kernel_rfl
theorem gNType:(Tryz.prog.globals[1]?).map (·.type)=some 242:=by kernel_rfl
theorem AkB:Tryz.prog.cellsOf 242=3:=by kernel_rfl
def cells3:Array Value:=#[.string ⟨#[103,111,111,100]⟩,.string ⟨#[115,97,118,101,100]⟩,.string ⟨#[115,99,114,97,112,112,101,100]⟩]
theorem Ag5 {W:World} (h:laidMet Tryz.prog [("loop.example/maltrun/impl.recEndNames",Rows.laid_loop_example_maltrun_impl_recEndNames)] W):W.var? Tryz.prog "loop.example/maltrun/impl.recEndNames"=some cells3:=by
 obtain⟨ps,⟨g,t,cs,fuel,p,q,hg,ht,hvar,hd,_,_⟩,_⟩:=h;obtain rfl:=A5 (gN.symm.trans hg);obtain rfl:=A5 (gNType.symm.trans ht);rw[hvar];congr 1
 obtain⟨l⟩:=cs;cases fuel with
 | zero=>simp[DataW.trod] at hd
 | succ fuel =>
  simp only[DataW.trod,Tryz.underlying242,AkB,O9] at hd;split at hd
  ·rename_i hl
   obtain⟨c0,c1,c2,rfl⟩:∃c0 c1 c2,l=[c0,c1,c2]:=by
    match l,hl with
    | [a,b,c],_=>exact⟨a,b,c,rfl⟩
   have e:List.range 3=[0,1,2]:=rfl;rw[e] at hd;simp only[B4,List.mapM_cons,List.mapM_nil,Option.bind_eq_bind,Option.bind_eq_some_iff,Option.pure_def,Option.some.injEq] at hd;obtain⟨xs,⟨y0,h0,_,⟨y1,h1,_,⟨y2,h2,_,rfl,rfl⟩,rfl⟩,rfl⟩,hx⟩:=hd;obtain⟨n0,rfl,rfl,_⟩:=J4 h0;obtain⟨n1,rfl,rfl,_⟩:=J4 h1;obtain⟨n2,rfl,rfl,_⟩:=J4 h2;simp[Rows.laid_loop_example_maltrun_impl_recEndNames] at hx;obtain⟨⟨e0,e1,e2⟩,_⟩:=hx;rw[AbV e0,AbV e1,AbV e2];rfl
  ·cases hd
theorem Ends.of_laid {W:World} (h:laidMet Tryz.prog [("loop.example/maltrun/impl.recEndNames",Rows.laid_loop_example_maltrun_impl_recEndNames)] W):Ends W:=by
 have hv:=Ag5 h;have hc:=λi=>World.var?_cell gN hv i;refine⟨hc 0,hc 1,hc 2,?_⟩;rcases Nat.lt_or_ge 1 W.heap.size with h'|h'
 ·exact h'
 ·unfold World.var? at hv
  rw[gN] at hv;simp only[Option.bind_some] at hv;rw[Array.getElem?_eq_none h'] at hv;cases hv
noncomputable def laidWorld (os:Os):World :=
 {World.holding Tryz.prog os ⟨#[],#[],[]⟩ with heap:=(World.holding Tryz.prog os ⟨#[],#[],[]⟩).heap.modify 1 fun
   | .cells _ t frozen=>.cells cells3 t frozen
   | o=>o}
end Go.Proofs.YtgecdacgmehmbaaGreatDoor
namespace Go.Proofs.YtgecdacgmehmbaaGreatDoor
open Go.RowKit
def GoneIs (ts:List Tr) (gone:List ByteArray):Prop:=∀(i:Nat) (p:Tr),ts[i]?=some p->p.2=memS gone p.1.nm
theorem AkC (l:List ByteArray) (s t:ByteArray):memS (l++[s]) t=(memS l t || (s.toList==t.toList)):=by simp[memS]
theorem AkD {bs:List Ba} (ha:Asc (nms bs)) {ts:List Tr} (h:ts.map (·.1)=bs) {gone:List ByteArray} (hG:GoneIs ts gone) {n:Nat} {p:Tr} (hp:ts[n]?=some p):GoneIs (ts.set n (p.1,true)) (gone++[p.1.nm]):=λi q hq=>by
 rw[AkC];by_cases e:n=i
 ·subst e
  rw[List.getElem?_set,if_pos rfl,if_pos (A2.1 hp).1] at hq;obtain rfl:=A5 hq;simp
 ·rw[List.getElem?_set,if_neg e] at hq
  rw[hG i q hq]
  have:(p.1.nm.toList==q.1.nm.toList)=false:=by
   rw[← Bool.not_eq_true,beq_iff_eq];intro h1;refine e (Abx ha (a:=p.1.nm) ?_ ?_)
   ·rw[nms,B0,V7 h hp];rfl
   ·rw[nms,B0,V7 h hq,Z5 h1];rfl
  rw[this,Bool.or_false]
theorem AmY {bs:List Ba} {ts:List Tr} (h:ts.map (·.1)=bs) {n:Nat} {p:Tr} (hp:ts[n]?=some p):(ts.set n (p.1,true)).map (·.1)=bs:=by
 rw[List.map_set,h];have:=V7 h hp;obtain⟨hn,e⟩:=A2.1 this;show bs.set n p.1=bs
 rw[← e,List.set_getElem_self]
theorem row_at {bs:List Ba} {ts:List Tr} (h:ts.map (·.1)=bs) {n:Nat} (hn:n<bs.length):∃p,ts[n]?=some p/\p.1=bs[n]:=by
 have hl:n<ts.length:=by rw[← h] at hn;simpa using hn
 refine⟨ts[n],A0 hl,?_⟩;have:=V7 h (A0 hl);rw[A0 hn] at this;exact (A5 this).symm
theorem AkE (bs:List Ba) (k:Nat):GoneIs (ts0 bs k) []:=λi p hp=>by
 rw[ts0,B0,B4] at hp;obtain⟨x,_,rfl⟩:=hp;rfl
theorem AlU {b:Bk} (hok:BookOk b) {ts:List Tr} (h:ts.map (·.1)=b.bs) {gone:List ByteArray} (hG:GoneIs ts gone) {a:Nat} {p:Tr} (hp:ts[a]?=some p) :
  (!p.2&&decide (bitsN b.things (memS p.1.needs) &&& (18446744073709551615-(bitsN b.things (freeL ts)+bitsN b.things (memS p.1.has)))=0))=true↔Good b.bs gone a:=by
 have hb:=V7 h hp;rw[Bool.and_eq_true,Bool.not_eq_true',decide_eq_true_eq];constructor
 ·rintro⟨h1,h2⟩
  exact⟨p.1,hb,by rw[← hG a p hp];exact h1,(AhY hok h hG hp h1).1 h2⟩
 ·rintro⟨x,hx,h1,h2⟩
  rw[hb] at hx;obtain rfl:=A5 hx;have h3:p.2=false:=by rw[hG a p hp];exact h1
  exact⟨h3,(AhY hok h hG hp h3).2 h2⟩
theorem AkF (tb:Nat) (b:Bk) (ts:List Tr) (gone:List ByteArray) (w:World) (h:Tab w tb b.things ts) (hok:BookOk b) (hm:ts.map (·.1)=b.bs) (hG:GoneIs ts gone) :
  Calls Tryz.prog 218 #[.pointer (some ⟨tb,0,none⟩)] w λe w'=>((∃k:Nat,e=.returned (.tuple #[.int .i64 k,.bool true])/\NextIs b.bs gone (k:Int))∨(e=.returned (.tuple #[.int .i64 0,.bool false])/\NextIs b.bs gone (-1)))/\Below w.heap.size w w':=by
 have hT:=h;obtain⟨rv,hC,hown⟩:=h;have h8:=hok.1.1;have hlb:ts.length=b.bs.length:=by rw[← hm];simp
 have h5:ts.length<=5:=by have:=hok.2.1;omega
 have Hlb:Hid (ts.length=b.bs.length):=hlb;have HG:Hid (∀(a:Nat) (p:Tr),ts[a]?=some p->((!p.2&&decide (bitsN b.things (memS p.1.needs) &&& (18446744073709551615-(bitsN b.things (freeL ts)+bitsN b.things (memS p.1.has)))=0))=true↔Good b.bs gone a)):=λa p hp=>AlU hok hm hG hp
 obtain⟨rva,rvc,rfl⟩:∃a c,rv=.slice a ts.length c:=by
  rcases hown.2 with⟨h0,h1⟩|⟨g,cap,_,hv,_⟩
  ·exact⟨none,0,by rw[h0,h1]⟩
  ·exact⟨_,cap,hv⟩
 obtain⟨t0,t1⟩:=hC.c2';clear hC hown hlb hok hm hG;go_enter Tryz.func218,Tryz.ntmps218
 go_wp2_with fail
 go_loopw [4,10] (λ_ i w'=>∃k:Nat,k<=ts.length/\i=.int .i64 k/\(∀j,j<k->¬Good b.bs gone j)/\Below w.heap.size w w') (λ_ i _=>ts.length-(intOf i).toNat)
 case atStart=>exact⟨0,by omega,rfl,λj hj=>by omega,A4 _ _⟩
 case round =>
  obtain⟨k,hk,rfl,hal,hB⟩:=hrel;have Hal:Hid (∀j,j<k->¬Good b.bs gone j):=hal;clear hal;by_cases hp:k<ts.length
  ·have hpk:=A0 hp
   have HI:=HG.out k _ hpk;have HI':Hid ((!(ts[k]).2&&decide (bitsN b.things (memS (ts[k]).1.needs) &&& (18446744073709551615-(bitsN b.things (freeL ts)+bitsN b.things (memS (ts[k]).1.has)))=0))=true↔Good b.bs gone k):=HI;clear HI;go_wp2_with fail
   refine (AmO tb k b.things ts _ _ (hT.up hB) h8 hpk h5).mono ?_;rintro e w2 ⟨rfl,hb2⟩;have hB2:=D5 hB hb2;clear hB hb2;revert HI'
   generalize (!(ts[k]).2&&decide (bitsN b.things (memS (ts[k]).1.needs) &&& (18446744073709551615-(bitsN b.things (freeL ts)+bitsN b.things (memS (ts[k]).1.has)))=0))=cb;intro HI';cases cb
   ·have Hs:Hid (∀j,j<k+1->¬Good b.bs gone j):=Abq Hal.out λh=>by have:=HI'.out.2 h;cases this
    clear HI' HG;go_wp2_with fail
    go_roundw
    case rel=>exact⟨k+1,by omega,by go_num,Hs.out,hB2⟩
    case measure=>simp[intOf];omega
   ·have Hs:Hid (NextIs b.bs gone (k:Int)):=.inr ⟨k,rfl,by have:=Hlb.out;omega,HI'.out.1 rfl,Hal.out⟩
    clear HI' HG;go_wp2_with fail
    go_returns
    exact⟨.inl ⟨k,rfl,Hs.out⟩,hB2⟩
  ·have Hs:Hid (NextIs b.bs gone (-1)):=.inl ⟨rfl,λj hj=>Hal.out j (by have:=Hlb.out;omega)⟩
   go_wp2_with fail
   go_returns
   exact⟨.inr ⟨rfl,Hs.out⟩,hB⟩
end Go.Proofs.YtgecdacgmehmbaaGreatDoor
namespace Go.Proofs.YtgecdacgmehmbaaGreatDoor
open Go Go.RowKit Go.Shelf
def lenW:Value->Nat
 | .slice _ n _=>n
 | _=>0
theorem Ah3 {W X:World} {l:Nat} {lp:Loop} (hg:W.grownBy X (some l)) (h1:W.heap[l]?=some (.loop lp)) (h2:X.heap[l]?=some (.loop lp)):Below (l+1) W X :=
 ⟨hg.os,hg.tape,hg.output,hg.size,λi hi=>by
  by_cases e:i=l
  ·subst e;rw[h1,h2]
  ·exact hg.block i (by have:=(D3.1 h1).1;omega) (by simp;omega)⟩
theorem Afy (m:Nat) (W1:World) (q l:Nat) (b:Bk) (tv bv:Value) (lp:Loop) (Fin:World->List ByteArray->Value->Prop) (hq:CB W1 q [tv,bv]) (hbk:BkV W1 (.agg #[tv,bv]) b) (hlow:∀X,Below (l+1) W1 X->BkV X (.agg #[tv,bv]) b) (hok:BookOk b) (hL:W1.heap[l]?=some (.loop lp))
  (hY:∀(gone:List ByteArray) (u:Value) (W:World),Below (l+1) W1 W->Goes b.bs gone.length gone->OwnT W (l+1) u gone->(∀s∈gone,s.size<=maxLen)->YieldAt Fence.wide m Tryz.prog l #[u] W λe W' =>
   (gone.length≠b.bs.length/\e=.returned (.bool true)/\W.grownBy W' (some l)/\W'.heap[l]?=some (.loop lp))∨(gone.length=b.bs.length/\e=.returned (.bool false)/\Fin W' gone u)) :
  CallsIn Fence.wide (m+1) Tryz.prog 216 #[.func (.yield l) #[] #[],.pointer (some ⟨q,0,none⟩)] W1 λe W'=>(∃v,e=.returned v)/\
   ((∃gone u,Goes b.bs b.bs.length gone/\(∀s∈gone,s.size<=maxLen)/\Fin W' gone u)∨(Below (l+1) W1 W'/\∃n gone,n<b.bs.length/\Goes b.bs n gone/\NextIs b.bs gone (-1))):=by
 have hlW:l<W1.heap.size:=(D3.1 hL).1;obtain⟨a1,c1,a2,c2,he,-,-⟩:=hbk.parts;obtain⟨rfl,rfl⟩:tv=.slice a1 b.things.length c1/\bv=.slice a2 b.bs.length c2:=by simpa using he
 clear he;obtain⟨ii,hi,iz0,iz1,iz2⟩:=info_parts L9;refine callsIn_of_wp Tryz.func216 rfl trivial ?_ rfl;simp only[Tryz.ntmps216,List.size_toArray,List.length_cons,List.length_nil,Nat.reduceAdd,Nat.reduceSub,Array.replicate_succ,Array.replicate_zero,List.push_toArray,List.append_toArray,List.nil_append,List.cons_append];obtain⟨q0,q1⟩:=hq.c2';have h5:=hok.2.1;have Hok:Hid (BookOk b):=hok;clear hok;gi_wp2_with fail
 refine⟨trivial,(callsIn_wide.2 (Aht b _ _ hbk Hok.out)).mono ?_⟩;rintro e W2 ⟨⟨tb,rfl,hT,htb⟩,hb2⟩;clear q0 q1;have hB2:Below (l+1) W1 W2:=hb2.mono hlW;gi_wp2_with fail
 gi_loopw [4,5,6] (λu _ _ w'=>∃(gone:List ByteArray) (ts:List Tr),gone.length<=b.bs.length/\Goes b.bs gone.length gone/\OwnT w' (tb+1) u gone/\(∀s∈gone,s.size<=maxLen)/\Tab w' tb b.things ts/\ts.map (·.1)=b.bs/\GoneIs ts gone/\Below (l+1) W1 w') (λu _ _ _=>b.bs.length+1-lenW u)
 case atStart=>exact⟨[],_,by simp,.none,⟨by simp,.inl ⟨rfl,rfl⟩⟩,λs hs=>by simp at hs,hT,by rw[Aim,List.take_length],AkE _ _,hB2⟩
 case round =>
  clear hT hB2 hb2;obtain⟨gone,ts,hgl,hgo,hown,hsz,hT,hfst,hG,hB⟩:=hrel;have hYi:=hY gone _ wr hB hgo (F9 hown (by omega)) hsz;obtain⟨fn,tmps,assign,body,hy1,hR⟩:=hYi;have hlw:=(hB.block l (by omega)).trans hL;obtain⟨ag,cg,rfl⟩:=hown.lst.shape;have Hgo:Hid (Goes b.bs gone.length gone):=hgo;have Hsz:Hid (∀s∈gone,s.size<=maxLen):=hsz;have Hfst:Hid (ts.map (·.1)=b.bs):=hfst;have HG:Hid (GoneIs ts gone):=hG;clear hgo hsz hfst hG;gi_wp2_with fail
  refine hR.mono ?_;rintro e W5 (⟨h0,rfl,hg5,hl5⟩|⟨h0,rfl,hF⟩)
  ·have hb5:=Ah3 hg5 hlw hl5
   have hB5:=hB.trans hb5
   have hT5:Tab W5 tb b.things ts:=by
    obtain⟨rv,k1,k2⟩:=hT;exact⟨rv,k1.kept hg5 (by simp;omega),E6 k2 hg5 (by omega)⟩
   have hown5:=E6 hown hg5 (by omega);clear hg5 hl5 hb5 hT hown hB hR hy1 hlw;gi_wp2_with fail
   refine⟨trivial,(callsIn_wide.2 (AkF tb b ts gone _ hT5 Hok.out Hfst.out HG.out)).mono ?_⟩;rintro e W6 ⟨hh,hb6⟩;have hz5:=hB5.size;have hz6:=hb6.size;have hB6:=hB5.trans (hb6.mono (by omega));have hT6:=hT5.up hb6;have hown6:=E0 hown5 hb6;clear hb6 hT5 hown5 hB5;rcases hh with⟨k,rfl,hnx⟩|⟨rfl,hnx⟩
   ·have Hnx:Hid (NextIs b.bs gone (k:Int)):=hnx
    obtain⟨k',hkk,hkl,⟨x,hx,hmg,-⟩,-⟩:∃k':Nat,(k:Int)=(k':Int)/\k'<b.bs.length/\Good b.bs gone k'/\∀j,j<k'->¬Good b.bs gone j:=by
     rcases hnx with⟨h,-⟩|h
     ·omega
     ·exact h
    obtain rfl:k=k':=by omega
    obtain⟨p,hpt,hpb⟩:=row_at Hfst.out hkl
    obtain rfl:x=p.1:=by
     rw[A0 hkl] at hx;rw[hpb];exact (A5 hx).symm
    have hg0:p.2=false:=by rw[HG.out k p hpt];exact hmg
    have hl5:ts.length<=5:=by
     have:=congrArg List.length Hfst.out;simp at this;omega
    have Hs:Hid (Goes b.bs (gone.length+1) (gone++[p.1.nm])):=.more Hgo.out Hnx.out hx;have HG2:Hid (GoneIs (ts.set k (p.1,true)) (gone++[p.1.nm])):=AkD Hok.out.2.2.2.1 Hfst.out HG.out hpt;have Hf2:Hid ((ts.set k (p.1,true)).map (·.1)=b.bs):=AmY Hfst.out hpt;have hp2:(ts.set k (p.1,true))[k]?=some (p.1,true):=by rw[List.getElem?_set,if_pos rfl,if_pos (A2.1 hpt).1]
    have hl2:(ts.set k (p.1,true)).length<=5:=by rw[List.length_set];exact hl5
    have Hnm:Hid (p.1.nm.size<=maxLen):=by
     obtain⟨tv',bv',e0,-,e2⟩:=(hlow W6 hB6);obtain⟨a',c',e3,-,hpos⟩:=e2;obtain⟨bb,o,-,hS,-⟩:=hpos (by omega);have:=(hS.at hkl).batch;rw[← hpb] at this;exact this
    clear hnx hx hmg hpb hkk;gi_wp2_with fail
    refine⟨trivial,(callsIn_wide.2 (Akw tb k b.things ts p b.bs _ hT6 Hok.out.1.1 hpt hg0 Hfst.out Hok.out.2.2.2.2.2 hl5)).mono ?_⟩;rintro e W7 ⟨⟨v7,rfl⟩,hT7,hb7,hO7⟩;have hown7:=hO7 _ _ _ hown6 (by omega);have hB7:=hB6.trans (hb7.mono (by omega));have hz7:=hb7.size;clear hO7 hb7 hT6 hown6 hB6 hpt hg0 hl5;generalize ts.set k (p.1,true)=ts2 at *;obtain⟨rv,kT,hrw⟩:=hT7;have hi2:=(A2.1 hp2).1;obtain⟨g,cap,rfl⟩:=F2 hrw (by omega);obtain⟨r0,-,-,-⟩:=Abi hrw hp2;simp only at r0;obtain⟨t0,t1⟩:=kT.c2';have htl:=kT.2.2;generalize p.1.nm=nm at *;have hownA:=E0 hown7 ((A4 W7.heap.size W7).alloc (A3 _) (.cells #[.string nm] 9));have hrwA:=E0 hrw ((A4 W7.heap.size W7).alloc (A3 _) (.cells #[.string nm] 9));have kTA:=kT.up ((A4 W7.heap.size W7).alloc (A3 _) (.cells #[.string nm] 9)) htl;have hBA:=hB7.alloc (by omega) (.cells #[.string nm] 9);gi_wp2_with (gi_at_builtin;refine wpListIn_append_own _ rfl _ _ 22 rfl (tb+1) 9 ii _ 1 16 Tryz.underlying22 hi iz0 iz1 iz2 rfl (by decide) _ _ _ rfl hownA ⟨W7.heap.size,0,none⟩ 1 1 [.string nm] rfl rfl (S1 _ _ _) (Abp _) (by unfold maxLen;omega) (by omega) (by simp;omega) ?_)
    intro v8 W8 hown8 hgr8 _;have hT8:Tab W8 tb b.things ts2:=⟨_,kTA.kept hgr8 (Z3 hownA (by omega)),Agn hrwA hgr8 (Afa hrwA hownA (by decide))⟩;have hB8:Below (l+1) W1 W8:=⟨hgr8.os.trans hBA.os,hgr8.tape.trans hBA.tape,hgr8.output.trans hBA.output,B1 hBA.size hgr8.size,λi hi=>(hgr8.block i (by have:=hBA.size;omega) (Z3 hownA (by omega))).trans (hBA.block i hi)⟩;have ho8:OwnT W8 (tb+1) v8 (gone++[nm]):=by unfold OwnT;rw[A9,List.map_append];exact hown8
    obtain⟨a8,c8,rfl⟩:∃a c,v8=.slice a (gone.length+1) c:=by simpa using ho8.lst.shape
    clear hownA hrwA kTA hBA hown8 hgr8 hown7 hrw kT t0 t1 r0 hB7;gi_wp2_with fail
    go_roundw
    case rel =>
     refine⟨gone++[nm],ts2,by simp;omega,by rw[A9];exact Hs.out,ho8,λs hs=>?_,hT8,Hf2.out,HG2.out,hB8⟩;rcases D0.1 hs with h|h
     ·exact Hsz.out s h
     ·obtain rfl:s=nm:=by simpa using h
      exact Hnm.out
    case measure=>simp[lenW];omega
   ·gi_wp2_with fail
    (try simp only[Exit.inBlock,Exit.then])
    refine bodyPost_ret (results_none rfl _ _ _) rfl ?_;exact⟨⟨_,rfl⟩,.inr ⟨hB6,gone.length,gone,by omega,Hgo.out,hnx⟩⟩
  ·gi_wp2_with fail
   go_end0
   exact⟨⟨_,rfl⟩,.inl ⟨gone,_,by rw[← h0];exact Hgo.out,Hsz.out,hF⟩⟩
end Go.Proofs.YtgecdacgmehmbaaGreatDoor
namespace Go.Proofs.YtgecdacgmehmbaaGreatDoor
open Go.RowKit
theorem X7 (ss:List ByteArray) (v:Value) (w:World) (h:Ls w v ss) (hn:ss.length<=1048576) :
  Calls Tryz.prog 72 #[v] w λe w'=>(∃u,e=.returned u/\OwnT w' w.heap.size u ss/\NN u)/\Below w.heap.size w w':=by
 obtain⟨a,c,rfl,-,-,hpos⟩:=h;obtain⟨ii,hi,iz0,iz1,iz2⟩:=info_parts L9;have ho:=Ac0 w;have hb:=(A4 w.heap.size w).alloc (A3 _) (.cells #[] 9);rcases C3 ss.length with h0|h0
 ·obtain rfl:=C4.1 h0
  simp only[List.length_nil];go_enter Tryz.func72,Tryz.ntmps72
  go_wp2_with (at_builtin;refine Acz _ rfl _ _ 22 rfl w.heap.size 9 ii 1 Tryz.underlying22 hi _ 0 [] rfl ho a c rfl ?_)
  go_ret
  exact⟨⟨_,rfl,ho,_,_,_,rfl⟩,hb⟩
 ·obtain⟨g,o,rfl,hS,hg⟩:=hpos h0
  have hn1:=J5 (hS.alloc (.cells #[] 9));go_enter Tryz.func72,Tryz.ntmps72
  go_wp2_with (at_builtin;refine wpList_append_own _ rfl _ _ 22 rfl w.heap.size 9 ii _ 1 16 Tryz.underlying22 hi iz0 iz1 iz2 rfl (by decide) _ 0 [] rfl ho ⟨g,o,none⟩ ss.length c (ss.map Value.string) rfl (by simp) hn1 (Z2 ss) (by unfold maxLen;omega) (by omega) hb.size ?_)
  intro v1 w1 hown1 hgr1 _;have hB1:=G4 hb ho hgr1 (A3 _);have ho1:OwnT w1 w.heap.size v1 ss:=by unfold OwnT;simpa using hown1
  obtain⟨g1,k1,rfl⟩:=F2 ho1 h0;clear hown1 hgr1 ho hb hn1;go_wp2_with fail
  go_ret
  exact⟨⟨_,rfl,ho1,_,_,_,rfl⟩,hB1⟩
theorem Ajd (b:Bk) (v gv:Value) (gone:List ByteArray) (w:World) (h:BkV w v b) (hg:Ls w gv gone) :
  Calls Tryz.prog 131 #[v,gv] w λe w'=>(∃n:Int,e=.returned (.int .i64 n)/\NextIs b.bs gone n)/\Below w.heap.size w w':=by
 obtain⟨a1,c1,a2,c2,rfl,h1,h2⟩:=h.parts;obtain⟨ag,cg,rfl,-⟩:=id hg;have hC:CB (w.alloc (.cells #[.slice a1 (b).things.length c1,.slice a2 (b).bs.length c2] 37)) w.heap.size [.slice a1 b.things.length c1,.slice a2 b.bs.length c2]:=E8 w _ _;have hB0:=(A4 w.heap.size w).alloc (A3 _) (.cells #[.slice a1 (b).things.length c1,.slice a2 (b).bs.length c2] 37);have g2:=h2.at.1;unfold maxLen at g2;go_enter Tryz.func131,Tryz.ntmps131
 go_upto_region 1 with fail
 generalize w.alloc (.cells #[.slice a1 (b).things.length c1,.slice a2 (b).bs.length c2] 37)=W1 at *;have l2:=h2.up hB0;have hk:=h.up hB0;have lg:=hg.up hB0;clear h h1 h2 hg;obtain⟨e0,e1⟩:=hC.c2';have hlt:=hC.2.2;obtain⟨-,hpos⟩:=l2.at;have hB:Below W1.heap.size W1 W1:=A4 _ _;go_wp2_with fail
 go_loopw [5] (λi w'=>∃k:Nat,k<=b.bs.length/\i=.int .i64 k/\(∀j,j<k->¬Good b.bs gone j)/\Below W1.heap.size W1 w') (λi _=>b.bs.length-(intOf i).toNat)
 case atStart=>exact⟨0,by omega,rfl,λj hj=>by omega,hB⟩
 case round =>
  clear hB;obtain⟨k,hkl,rfl,hal,hB⟩:=hrel;have Hal:Hid (∀j,j<k->¬Good b.bs gone j):=hal;clear hal;have f0:=(hB.cell (p:=⟨w.heap.size,0,none⟩) hlt).trans e0;have f1:=(hB.cell (p:=⟨w.heap.size,1,none⟩) hlt).trans e1;by_cases hp:k<b.bs.length
  ·obtain⟨bb,o,rfl,hS,hb⟩:=hpos (by omega)
   obtain⟨a3,d3,a4,d4,c3,c4,c5,-,-,-⟩:=((hS.at hp).up hB hb).cells;have HI:Hid (Good b.bs gone k↔memS gone (b.bs[k]).nm=false/\Can b.bs k gone):=Al1 hp;generalize b.bs[k]=x0 at *;clear hS;go_wp2_with fail
   refine (N9 gone _ x0.nm _ (lg.up hB)).mono ?_;rintro e w' ⟨rfl,hw⟩;obtain rfl:=hw.symm;clear hw;cases hm:memS gone x0.nm
   case true =>
    have Hs:Hid (∀j,j<k+1->¬Good b.bs gone j):=Abq Hal.out λh=>by rw[(HI.out.1 h).1] at hm;cases hm
    clear HI;go_wp2_with fail
    go_roundw
    case rel=>exact⟨k+1,by omega,by go_num,Hs.out,hB⟩
    case measure=>simp[intOf];omega
   go_wp2_with fail
   refine (AkA b _ _ k gone _ (hk.up hB) (lg.up hB) hp).mono ?_;rintro e w2 ⟨rfl,hb2⟩;have hB2:=D5 hB hb2;clear f0 f1 hB hb2 c3 c4 c5;cases hcn:pB (Can b.bs k gone)
   ·have Hs:Hid (∀j,j<k+1->¬Good b.bs gone j):=Abq Hal.out λh=>J0.1 hcn (HI.out.1 h).2
    clear HI;go_wp2_with fail
    go_roundw
    case rel=>exact⟨k+1,by omega,by go_num,Hs.out,hB2⟩
    case measure=>simp[intOf];omega
   ·have Hs:Hid (NextIs b.bs gone (k:Int)):=.inr ⟨k,rfl,hp,HI.out.2 ⟨hm,F7.1 hcn⟩,Hal.out⟩
    clear HI;go_wp2_with fail
    go_ret
    exact⟨⟨_,rfl,Hs.out⟩,D5 hB0 hB2⟩
  ·have Hs:Hid (NextIs b.bs gone (-1)):=.inl ⟨rfl,λj hj=>Hal.out j (by omega)⟩
   go_wp2_with fail
   go_ret
   exact⟨⟨_,rfl,Hs.out⟩,D5 hB0 hB⟩
def lenV:Value->Nat
 | .slice _ n _=>n
 | _=>0
theorem Afz (b:Bk) (v:Value) (w:World) (h:BkV w v b) :
  Calls Tryz.prog 98 #[v] w λe w'=>(∃u ss ok,e=.returned (.tuple #[u,.bool ok])/\OrderIs b ss ok/\OwnT w' w.heap.size u ss/\∀s∈ss,s.size<=maxLen)/\Below w.heap.size w w':=by
 obtain⟨a1,c1,a2,c2,rfl,h1,h2⟩:=h.parts;obtain⟨W1,hW1,kA,hB1,hs1⟩:=K6 w [.slice a1 (b).things.length c1,.slice a2 (b).bs.length c2] 37;have hz1:=hB1.size;clear hs1;obtain⟨ii,hi,iz0,iz1,iz2⟩:=info_parts L9;go_enter Tryz.func98,Tryz.ntmps98
 go_upto_region 1 with fail
 try rw[hW1]
 clear hW1;have hk:=h.up hB1;have l2:=h2.up hB1;obtain⟨e0,e1⟩:=kA.c2';have hlt:=kA.2.2;obtain⟨-,hpos⟩:=l2.at;clear h h1 h2;have ho2:=Ac0 W1;have hb2:=(A4 W1.heap.size W1).alloc (A3 _) (.cells #[] 9);go_upto_region 2 with fail
 generalize W1.alloc (.cells #[] 9)=W2 at *;have f0:=(hb2.cell (p:=⟨w.heap.size,0,none⟩) hlt).trans e0;have f1:=(hb2.cell (p:=⟨w.heap.size,1,none⟩) hlt).trans e1;go_wp2_with fail
 refine (AaM b _ _ (hk.up hb2)).mono ?_;rintro e w3 ⟨rfl,hb3⟩;have hB3:=D5 hb2 hb3;have ho3:=ho2.up hb3;clear f0 f1 hb3 ho2 hb2;cases hq:bookB b
 ·have Hq:Hid (OrderIs b [] false):=.inr ⟨rfl,rfl,.inl (J0.1 hq)⟩
  go_wp2_with fail
  go_returns
  exact⟨⟨_,[],false,rfl,Hq.out,F9 ho3 (by omega),λs hs=>by simp at hs⟩,D5 hB1 hB3⟩
 have Hok:Hid (BookOk b):=F7.1 hq;have h5:b.bs.length<=5:=Hok.out.2.1;clear hq;go_wp2_with fail
 go_loopw [4,5] (λu _ w'=>∃(n:Nat) (gone:List ByteArray),n<=b.bs.length/\Goes b.bs n gone/\OwnT w' W1.heap.size u gone/\(∀s∈gone,s.size<=maxLen)/\Below W1.heap.size W1 w') (λu _ _=>b.bs.length-lenV u)
 case atStart=>exact⟨0,[],by omega,.none,ho3,λs hs=>by simp at hs,hB3⟩
 case round =>
  clear hB3 ho3;obtain⟨n,gone,hnl,hgo,hown,hsz,hB⟩:=hrel;have Hgo:Hid (Goes b.bs n gone):=hgo;have Hlen:Hid (gone.length=n):=hgo.length;have lgo:=hown.lst.ls hsz;obtain⟨ag,cg,rfl⟩:=hown.lst.shape;have Hsz:Hid (∀s∈gone,s.size<=maxLen):=hsz;clear hgo hsz;have hgl:gone.length<=b.bs.length:=by rw[Hlen.out];exact hnl
  have f0:=(hB.cell (p:=⟨w.heap.size,0,none⟩) hlt).trans e0;have f1:=(hB.cell (p:=⟨w.heap.size,1,none⟩) hlt).trans e1;by_cases hp:gone.length<b.bs.length
  ·go_wp2_with fail
   refine (Ajd b _ _ gone _ (hk.up hB) lgo).mono ?_;rintro e w4 ⟨⟨nx,rfl,hnx⟩,hb4⟩;have hB4:=D5 hB hb4;have hown4:=hown.up hb4;have Hnx:Hid (NextIs b.bs gone nx):=hnx;clear f0 f1 hB hb4 hown lgo;rcases hnx with⟨rfl,-⟩|⟨k,rfl,hkl,-,-⟩
   ·have Hs:Hid (OrderIs b [] false):=.inr ⟨rfl,rfl,.inr ⟨n,gone,by have:=Hlen.out;omega,Hgo.out,Hnx.out⟩⟩
    have ho5:=Ac0 w4;have hb5:=(A4 w4.heap.size w4).alloc (A3 _) (.cells #[] 9);have hz4:=hB4.size;go_wp2_with fail
    go_returns
    exact⟨⟨_,[],false,rfl,Hs.out,F9 ho5 (by omega),λs hs=>by simp at hs⟩,D5 hB1 (D5 hB4 hb5)⟩
   ·obtain⟨bb,o,rfl,hS,hb⟩:=hpos (by omega)
    have f1:=(hB4.cell (p:=⟨w.heap.size,1,none⟩) hlt).trans e1;obtain⟨a3,d3,a4,d4,c3,-,-,-,-,z0⟩:=((hS.at hkl).up hB4 hb).cells;have Hs:Hid (Goes b.bs (n+1) (gone++[(b.bs[k]).nm])):=.more Hgo.out Hnx.out (A0 hkl);generalize b.bs[k]=x0 at *;have hnb:decide ((k:Int)<0)=false:=by simp
    have hownA:=E0 hown4 ((A4 w4.heap.size w4).alloc (A3 _) (.cells #[.string x0.nm] 9));have hBA:=hB4.alloc hB4.size (.cells #[.string x0.nm] 9);clear hS;go_wp2_with (at_builtin;refine wpList_append_own _ rfl _ _ 22 rfl W1.heap.size 9 ii _ 1 16 Tryz.underlying22 hi iz0 iz1 iz2 rfl (by decide) _ _ _ rfl hownA ⟨w4.heap.size,0,none⟩ 1 1 [.string x0.nm] rfl rfl (S1 _ _ _) (Abp _) (by unfold maxLen;omega) (by omega) hBA.size ?_)
    intro v1 w5 hown5 hgr5 _;have hB5:=G4 hBA hownA hgr5 (A3 _);have ho5:OwnT w5 W1.heap.size v1 (gone++[x0.nm]):=by unfold OwnT;rw[A9,List.map_append];exact hown5
    have hl5:∃a c,v1=.slice a (gone.length+1) c:=by
     have:=ho5.lst.shape;simpa using this
    obtain⟨a5,c5,rfl⟩:=hl5;clear hownA hBA hown5 hgr5 hown4 hB4 f1 c3;go_wp2_with fail
    go_roundw
    case rel =>
     refine⟨n+1,_,by have:=Hlen.out;omega,Hs.out,ho5,λs hs=>?_,hB5⟩;rcases D0.1 hs with h|h
     ·exact Hsz.out s h
     ·obtain rfl:s=x0.nm:=by simpa using h
      exact z0
    case measure=>simp[lenV];omega
  ·have Hs:Hid (OrderIs b gone true):=.inl ⟨rfl,Hok.out,by
    have e:b.bs.length=n:=by have:=Hlen.out;omega
    rw[e];exact Hgo.out⟩
   go_wp2_with fail
   go_returns
   exact⟨⟨_,gone,true,rfl,Hs.out,F9 hown (by omega),Hsz.out⟩,D5 hB1 hB⟩
theorem Ag6:∀(ps:List Bv) (k:Nat) (p:Bv) (s:ByteArray),ps[k]?=some p->(rowsB ps).set (k*3) (.string s)=rowsB (ps.set k ((⟨s,p.1.has,p.1.needs⟩,p.2.1,p.2.2):Bv))
 | q::r,0,p,s,h=>by
  obtain rfl:q=p:=by simpa using h
  simp[rowsB,rowB]
 | q::r,k+1,p,s,h=>by
  have:=Ag6 r k p s (by simpa using h);rw[show (k+1)*3=k*3+3 by omega];simp[rowsB,rowB,this]
theorem Ael:∀(ps:List Bv) (k:Nat) (p:Bv) (x:Ba),ps[k]?=some p->x.nm=p.1.nm->rowsB (ps.set k ((x,p.2.1,p.2.2):Bv))=rowsB ps
 | q::r,0,p,x,h,e=>by
  obtain rfl:q=p:=by simpa using h
  simp[rowsB,rowB,e]
 | q::r,k+1,p,x,h,e=>by
  have:=Ael r k p x (by simpa using h) e;simp[rowsB,this]
theorem AcX:∀(qs:List Bv) (k:Nat) (p:Bv),qs[k]?=some p->(famB qs).Perm ((p.2.1,p.1.has)::(p.2.2,p.1.needs)::famB (qs.eraseIdx k))
 | [],_,_,h=>by simp at h
 | q::r,0,p,h=>by
  obtain rfl:q=p:=by simpa using h
  simp[famB]
 | q::r,k+1,p,h=>by
  have ih:=AcX r k p (by simpa using h);simp only[famB,List.eraseIdx_cons_succ];refine ((ih.cons _).cons _).trans ?_;exact (List.perm_append_comm (l₁:=[(q.2.1,q.1.has),(q.2.2,q.1.needs)]) (l₂:=[(p.2.1,p.1.has),(p.2.2,p.1.needs)])).append_right (famB (r.eraseIdx k))
theorem Aje {α:Type} (t a b:α) (l:List α):(t::a::b::l).Perm (a::b::t::l):=(List.perm_append_comm (l₁:=[t]) (l₂:=[a,b])).append_right l
theorem Fam.front {w:World} {B:Nat} {q:Option Nat} {t:Value×List ByteArray} {ps:List Bv} {k:Nat} {p:Bv} (h:Fam w B q (t::famB ps)) (hp:ps[k]?=some p):Fam w B q ((p.2.1,p.1.has)::(p.2.2,p.1.needs)::t::famB (ps.eraseIdx k)) :=
 h.perm (((AcX ps k p hp).cons t).trans (Aje _ _ _ _))
theorem Fam.back {w:World} {B:Nat} {q:Option Nat} {t:Value×List ByteArray} {ps:List Bv} {k:Nat} {p:Bv} (h:Fam w B q ((p.2.1,p.1.has)::(p.2.2,p.1.needs)::t::famB (ps.eraseIdx k))) (hk:k<ps.length):Fam w B q (t::famB (ps.set k p)):=by
 refine h.perm (List.Perm.symm ?_);have h1:=AcX (ps.set k p) k p (by rw[C9 hk]);rw[List.eraseIdx_set_eq] at h1;exact (h1.cons t).trans (Aje _ _ _ _)
theorem Fam.over {w w':World} {B G:Nat} {u:Value} {ss ss':List ByteArray} {fs:List (Value×List ByteArray)} (h:Fam w B (some G) ((u,ss)::fs)) (hG:G<w.heap.size) (hg:w.grownBy w' u.ownBlock) (hu:OwnT w' B u ss'):Fam w' B (some G) ((u,ss')::fs) :=
 h.app hg hu (λ_ hg=>.inl hg) (λ_ h=>by cases h;exact hG)
theorem Fam.off {w w':World} {B G:Nat} {u:Value} {ss:List ByteArray} {fs:List (Value×List ByteArray)} (h:Fam w B (some G) ((u,ss)::fs)) (hG:G<w.heap.size) (hg:w.grownBy w' u.ownBlock):w'.heap[G]?=w.heap[G]? :=
 hg.block G hG (λe=>h.av _ List.mem_cons_self G e.symm rfl)
theorem AdB {W W':World} {base b2 n:Nat} {u v:Value} {ss:List ByteArray} {xs:List Value} (hrow:W.ownsRow b2 118 3 v n xs) (h:OwnT W base u ss) (hg:W.grownBy W' u.ownBlock):W'.ownsRow b2 118 3 v n xs :=
 E4 hrow hg (E5 hrow h (by decide))
def BkG (w:World) (base:Nat) (q:Option Nat) (v:Value) (b:Bk):Prop:=∃a1 c1 a2 c2 ps,v=.agg #[.slice a1 b.things.length c1,.slice a2 b.bs.length c2]/\BsW w base (.slice a2 b.bs.length c2) ps/\ps.map (·.1)=b.bs/\Fam w base q ((.slice a1 b.things.length c1,b.things)::famB ps)/\∀g,(Value.slice a2 b.bs.length c2).ownBlock=some g->some g≠q
theorem BkF.off {w:World} {base G:Nat} {v:Value} {b:Bk} (h:BkF w base v b) (hG:w.heap.size<=G):BkG w base (some G) v b:=by
 obtain⟨a1,c1,a2,c2,ps,e,h1,h2,h3⟩:=h;refine⟨a1,c1,a2,c2,ps,e,h1,h2,h3.avoid hG,λg hg e=>?_⟩;have:=(h1.1.lt g hg).2;obtain rfl:=A5 e;omega
theorem BkG.free {w:World} {base:Nat} {q:Option Nat} {v:Value} {b:Bk} (h:BkG w base q v b):BkF w base v b:=by
 obtain⟨a1,c1,a2,c2,ps,e,h1,h2,h3,-⟩:=h;exact⟨a1,c1,a2,c2,ps,e,h1,h2,h3.free⟩
theorem BkG.up {w w':World} {base:Nat} {q:Option Nat} {v:Value} {b:Bk} (h:BkG w base q v b) (hb:Below w.heap.size w w'):BkG w' base q v b:=by
 obtain⟨a1,c1,a2,c2,ps,e,h1,h2,h3,h4⟩:=h;exact⟨a1,c1,a2,c2,ps,e,h1.up hb,h2,h3.up hb,h4⟩
def KpT (T:List Nat) (w w':World):Prop:=∀(base e s n:Nat) (v:Value) (xs:List Value),e∉T->w.ownsRow base e s v n xs->w'.ownsRow base e s v n xs
theorem KpT.refl (T:List Nat) (w:World):KpT T w w:=λ_ _ _ _ _ _ _ h=>h
theorem KpT.trans {T:List Nat} {a b c:World} (h:KpT T a b) (k:KpT T b c):KpT T a c:=λ_ _ _ _ _ _ he hr=>k _ _ _ _ _ _ he (h _ _ _ _ _ _ he hr)
theorem KpT.up {T:List Nat} {a b c:World} (h:KpT T a b) (hb:Below b.heap.size b c):KpT T a c:=λ_ _ _ _ _ _ he hr=>E0 (h _ _ _ _ _ _ he hr) hb
theorem KpT.gr {T:List Nat} {a b c:World} {base e s n:Nat} {u:Value} {xs:List Value} (h:KpT T a b) (hrow:b.ownsRow base e s u n xs) (he:e∈T) (hg:b.grownBy c u.ownBlock):KpT T a c:=λ_ _ _ _ _ _ he' hr=>by
 have h1:=h _ _ _ _ _ _ he' hr;exact E4 h1 hg (E5 h1 hrow λe=>he' (e ▸ he))
theorem KpT.more {T T':List Nat} {a b:World} (h:KpT T a b) (hs:∀t∈T,t∈T'):KpT T' a b:=λ_ _ _ _ _ _ he hr=>h _ _ _ _ _ _ (λh=>he (hs _ h)) hr
theorem Aem {b:Bk} {nm:ByteArray} {ls:List ByteArray} (h:ofC b nm ls=0):memS (nms b.bs) nm=true:=by
 cases hm:memS (nms b.bs) nm
 ·rw[AcV hm] at h;omega
 ·rfl
theorem AeC {b:Bk} {nm:ByteArray} {ls:List ByteArray} (h:ofC b nm ls=0):PartOk ls (needsAt b nm):=by
 have hm:=Aem h;cases hp:pB (PartOk ls (needsAt b nm))
 ·rw[Aeg hm hp] at h;omega
 ·exact F7.1 hp
theorem Ag7 {b:Bk} {nm:ByteArray} {ls:List ByteArray} (hok:BookOk b) (h:ofC b nm ls=0):ls.length<=8:=by
 obtain⟨-,hpl⟩:=AaK (Aem h);have hp:=AeC h;rw[Z7 (A0 hpl)] at hp;have h1:=L5 hp;have h2:=((M1 hok).2.2 b.bs[plN b nm] (by simp)).2;omega
end Go.Proofs.YtgecdacgmehmbaaGreatDoor
