/- The program's iterator that tells an order as it grows (chapter 12). -/
import Derived.Test.YtebfdccbmmpceaaGreatDoorJ20
import Derived.Test.YtebfdccbmmpceaaGreatDoorRf2
import Derived.OwnWalkIn
import Derived.TacticsIn
import Derived.TacticsInMore
import Derived.LoopIn
import Derived.RegionIn
import Derived.WalkKit
import Derived.Deep.RegionWith
import Derived.Shelf.RegionOpen
import Derived.Test.YtebfdccbmmpceaaGreatDoorJ19
import Derived.Test.YtebfdccbmmpceaaGreatDoorJ16
import Derived.Test.YtebfdccbmmpceaaGreatDoorJ17
set_option maxRecDepth 100000
set_option maxHeartbeats 4000000
namespace Go.Proofs.YtebfdccbmmpceaaGreatDoor
open Go Go.RowKit Go.Shelf
def lenW:Value->Nat
 | .slice _ n _=>n
 | _=>0
theorem AhT {W X:World} {l:Nat} {lp:Loop} (hg:W.grownBy X (some l)) (h1:W.heap[l]?=some (.loop lp)) (h2:X.heap[l]?=some (.loop lp)):Below (l+1) W X :=
 ⟨hg.os,hg.tape,hg.output,hg.size,λi hi=>by
  by_cases e:i=l
  ·subst e;rw[h1,h2]
  ·exact hg.block i (by have:=(D4.1 h1).1;omega) (by simp;omega)⟩
theorem AfN (m:Nat) (W1:World) (q l:Nat) (b:Bk) (tv bv:Value) (lp:Loop) (Fin:World->List ByteArray->Value->Prop) (hq:CB W1 q [tv,bv]) (hbk:BkV W1 (.agg #[tv,bv]) b) (hlow:∀X,Below (l+1) W1 X->BkV X (.agg #[tv,bv]) b) (hok:BookOk b) (hL:W1.heap[l]?=some (.loop lp))
  (hY:∀(gone:List ByteArray) (u:Value) (W:World),Below (l+1) W1 W->Goes b.bs gone.length gone->OwnT W (l+1) u gone->(∀s∈gone,s.size<=maxLen)->YieldAt Fence.wide m Tryz.prog l #[u] W λe W' =>
   (gone.length≠b.bs.length/\e=.returned (.bool true)/\W.grownBy W' (some l)/\W'.heap[l]?=some (.loop lp))∨(gone.length=b.bs.length/\e=.returned (.bool false)/\Fin W' gone u)) :
  CallsIn Fence.wide (m+1) Tryz.prog 212 #[.func (.yield l) #[] #[],.pointer (some ⟨q,0,none⟩)] W1 λe W'=>(∃v,e=.returned v)/\
   ((∃gone u,Goes b.bs b.bs.length gone/\(∀s∈gone,s.size<=maxLen)/\Fin W' gone u)∨(Below (l+1) W1 W'/\∃n gone,n<b.bs.length/\Goes b.bs n gone/\NextIs b.bs gone (-1))):=by
 have hlW:l<W1.heap.size:=(D4.1 hL).1;obtain⟨a1,c1,a2,c2,he,-,-⟩:=hbk.parts;obtain⟨rfl,rfl⟩:tv=.slice a1 b.things.length c1/\bv=.slice a2 b.bs.length c2:=by simpa using he
 clear he;obtain⟨ii,hi,iz0,iz1,iz2⟩:=info_parts M1;refine callsIn_of_wp Tryz.func212 rfl trivial ?_ rfl;simp only[Tryz.ntmps212,List.size_toArray,List.length_cons,List.length_nil,Nat.reduceAdd,Nat.reduceSub,Array.replicate_succ,Array.replicate_zero,List.push_toArray,List.append_toArray,List.nil_append,List.cons_append];obtain⟨q0,q1⟩:=hq.c2';have h5:=hok.2.1;have Hok:Hid (BookOk b):=hok;clear hok;gi_wp2_with fail
 refine⟨trivial,(callsIn_wide.2 (AhQ b _ _ hbk Hok.out)).mono ?_⟩;rintro e W2 ⟨⟨tb,rfl,hT,htb⟩,hb2⟩;clear q0 q1;have hB2:Below (l+1) W1 W2:=hb2.mono hlW;gi_wp2_with fail
 gi_loopw [4,5,6] (λu _ _ w'=>∃(gone:List ByteArray) (ts:List Tr),gone.length<=b.bs.length/\Goes b.bs gone.length gone/\OwnT w' (tb+1) u gone/\(∀s∈gone,s.size<=maxLen)/\Tab w' tb b.things ts/\ts.map (·.1)=b.bs/\GoneIs ts gone/\Below (l+1) W1 w') (λu _ _ _=>b.bs.length+1-lenW u)
 case atStart=>exact⟨[],_,by simp,.none,⟨by simp,.inl ⟨rfl,rfl⟩⟩,λs hs=>by simp at hs,hT,by rw[AiN,List.take_length],All _ _,hB2⟩
 case round =>
  clear hT hB2 hb2;obtain⟨gone,ts,hgl,hgo,hown,hsz,hT,hfst,hG,hB⟩:=hrel;have hYi:=hY gone _ wr hB hgo (G4 hown (by omega)) hsz;obtain⟨fn,tmps,assign,body,hy1,hR⟩:=hYi;have hlw:=(hB.block l (by omega)).trans hL;obtain⟨ag,cg,rfl⟩:=hown.lst.shape;have Hgo:Hid (Goes b.bs gone.length gone):=hgo;have Hsz:Hid (∀s∈gone,s.size<=maxLen):=hsz;have Hfst:Hid (ts.map (·.1)=b.bs):=hfst;have HG:Hid (GoneIs ts gone):=hG;clear hgo hsz hfst hG;gi_wp2_with fail
  refine hR.mono ?_;rintro e W5 (⟨h0,rfl,hg5,hl5⟩|⟨h0,rfl,hF⟩)
  ·have hb5:=AhT hg5 hlw hl5
   have hB5:=hB.trans hb5
   have hT5:Tab W5 tb b.things ts:=by
    obtain⟨rv,k1,k2⟩:=hT;exact⟨rv,k1.kept hg5 (by simp;omega),E9 k2 hg5 (by omega)⟩
   have hown5:=E9 hown hg5 (by omega);clear hg5 hl5 hb5 hT hown hB hR hy1 hlw;gi_wp2_with fail
   refine⟨trivial,(callsIn_wide.2 (Alm tb b ts gone _ hT5 Hok.out Hfst.out HG.out)).mono ?_⟩;rintro e W6 ⟨hh,hb6⟩;have hz5:=hB5.size;have hz6:=hb6.size;have hB6:=hB5.trans (hb6.mono (by omega));have hT6:=hT5.up hb6;have hown6:=E1 hown5 hb6;clear hb6 hT5 hown5 hB5;rcases hh with⟨k,rfl,hnx⟩|⟨rfl,hnx⟩
   ·have Hnx:Hid (NextIs b.bs gone (k:Int)):=hnx
    obtain⟨k',hkk,hkl,⟨x,hx,hmg,-⟩,-⟩:∃k':Nat,(k:Int)=(k':Int)/\k'<b.bs.length/\Good b.bs gone k'/\∀j,j<k'->¬Good b.bs gone j:=by
     rcases hnx with⟨h,-⟩|h
     ·omega
     ·exact h
    obtain rfl:k=k':=by omega
    obtain⟨p,hpt,hpb⟩:=row_at Hfst.out hkl
    obtain rfl:x=p.1:=by
     rw[A0 hkl] at hx;rw[hpb];exact (A5 hx).symm
    have hg0:p.2=false:=by rw[HG.out k p hpt];exact hmg
    have hl5:ts.length<=5:=by
     have:=congrArg List.length Hfst.out;simp at this;omega
    have Hs:Hid (Goes b.bs (gone.length+1) (gone++[p.1.nm])):=.more Hgo.out Hnx.out hx;have HG2:Hid (GoneIs (ts.set k (p.1,true)) (gone++[p.1.nm])):=Alk Hok.out.2.2.2.1 Hfst.out HG.out hpt;have Hf2:Hid ((ts.set k (p.1,true)).map (·.1)=b.bs):=Aoa Hfst.out hpt;have hp2:(ts.set k (p.1,true))[k]?=some (p.1,true):=by rw[List.getElem?_set,if_pos rfl,if_pos (A2.1 hpt).1]
    have hl2:(ts.set k (p.1,true)).length<=5:=by rw[List.length_set];exact hl5
    have Hnm:Hid (p.1.nm.size<=maxLen):=by
     obtain⟨tv',bv',e0,-,e2⟩:=(hlow W6 hB6);obtain⟨a',c',e3,-,hpos⟩:=e2;obtain⟨bb,o,-,hS,-⟩:=hpos (by omega);have:=(hS.at hkl).batch;rw[← hpb] at this;exact this
    clear hnx hx hmg hpb hkk;gi_wp2_with fail
    refine⟨trivial,(callsIn_wide.2 (Alh tb k b.things ts p b.bs _ hT6 Hok.out.1.1 hpt hg0 Hfst.out Hok.out.2.2.2.2.2 hl5)).mono ?_⟩;rintro e W7 ⟨⟨v7,rfl⟩,hT7,hb7,hO7⟩;have hown7:=hO7 _ _ _ hown6 (by omega);have hB7:=hB6.trans (hb7.mono (by omega));have hz7:=hb7.size;clear hO7 hb7 hT6 hown6 hB6 hpt hg0 hl5;generalize ts.set k (p.1,true)=ts2 at *;obtain⟨rv,kT,hrw⟩:=hT7;have hi2:=(A2.1 hp2).1;obtain⟨g,cap,rfl⟩:=F4 hrw (by omega);obtain⟨r0,-,-,-⟩:=Ab6 hrw hp2;simp only at r0;obtain⟨t0,t1⟩:=kT.c2';have htl:=kT.2.2;generalize p.1.nm=nm at *;have hownA:=E1 hown7 ((A4 W7.heap.size W7).alloc (A3 _) (.cells #[.string nm] 9));have hrwA:=E1 hrw ((A4 W7.heap.size W7).alloc (A3 _) (.cells #[.string nm] 9));have kTA:=kT.up ((A4 W7.heap.size W7).alloc (A3 _) (.cells #[.string nm] 9)) htl;have hBA:=hB7.alloc (by omega) (.cells #[.string nm] 9);gi_wp2_with (gi_at_builtin;refine wpListIn_append_own _ rfl _ _ 22 rfl (tb+1) 9 ii _ 1 16 Tryz.underlying22 hi iz0 iz1 iz2 rfl (by decide) _ _ _ rfl hownA ⟨W7.heap.size,0,none⟩ 1 1 [.string nm] rfl rfl (Q8 _ _ _) (AaY _) (by unfold maxLen;omega) (by omega) (by simp;omega) ?_)
    intro v8 W8 hown8 hgr8 _;have hT8:Tab W8 tb b.things ts2:=⟨_,kTA.kept hgr8 (X8 hownA (by omega)),AgN hrwA hgr8 (Afx hrwA hownA (by decide))⟩;have hB8:Below (l+1) W1 W8:=⟨hgr8.os.trans hBA.os,hgr8.tape.trans hBA.tape,hgr8.output.trans hBA.output,B1 hBA.size hgr8.size,λi hi=>(hgr8.block i (by have:=hBA.size;omega) (X8 hownA (by omega))).trans (hBA.block i hi)⟩;have ho8:OwnT W8 (tb+1) v8 (gone++[nm]):=by unfold OwnT;rw[A9,List.map_append];exact hown8
    obtain⟨a8,c8,rfl⟩:∃a c,v8=.slice a (gone.length+1) c:=by simpa using ho8.lst.shape
    clear hownA hrwA kTA hBA hown8 hgr8 hown7 hrw kT t0 t1 r0 hB7;gi_wp2_with fail
    go_roundw
    case rel =>
     refine⟨gone++[nm],ts2,by simp;omega,by rw[A9];exact Hs.out,ho8,λs hs=>?_,hT8,Hf2.out,HG2.out,hB8⟩;rcases D1.1 hs with h|h
     ·exact Hsz.out s h
     ·obtain rfl:s=nm:=by simpa using h
      exact Hnm.out
    case measure=>simp[lenW];omega
   ·gi_wp2_with fail
    (try simp only[Exit.inBlock,Exit.then])
    refine bodyPost_ret (results_none rfl _ _ _) rfl ?_;exact⟨⟨_,rfl⟩,.inr ⟨hB6,gone.length,gone,by omega,Hgo.out,hnx⟩⟩
  ·gi_wp2_with fail
   go_end0
   exact⟨⟨_,rfl⟩,.inl ⟨gone,_,by rw[← h0];exact Hgo.out,Hsz.out,hF⟩⟩
attribute [local go_sem] Oper.semAt_some
theorem Aj4 (b:Bk) (a1 a2:Option Addr) (c1 c2:Nat) (w:World) :
  Calls Tryz.prog 189 #[.agg #[.slice a1 b.things.length c1,.slice a2 b.bs.length c2]] w λe w'=>e=.returned (.func (.func 212) #[] #[.pointer (some ⟨w.heap.size,0,none⟩)])/\w'=w.alloc (.cells #[.slice a1 (b).things.length c1,.slice a2 (b).bs.length c2] 33):=by
 go_enter Tryz.func189,Tryz.ntmps189
 go_wp2
 go_ret
 exact⟨rfl,rfl⟩
theorem CB.c1' {w:World} {b:Nat} {x0:Value} (h:CB w b [x0]):w.cell? ⟨b,0,none⟩=some x0/\w.frozen? ⟨b,0,none⟩=false:=⟨h.1 0 _ rfl,(h.2.1 0 (by simp)).2⟩
theorem Aeb {Z:World} {r:Nat} {x:Value} (h:Z.cell? ⟨r,0,none⟩=some x):(loadVar 22 ⟨r,0,none⟩).run Tryz.prog Z=.ok x Z:=by
 simp[loadVar,isAgg,h,go_sem]
theorem Aec {Z:World} {r:Nat} {x:Value} (h:Z.cell? ⟨r,0,none⟩=some x):(loadVar 4 ⟨r,0,none⟩).run Tryz.prog Z=.ok x Z:=by
 simp[loadVar,isAgg,h,go_sem]
theorem Ac5 {P:Program} {fn:Func} {q q2:Tmp} {T T2:TypeId} (h:fn.results=#[.cell q T,.cell q2 T2]) {tmps:Array Value} {Z:World} {r r2:Nat} {x y:Value}
  (ht:tmps.getD q undef=.pointer (some ⟨r,0,none⟩)) (ht2:tmps.getD q2 undef=.pointer (some ⟨r2,0,none⟩)) (hZ:(loadVar T ⟨r,0,none⟩).run P Z=.ok x Z) (hZ2:(loadVar T2 ⟨r2,0,none⟩).run P Z=.ok y Z):(results fn tmps).run P Z=.ok (.tuple #[x,y]) Z:=by
 have ha:(asAddr (.pointer (some ⟨r,0,none⟩))).run P Z=.ok ⟨r,0,none⟩ Z:=by simp[go_sem]
 have ha2:(asAddr (.pointer (some ⟨r2,0,none⟩))).run P Z=.ok ⟨r2,0,none⟩ Z:=by simp[go_sem]
 have ht':tmps[q]?.getD undef=.pointer (some ⟨r,0,none⟩):=by simpa using ht
 have ht2':tmps[q2]?.getD undef=.pointer (some ⟨r2,0,none⟩):=by simpa using ht2
 simp only[results,h];simp[Sem.run_bind,Result.andThen,ht',ht2',ha,ha2,hZ,hZ2]
theorem Aln (b:Bk) (v:Value) (w:World) (h:BkV w v b) :
  Calls Tryz.prog 177 #[v] w λe w'=>(∃u ss ok,e=.returned (.tuple #[u,.bool ok])/\OrderIs b ss ok/\OwnT w' w.heap.size u ss/\∀s∈ss,s.size<=maxLen)/\Below w.heap.size w w':=by
 obtain⟨a1,c1,a2,c2,rfl,-,-⟩:=h.parts;refine (callsIn_wide (n:=3)).1 ?_;refine callsIn_of_wp_marks Tryz.func177 rfl trivial ?_ rfl;simp only[Tryz.ntmps177,List.size_toArray,List.length_cons,List.length_nil,Nat.reduceAdd,Nat.reduceSub,Array.replicate_succ,Array.replicate_zero,List.push_toArray,List.append_toArray,List.nil_append,List.cons_append];obtain⟨W1,hW1,kA,k2,k3,hB1,hs1⟩:=AeP w [.slice a1 (b).things.length c1,.slice a2 (b).bs.length c2] 33 [.slice none 0 0] 22 [.bool false] 4;obtain⟨p0,p1⟩:=kA.c2';gi_wp2_with fail
 try rw[hW1]
 clear hW1;refine⟨trivial,(callsIn_wide.2 (Acf b _ _ (h.up hB1))).mono ?_⟩;rintro e w2 ⟨rfl,hb2⟩;clear p0 p1;have hz2:=hb2.size;have hB2:=D6 hB1 hb2;have kA:=kA.up hb2 kA.2.2;have k2:=k2.up hb2 k2.2.2;have k3:=k3.up hb2 k3.2.2;clear hb2 hB1;cases hq:bookB b
 ·have Hq:Hid (OrderIs b [] false):=.inr ⟨rfl,rfl,.inl (J4.1 hq)⟩
  obtain⟨x2,f2⟩:=k2.c1';obtain⟨x3,f3⟩:=k3.c1';have hne:¬w.heap.size+2=w.heap.size+1:=by omega
  gi_wp2_with fail
  refine⟨_,Ac5 (r:=w.heap.size+1) (r2:=w.heap.size+2) (x:=.slice none 0 0) (y:=.bool false) Tryz.results177 rfl rfl (Aeb ?_) (Aec ?_),?_⟩
  ·exact (((k2.set (j:=0) (u:=.slice none 0 0) (by simp)).other (by omega)).c1').1
  ·exact (((k3.other (q:=w.heap.size+1) (j:=0) (u:=.slice none 0 0) (by omega)).set (j:=0) (u:=.bool false) (by simp)).c1').1
  exact⟨⟨_,[],false,rfl,Hq.out,⟨by simp,.inl ⟨rfl,rfl⟩⟩,λs hs=>by simp at hs⟩,(hB2.setCell (p:=⟨w.heap.size+1,0,none⟩) (by simp) _).setCell (p:=⟨w.heap.size+2,0,none⟩) (by simp) _⟩
 ·have hok:BookOk b:=F8.1 hq
  clear hq;obtain⟨p0,p1⟩:=kA.c2';gi_wp2_with fail
  refine⟨trivial,(callsIn_wide.2 (Aj4 b _ _ _ _ _)).mono ?_⟩;rintro e W3 ⟨rfl,hW3⟩;obtain⟨kQ,hb3,hs3⟩:CB W3 w2.heap.size [.slice a1 b.things.length c1,.slice a2 b.bs.length c2]/\Below w2.heap.size w2 W3/\W3.heap.size=w2.heap.size+1:=by rw[hW3];exact cb1 w2 [.slice a1 b.things.length c1,.slice a2 b.bs.length c2] _
  clear hW3 p0 p1;have hB3:=D6 hB2 hb3;have kA:=kA.up hb3 kA.2.2;have k2:=k2.up hb3 k2.2.2;have k3:=k3.up hb3 k3.2.2;clear hb3 hB2;gi_wp2_with fail
  refine AhS rfl (by omega) (gf:=212) (lb:=#[.pointer (some ⟨w2.heap.size,0,none⟩)]) rfl trivial (enters_of Tryz.func212 (by kernel_rfl) rfl) ?_;intro fn lp _ hlp;obtain⟨W4,hW4⟩:∃W4,(W3.alloc (.deferred (some []))).alloc (.loop lp)=W4:=⟨_,rfl⟩;rw[hW4]
  have hL:W4.heap[W3.heap.size+1]?=some (.loop lp):=by
   rw[← hW4];have:=World.alloc_heap_new (W3.alloc (.deferred (some []))) (.loop lp);rwa [World.size_alloc] at this
  have hD:W4.heap[W3.heap.size]?=some (.deferred (some [])):=by
   rw[← hW4];exact (Below.heap_alloc _ _ _ (by simp)).trans (World.alloc_heap_new W3 _)
  have hb4:Below W3.heap.size W3 W4:=by rw[← hW4];exact ((A4 _ W3).alloc (A3 _) _).alloc (by simp) _
  have hs4:W4.heap.size=W3.heap.size+2:=by rw[← hW4];simp
  clear hW4;have hB4:=D6 hB3 hb4;have kA:=kA.up hb4 kA.2.2;have k2:=k2.up hb4 k2.2.2;have k3:=k3.up hb4 k3.2.2;have kQ:=kQ.up hb4 kQ.2.2;have hbk4:=h.up hB4;have hz4:=hB4.size;clear hb4 hB3;refine CallsIn.mono (AfN 1 W4 w2.heap.size (W3.heap.size+1) b _ _ lp (λW' gone u=>CB W' (w.heap.size+1) [u]/\CB W' (w.heap.size+2) [.bool true]/\W'.heap[W3.heap.size]?=some (.deferred (some []))/\W'.heap[W3.heap.size+1]?=some (.loop {lp with state:=.done,pending:=some .ret})/\OwnT W' (W3.heap.size+2) u gone/\Below w.heap.size w W') kQ hbk4 (λX hX=>h.up (hB4.trans (hX.mono (by omega)))) hok hL ?hY) ?_
  case hY =>
   intro gone u W hB hgo hown hsz;have hlW:=(hB.block (W3.heap.size+1) (by omega)).trans hL;have hdW:=(hB.block W3.heap.size (by omega)).trans hD;have kA:=kA.up hB (by omega);have k2:=k2.up hB (by omega);have k3:=k3.up hB (by omega);have hBW:=hB4.trans (hB.mono (by omega));have hback:({lp with state:=.ready,pending:=none}:Loop)=lp:=by rw[hlp];rfl
   have Hback:Hid (({lp with state:=.ready,pending:=none}:Loop)=lp):=hback;obtain⟨au,cu,rfl⟩:=hown.lst.shape;clear kQ hbk4 hL hD hB hB4 hback hz4;refine AhR hlW (congrArg Loop.state hlp) (congrArg Loop.assign hlp) (congrArg Loop.body hlp) (congrArg Loop.params hlp) (congrArg Loop.tmps hlp) rfl trivial ?_;dsimp only[recOf]
   clear hlp;have hlt:W3.heap.size+1<W.heap.size:=(D4.1 hlW).1;gi_wp2_with fail
   refine⟨hlW,?_⟩;have hg2:=grownBy_putObj' W (W3.heap.size+1) (.loop {lp with state:=.busy});have hl2:(W.putObj (W3.heap.size+1) (.loop {lp with state:=.busy})).heap[W3.heap.size+1]?=some (.loop {lp with state:=.busy}):=World.putObj_heap_same hlt;have kA:=kA.kept hg2 (by simp;omega);have k2:=k2.kept hg2 (by simp;omega);have k3:=k3.kept hg2 (by simp;omega);have hown:=E9 hown hg2 (by omega);have hdW:=(hg2.block W3.heap.size (by omega) (by simp)).trans hdW;have hBW:=S9 hBW hg2 (by omega);have Hg2:Hid (W.grownBy (W.putObj (W3.heap.size+1) (.loop {lp with state:=.busy})) (some (W3.heap.size+1))):=hg2;have hz2':=hg2.size;clear hg2 hlW;generalize W.putObj (W3.heap.size+1) (.loop {lp with state:=.busy})=X2 at *;obtain⟨p0,p1⟩:=kA.c2';by_cases h0:gone.length=b.bs.length
   ·have hlb:((gone.length:Int)==(b.bs.length:Int))=true:=by rw[beq_iff_eq];omega
    obtain⟨x2,f2⟩:=k2.c1';obtain⟨x3,f3⟩:=k3.c1';have hne:¬w.heap.size+2=w.heap.size+1:=by omega
    have hne2:¬w.heap.size+1=w.heap.size+2:=by omega
    have hn0:¬w.heap.size=w.heap.size+1:=by omega
    have hn1:¬w.heap.size=w.heap.size+2:=by omega
    have Hh0:Hid (gone.length=b.bs.length):=h0;clear h0;gi_wp2_with fail
    obtain⟨X3,hX3,hgX,y2,y3⟩:∃X3,(X2.setCell ⟨w.heap.size+1,0,none⟩ (.slice au gone.length cu)).setCell ⟨w.heap.size+2,0,none⟩ (.bool true)=X3/\(∀i,i≠w.heap.size+1->i≠w.heap.size+2->X3.heap[i]?=X2.heap[i]?)/\CB X3 (w.heap.size+1) [.slice au gone.length cu]/\CB X3 (w.heap.size+2) [.bool true] :=
     ⟨_,rfl,λi q1 q2=>(Below.heap_setCell _ _ _ _ q2).trans (Below.heap_setCell _ _ _ _ q1),(k2.set (j:=0) (by simp)).other (by omega),(k3.other (by omega)).set (j:=0) (by simp)⟩
    have hBX:Below w.heap.size w X3:=by rw[← hX3];exact (hBW.setCell (p:=⟨w.heap.size+1,0,none⟩) (by simp) _).setCell (p:=⟨w.heap.size+2,0,none⟩) (by simp) _
    have hoX:OwnT X3 (W3.heap.size+2) (.slice au gone.length cu) gone:=by
     rw[← hX3];exact E9 (E9 hown (E0 (off:=0) (E4 _ (some (w.heap.size+1))) _) (by omega)) (E0 (off:=0) (E4 _ (some (w.heap.size+2))) _) (by omega)
    have hlX:=(hgX (W3.heap.size+1) (by omega) (by omega)).trans hl2;have hdX:=(hgX W3.heap.size (by omega) (by omega)).trans hdW;try rw[hX3]
    clear hX3 x2 x3 f2 f3 p0 p1;refine⟨hlX,.inr ⟨Hh0.out,rfl,?_⟩⟩;have hlt3:W3.heap.size+1<X3.heap.size:=(D4.1 hlX).1;have hg4:=grownBy_putObj' X3 (W3.heap.size+1) (.loop {lp with state:=.done,pending:=some .ret});exact⟨y2.kept hg4 (by simp;omega),y3.kept hg4 (by simp;omega),(hg4.block W3.heap.size (by omega) (by simp)).trans hdX,World.putObj_heap_same hlt3,E9 hoX hg4 (by omega),S9 hBX hg4 (by omega)⟩
   ·have hlb:((gone.length:Int)==(b.bs.length:Int))=false:=by rw[beq_eq_false_iff_ne];omega
    gi_wp2_with fail
    have hlt3:W3.heap.size+1<X2.heap.size:=(D4.1 hl2).1;refine⟨hl2,.inl ⟨h0,rfl,?_⟩⟩;rw[Hback.out];exact⟨E3 Hg2.out (grownBy_putObj' _ _ _),World.putObj_heap_same hlt3⟩
  rintro e W ⟨⟨v,rfl⟩,⟨gone,u,hgo,hsz,y2,y3,hdW,hlW,hown,hBW⟩|⟨hB,n,gone,hn,hgo,hnx⟩⟩
  ·refine⟨⟨_,rfl⟩,.inl ⟨hlW,?_⟩⟩
   have HR:Hid (OrderIs b gone true):=.inl ⟨rfl,hok,hgo⟩;have hg4:=grownBy_putObj' W (W3.heap.size+1) (.loop {lp with state:=.exhausted,pending:=some .ret});have hlt3:W3.heap.size+1<W.heap.size:=(D4.1 hlW).1;have y2:=y2.kept hg4 (by simp;omega);have y3:=y3.kept hg4 (by simp;omega);have hdW:=(hg4.block W3.heap.size (by omega) (by simp)).trans hdW;have hown:=E9 hown hg4 (by omega);have hBW:=S9 hBW hg4 (by omega);clear hg4 hlW;generalize W.putObj (W3.heap.size+1) (.loop {lp with state:=.exhausted,pending:=some .ret})=V at *;have hgZ:=grownBy_putObj' V W3.heap.size (.deferred none);dsimp only
   gi_wp2_with fail
   refine⟨by simp,.inl ⟨_,_,rfl,run_takeDeferred hdW,?_⟩⟩;refine⟨_,Ac5 (r:=w.heap.size+1) (r2:=w.heap.size+2) (x:=u) (y:=.bool true) Tryz.results177 rfl rfl (Aeb (y2.kept hgZ (by simp;omega)).c1'.1) (Aec (y3.kept hgZ (by simp;omega)).c1'.1),?_⟩;exact⟨⟨u,gone,true,rfl,HR.out,G4 (E9 hown hgZ (by omega)) (by omega),hsz⟩,S9 hBW hgZ (by omega)⟩
  ·have hlW:=(hB.block (W3.heap.size+1) (by omega)).trans hL
   have hdW:=(hB.block W3.heap.size (by omega)).trans hD;refine⟨⟨_,rfl⟩,.inr ⟨hlW,?_⟩⟩;have HR:Hid (OrderIs b [] false):=.inr ⟨rfl,rfl,.inr ⟨n,gone,hn,hgo,hnx⟩⟩;have k2:=k2.up hB (by omega);have k3:=k3.up hB (by omega);have hBW:=hB4.trans (hB.mono (by omega));have hlt3:W3.heap.size+1<W.heap.size:=(D4.1 hlW).1;have hg4:=grownBy_putObj' W (W3.heap.size+1) (.loop {lp with state:=.exhausted,pending:=none});have k2:=k2.kept hg4 (by simp;omega);have k3:=k3.kept hg4 (by simp;omega);have hdW:=(hg4.block W3.heap.size (by omega) (by simp)).trans hdW;have hBW:=S9 hBW hg4 (by omega);have hzV:=hg4.size;clear hg4 hlW kA kQ hbk4 hL hD hB hgo hnx hn;generalize W.putObj (W3.heap.size+1) (.loop {lp with state:=.exhausted,pending:=none})=V at *;obtain⟨x2,f2⟩:=k2.c1';obtain⟨x3,f3⟩:=k3.c1';have hne:¬w.heap.size+2=w.heap.size+1:=by omega
   dsimp only
   gi_wp2_with fail
   have y2:CB ((V.setCell ⟨w.heap.size+1,0,none⟩ (.slice none 0 0)).setCell ⟨w.heap.size+2,0,none⟩ (.bool false)) (w.heap.size+1) [.slice none 0 0]:=(k2.set (j:=0) (by simp)).other (by omega);have y3:CB ((V.setCell ⟨w.heap.size+1,0,none⟩ (.slice none 0 0)).setCell ⟨w.heap.size+2,0,none⟩ (.bool false)) (w.heap.size+2) [.bool false]:=(k3.other (by omega)).set (j:=0) (by simp);have hdZ:((V.setCell ⟨w.heap.size+1,0,none⟩ (.slice none 0 0)).setCell ⟨w.heap.size+2,0,none⟩ (.bool false)).heap[W3.heap.size]?=some (.deferred (some [])):=(Below.heap_setCell _ _ _ _ (by simp;omega)).trans ((Below.heap_setCell _ _ _ _ (by simp;omega)).trans hdW);have hBZ:=(hBW.setCell (p:=⟨w.heap.size+1,0,none⟩) (by simp) (.slice none 0 0)).setCell (p:=⟨w.heap.size+2,0,none⟩) (by simp) (.bool false);have hgZ:=grownBy_putObj' ((V.setCell ⟨w.heap.size+1,0,none⟩ (.slice none 0 0)).setCell ⟨w.heap.size+2,0,none⟩ (.bool false)) W3.heap.size (.deferred none);refine⟨by simp,.inl ⟨_,_,rfl,run_takeDeferred hdZ,?_⟩⟩;refine⟨_,Ac5 (r:=w.heap.size+1) (r2:=w.heap.size+2) (x:=.slice none 0 0) (y:=.bool false) Tryz.results177 rfl rfl (Aeb (y2.kept hgZ (by simp;omega)).c1'.1) (Aec (y3.kept hgZ (by simp;omega)).c1'.1),?_⟩;exact⟨⟨_,[],false,rfl,HR.out,⟨by simp,.inl ⟨rfl,rfl⟩⟩,λs hs=>by simp at hs⟩,S9 hBZ hgZ (by omega)⟩
end Go.Proofs.YtebfdccbmmpceaaGreatDoor
namespace Go.Proofs.YtebfdccbmmpceaaGreatDoor
open Go.RowKit
theorem Aed (b:Bk) (v:Value) (w:World) (h:BkV w v b) :
  Calls Tryz.prog 156 #[v] w λe w'=>(∃ss ok,e=.returned (.bool ok)/\OrderIs b ss ok)/\Below w.heap.size w w':=by
 obtain⟨a1,c1,a2,c2,rfl,-,-⟩:=h.parts;obtain⟨W1,hW1,kA,hB1,hs1⟩:=K9 w [.slice a1 b.things.length c1,.slice a2 b.bs.length c2] 33;go_enter Tryz.func156,Tryz.ntmps156
 go_upto_region 1 with fail
 try rw[hW1]
 clear hW1;have hk:=h.up hB1;obtain⟨e0,e1⟩:=kA.c2';go_wp2_with fail
 refine (Aln b _ _ hk).mono ?_;rintro e w2 ⟨⟨u,ss,ok,rfl,ho,-,-⟩,hb2⟩;have hB2:=D6 hB1 hb2;clear e0 e1;go_wp2_with fail
 go_ret
 exact⟨⟨ss,ok,rfl,ho⟩,hB2⟩
theorem Aj5 (h:House) (tv bv xv dv:Value) (w:World) (H:HV w h tv bv xv dv) :
  Calls Tryz.prog 127 #[.agg #[.int .i64 h.now,.int .i64 h.last,tv,bv,xv,dv]] w λe w'=>e=.returned (.bool (pB (TimesOk h)))/\Below w.heap.size w w':=by
 obtain⟨a1,c1,a2,c2,a3,c3,a4,c4,rfl,rfl,rfl,rfl⟩:=H.shapes;have hB0:=(A4 w.heap.size w).alloc (A3 _) (.cells #[.int .i64 h.now,.int .i64 h.last,.slice a1 h.sh.things.length c1,.slice a2 h.sh.bs.length c2,.slice a3 h.bs.length c3,.slice a4 h.ds.length c4] 37);by_cases h1:0<=h.now
 case neg =>
  have HN:Hid (pB (TimesOk h)=false):=F3 λt=>h1 t.1;go_enter Tryz.func127,Tryz.ntmps127
  go_wp2
  go_ret
  exact⟨D7 HN.out.symm,hB0⟩
 by_cases h2:h.now<=100000
 case neg =>
  have HN:Hid (pB (TimesOk h)=false):=F3 λt=>h2 t.2.1;go_enter Tryz.func127,Tryz.ntmps127
  go_wp2
  go_ret
  exact⟨D7 HN.out.symm,hB0⟩
 by_cases h3:0<=h.last
 case neg =>
  have HN:Hid (pB (TimesOk h)=false):=F3 λt=>h3 t.2.2.1;go_enter Tryz.func127,Tryz.ntmps127
  go_wp2
  go_ret
  exact⟨D7 HN.out.symm,hB0⟩
 have HN:Hid (pB (TimesOk h)=decide (h.last<=1000000)):=by
  show _=_
  rw[Bool.eq_iff_iff,F8,decide_eq_true_iff];exact⟨λt=>t.2.2.2,λt=>⟨h1,h2,h3,t⟩⟩
 go_enter Tryz.func127,Tryz.ntmps127
 go_wp2
 go_ret
 exact⟨D7 (by rw[HN.out]),hB0⟩
theorem Aj6 (h:House) (tv bv xv dv:Value) (w:World) (H:HV w h tv bv xv dv) :
  Calls Tryz.prog 129 #[.agg #[.int .i64 h.now,.int .i64 h.last,tv,bv,xv,dv]] w λe w'=>e=.returned (.bool (pB (SafeP h.sh)))/\Below w.heap.size w w':=by
 have hk:=H.book;obtain⟨a1,c1,a2,c2,a3,c3,a4,c4,rfl,rfl,rfl,rfl⟩:=H.shapes;have hB0:=(A4 w.heap.size w).alloc (A3 _) (.cells #[.int .i64 h.now,.int .i64 h.last,.slice a1 h.sh.things.length c1,.slice a2 h.sh.bs.length c2,.slice a3 h.bs.length c3,.slice a4 h.ds.length c4] 37);have hC:CB (w.alloc (.cells #[.int .i64 h.now,.int .i64 h.last,.slice a1 h.sh.things.length c1,.slice a2 h.sh.bs.length c2,.slice a3 h.bs.length c3,.slice a4 h.ds.length c4] 37)) w.heap.size [.int .i64 h.now,.int .i64 h.last,.slice a1 h.sh.things.length c1,.slice a2 h.sh.bs.length c2,.slice a3 h.bs.length c3,.slice a4 h.ds.length c4]:=E7 w _ _;go_enter Tryz.func129,Tryz.ntmps129
 go_upto_region 1 with fail
 generalize w.alloc (.cells #[.int .i64 h.now,.int .i64 h.last,.slice a1 h.sh.things.length c1,.slice a2 h.sh.bs.length c2,.slice a3 h.bs.length c3,.slice a4 h.ds.length c4] 37)=W1 at *;obtain⟨d0,d1,d2,d3,d4,d5⟩:=hC.c6;go_wp2_with fail
 refine (Aed h.sh _ _ (hk.up hB0)).mono ?_;rintro e w2 ⟨⟨ss,ok,rfl,ho⟩,hB2⟩;have Ho:Hid (ok=pB (SafeP h.sh)):=AiI ho;clear d0 d1 d2 d3 d4 d5 ho;go_wp2_with fail
 go_ret
 exact⟨D7 Ho.out,D6 hB0 hB2⟩
theorem Aj7 (h:House) (tv bv xv dv:Value) (w:World) (H:HV w h tv bv xv dv) :
  Calls Tryz.prog 128 #[.agg #[.int .i64 h.now,.int .i64 h.last,tv,bv,xv,dv]] w λe w'=>e=.returned (.bool (pB (DonesOk h)))/\Below w.heap.size w w':=by
 obtain⟨-,-,-,a4',c4',e4',-,hpos⟩:=id H;obtain⟨a1,c1,a2,c2,a3,c3,a4,c4,rfl,rfl,rfl,rfl⟩:=H.shapes;simp only[Value.slice.injEq] at e4';obtain⟨rfl,-,rfl⟩:=e4';clear H;have hB0:=(A4 w.heap.size w).alloc (A3 _) (.cells #[.int .i64 h.now,.int .i64 h.last,.slice a1 h.sh.things.length c1,.slice a2 h.sh.bs.length c2,.slice a3 h.bs.length c3,.slice a4 h.ds.length c4] 37);have hC:CB (w.alloc (.cells #[.int .i64 h.now,.int .i64 h.last,.slice a1 h.sh.things.length c1,.slice a2 h.sh.bs.length c2,.slice a3 h.bs.length c3,.slice a4 h.ds.length c4] 37)) w.heap.size [.int .i64 h.now,.int .i64 h.last,.slice a1 h.sh.things.length c1,.slice a2 h.sh.bs.length c2,.slice a3 h.bs.length c3,.slice a4 h.ds.length c4]:=E7 w _ _;go_enter Tryz.func128,Tryz.ntmps128
 go_upto_region 1 with fail
 generalize w.alloc (.cells #[.int .i64 h.now,.int .i64 h.last,.slice a1 h.sh.things.length c1,.slice a2 h.sh.bs.length c2,.slice a3 h.bs.length c3,.slice a4 h.ds.length c4] 37)=W1 at *;have hlt:=hC.2.2;obtain⟨d0,d1,d2,d3,d4,d5⟩:=hC.c6;by_cases h20:20<h.ds.length
 ·have HN:Hid (pB (DonesOk h)=false):=F3 λt=>by have:=t.1;omega
  go_wp2_with fail
  go_ret
  exact⟨D7 HN.out.symm,hB0⟩
 go_wp2_with fail
 go_loopw [3,5,13] (λah _ i w'=>∃(k:Nat) (a:Int),k<=h.ds.length/\i=.int .i64 k/\ah=.int .i64 a/\(0<=a/\(k=0->a=0)/\(∀(j:Nat) (p:Done),j+1=k->h.ds[j]?=some p->a=p.t)/\DonesTo h.ds h.now k)/\Below W1.heap.size W1 w') (λ_ _ i _=>h.ds.length-(intOf i).toNat)
 case atStart=>exact⟨0,0,by omega,rfl,rfl,⟨by omega,λ_=>rfl,λj p hj=>by omega,λi d hi=>by omega⟩,A4 _ _⟩
 case round =>
  obtain⟨k,a,hk,rfl,rfl,hinv,hB⟩:=hrel;have HI:Hid (0<=a/\(k=0->a=0)/\(∀(j:Nat) (p:Done),j+1=k->h.ds[j]?=some p->a=p.t)/\DonesTo h.ds h.now k):=hinv;clear hinv d0 d1 d2 d3 d4 d5;by_cases hp:k<h.ds.length
  ·obtain⟨b,o,ha,hD,hb⟩:=hpos (by omega)
   subst ha;have hB01:=D6 hB0 hB;obtain⟨hrg,zn⟩:=hD.up hB01 hb k _ (A0 hp);have c0:=hrg 0 _ rfl;have c1':=hrg 1 _ rfl;have c2':=hrg 2 _ rfl;simp only[Nat.add_zero] at c0;obtain⟨d0,-⟩:=(hC.up hB hlt).c6;have NO:Hid (¬DoneOk h.ds h.now k h.ds[k]->pB (DonesOk h)=false):=λhn=>F3 λt=>hn (t.2 k _ hp (A0 hp));have YES:Hid (DoneOk h.ds h.now k h.ds[k]->DonesTo h.ds h.now (k+1)):=λhy=>Z7 (P:=DoneOk h.ds h.now) HI.out.2.2.2 hp hy
   have HT:Hid (∀(j:Nat) (p:Done),j+1=k+1->h.ds[j]?=some p->(h.ds[k]).t=p.t):=λj p hj hp'=>by
    obtain rfl:j=k:=by omega
    rw[A0 hp] at hp';obtain rfl:=A5 hp';rfl
   have HP:Hid (a<=(h.ds[k]).t->0<=(h.ds[k]).t/\∀(j:Nat) (p:Done),j+1=k->h.ds[j]?=some p->p.t<=(h.ds[k]).t):=λht=>by
    obtain⟨i0,i1,i2,-⟩:=HI.out;exact⟨by omega,λj p hj hp'=>by rw[← i2 j p hj hp'];exact ht⟩
   have HQ:Hid ((h.ds[k]).t<a->¬DoneOk h.ds h.now k h.ds[k]):=λht hd=>by
    obtain⟨i0,i1,i2,-⟩:=HI.out;obtain⟨-,-,-,k0,-,k2⟩:=hd;rcases C4 k with e|e
    ·have:=i1 e;omega
    ·obtain⟨j,rfl⟩:∃j,k=j+1:=⟨k-1,by omega⟩
     have hj:=A0 (l:=h.ds) (i:=j) (by omega);have:=k2 j _ rfl hj;have:=i2 j _ rfl hj;omega
   generalize h.ds[k]=x0 at *;have hB1:=hB.alloc hB.size (.cells #[.string (x0).nm,.int .i64 (x0).e,.int .i64 (x0).t] 90);have hX:CB (wr.alloc (.cells #[.string (x0).nm,.int .i64 (x0).e,.int .i64 (x0).t] 90)) wr.heap.size [.string x0.nm,.int .i64 x0.e,.int .i64 x0.t]:=E7 wr _ _;have d0':=((A4 wr.heap.size wr).alloc (A3 _) (.cells #[.string (x0).nm,.int .i64 (x0).e,.int .i64 (x0).t] 90)).cell (p:=⟨w.heap.size,0,none⟩) (A1 hlt hB.size) |>.trans d0
   go_upto_region 7 with fail
   generalize wr.alloc (.cells #[.string (x0).nm,.int .i64 (x0).e,.int .i64 (x0).t] 90)=W2 at *;obtain⟨⟨f0,f1,f2⟩,-⟩:=hX.c3;have hXlt:=hX.2.2;have hqlt:w.heap.size<W2.heap.size:=A1 hlt hB1.size;clear c0 c1' c2' d0 hrg;go_wp2_with fail
   refine (N7 _ _ zn).mono ?_;rintro e w3 ⟨rfl,hB3⟩;have g1:=(hB3.cell (p:=⟨wr.heap.size,1,none⟩) hXlt).trans f1;have g2:=(hB3.cell (p:=⟨wr.heap.size,2,none⟩) hXlt).trans f2;have g3:=(hB3.cell (p:=⟨w.heap.size,0,none⟩) hqlt).trans d0';have hB13:=D6 hB1 hB3;have hB03:=D6 hB0 hB13;clear f0 f1 f2 d0' hB3;cases q1:nameB x0.nm
   ·have HN:Hid (pB (DonesOk h)=false):=NO.out λt=>by rw[t.1] at q1;cases q1
    go_wp2_with fail
    go_ret
    exact⟨D7 HN.out.symm,hB03⟩
   by_cases q2:1<=x0.e
   case neg =>
    have HN:Hid (pB (DonesOk h)=false):=NO.out λt=>q2 t.2.1;go_wp2_with fail
    go_ret
    exact⟨D7 HN.out.symm,hB03⟩
   by_cases q3:x0.e<=3
   case neg =>
    have HN:Hid (pB (DonesOk h)=false):=NO.out λt=>q3 t.2.2.1;go_wp2_with fail
    go_ret
    exact⟨D7 HN.out.symm,hB03⟩
   by_cases q4:a<=x0.t
   case neg =>
    have HN:Hid (pB (DonesOk h)=false):=NO.out (HQ.out (by omega));go_wp2_with fail
    go_ret
    exact⟨D7 HN.out.symm,hB03⟩
   by_cases q5:x0.t<=h.now
   case neg =>
    have HN:Hid (pB (DonesOk h)=false):=NO.out λt=>q5 t.2.2.2.2.1;go_wp2_with fail
    go_ret
    exact⟨D7 HN.out.symm,hB03⟩
   have HY:Hid (0<=x0.t/\DonesTo h.ds h.now (k+1)):=⟨(HP.out q4).1,YES.out ⟨q1,q2,q3,(HP.out q4).1,q5,(HP.out q4).2⟩⟩;go_wp2_with fail
   go_roundw
   case rel=>exact⟨k+1,x0.t,by omega,by go_num,rfl,⟨HY.out.1,λe=>by omega,HT.out,HY.out.2⟩,hB13⟩
   case measure=>simp[intOf];omega
  ·have HY:Hid (pB (DonesOk h)=true):=I7 ⟨by omega,by
    have:=HI.out.2.2.2;rwa [show k=h.ds.length by omega] at this⟩
   go_wp2_with fail
   go_ret
   exact⟨D7 HY.out.symm,D6 hB0 hB⟩
def Done.cellsL (x:Done):List Value:=[.string x.nm,.int .i64 x.e,.int .i64 x.t]
theorem DnsAt.cells {w:World} {b o:Nat} {l:List Done} (h:DnsAt w b o l) (i:Nat) (hi:i<l.length):w.cell? ⟨b,o+i*3,none⟩=some (.string (l[i]).nm)/\w.cell? ⟨b,o+i*3+1,none⟩=some (.int .i64 (l[i]).e)/\w.cell? ⟨b,o+i*3+2,none⟩=some (.int .i64 (l[i]).t):=by
 have hr:=(h i l[i] (by simp)).1;exact⟨hr 0 _ rfl,hr 1 _ rfl,hr 2 _ rfl⟩
theorem Aj8 (x:Done) (l:Int) (w:World) (hl:0<=l) (hl':l<=1048576) (hs:x.nm.size<=maxLen) :
  Calls Tryz.prog 35 #[.agg #[.string x.nm,.int .i64 x.e,.int .i64 x.t],.int .i64 l] w λe' w'=>(∃y:Int,e'=.returned (.int .i64 y)/\y<=l/\-1<=y)/\Below w.heap.size w w':=by
 unfold maxLen at *;go_enter Tryz.func35,Tryz.ntmps35
 go_wp2
 all_goals
  go_ret
  exact⟨⟨_,rfl,by omega,by omega⟩,(A4 _ _).alloc (A3 _) _⟩
theorem AhU (ls:List Done) (v:Value) (l:Int) (w:World) (hl:0<=l) (hl':l<=1048576) (h:Dns w v ls) :
  Calls Tryz.prog 13 #[v,.int .i64 l] w
   λe' w'=>(∃x:Int,e'=.returned (.int .i64 x)/\(0<=x->(ls.length:Int)<=l)/\x<=1048576)/\Below w.heap.size w w':=by
 obtain⟨a,c,rfl,hn,hpos⟩:=h;unfold maxLen at hn;by_cases h0:l-ls.length<0
 ·go_enter Tryz.func13,Tryz.ntmps13
  go_wp2
  go_ret
  exact⟨⟨_,rfl,by omega,by omega⟩,A4 _ _⟩
 have H0:Hid ((ls.length:Int)<=l):=by show _<=_;omega
 go_enter Tryz.func13,Tryz.ntmps13
 go_wp2
 go_loopw [1,5] (λx i w'=>∃(k:Nat) (y:Int),k<=ls.length/\i=.int .i64 k/\x=.int .i64 y/\0<=y/\y<=1048576/\Below w.heap.size w w') (λ_ i _=>ls.length-(intOf i).toNat)
 case atStart=>exact⟨0,_,by omega,rfl,rfl,by omega,by omega,A4 _ _⟩
 case round =>
  obtain⟨k,y,hk,rfl,rfl,hy,hy',hB⟩:=hrel;by_cases hp:k<ls.length
  ·obtain⟨b,o,ha,hr,hb⟩:=hpos (by omega)
   subst ha;obtain⟨c0,c1,c2⟩:=hr.cells k hp;have z0:=(hr k _ (A0 hp)).2;obtain⟨hc,hf⟩:=E6 hB;generalize ls[k]=s0 at *;go_wp2_with fail
   refine (Aj8 s0 _ _ hy hy' z0).mono ?_;rintro e' w1 ⟨⟨x,rfl,hx1,-⟩,hb1⟩;have hB1:=D6 hB hb1;by_cases hx:x<0
   ·go_wp2_with fail
    go_ret
    exact⟨⟨_,rfl,by omega,by omega⟩,hB1⟩
   ·go_wp2_with fail
    go_roundw
    case rel=>exact⟨k+1,x,by omega,by go_num,rfl,by omega,by omega,hB1⟩
    case measure=>simp[intOf];omega
  ·go_wp2_with fail
   go_ret
   exact⟨⟨_,rfl,λ_=>H0.out,hy'⟩,hB⟩
theorem Aj9 (x:Done) (w:World):Calls Tryz.prog 51 #[.agg #[.string x.nm,.int .i64 x.e,.int .i64 x.t]] w λe' w'=>e'=.returned (.agg #[.string x.nm,.int .i64 x.e,.int .i64 x.t])/\Below w.heap.size w w':=by
 go_enter Tryz.func51,Tryz.ntmps51
 go_wp2
 go_returns
 exact⟨rfl,by go_grown⟩
theorem AjA (x:Done) (w:World):Calls Tryz.prog 62 #[.agg #[.string x.nm,.int .i64 x.e,.int .i64 x.t],.agg #[.string x.nm,.int .i64 x.e,.int .i64 x.t]] w λe w'=>e=.returned (.bool true)/\Below w.heap.size w w':=by
 go_enter Tryz.func62,Tryz.ntmps62
 go_wp2
 go_ret
 exact⟨rfl,by go_grown⟩
theorem AmE {W w0:World} {q r:Nat} {x0 x1 x2 x3 x4 x5 x6 x7 x8 x9 x10 x11:Value} (h:Below W.heap.size W w0/\w0.cell? ⟨q,0,none⟩=some x0/\w0.cell? ⟨q,1,none⟩=some x1/\w0.cell? ⟨q,2,none⟩=some x2/\w0.cell? ⟨q,3,none⟩=some x3/\w0.cell? ⟨q,4,none⟩=some x4/\w0.cell? ⟨q,5,none⟩=some x5/\w0.cell? ⟨r,0,none⟩=some x6/\w0.cell? ⟨r,1,none⟩=some x7/\w0.cell? ⟨r,2,none⟩=some x8/\w0.cell? ⟨r,3,none⟩=some x9/\w0.cell? ⟨r,4,none⟩=some x10/\w0.cell? ⟨r,5,none⟩=some x11):Below W.heap.size W w0.drew/\w0.drew.cell? ⟨q,0,none⟩=some x0/\w0.drew.cell? ⟨q,1,none⟩=some x1/\w0.drew.cell? ⟨q,2,none⟩=some x2/\w0.drew.cell? ⟨q,3,none⟩=some x3/\w0.drew.cell? ⟨q,4,none⟩=some x4/\w0.drew.cell? ⟨q,5,none⟩=some x5/\w0.drew.cell? ⟨r,0,none⟩=some x6/\w0.drew.cell? ⟨r,1,none⟩=some x7/\w0.drew.cell? ⟨r,2,none⟩=some x8/\w0.drew.cell? ⟨r,3,none⟩=some x9/\w0.drew.cell? ⟨r,4,none⟩=some x10/\w0.drew.cell? ⟨r,5,none⟩=some x11 :=
 ⟨h.1.drew,h.2⟩
theorem k12_up {W w0 w1:World} {q r:Nat} {x0 x1 x2 x3 x4 x5 x6 x7 x8 x9 x10 x11:Value} (hq:q<W.heap.size) (hr:r<W.heap.size) (h:Below W.heap.size W w0/\w0.cell? ⟨q,0,none⟩=some x0/\w0.cell? ⟨q,1,none⟩=some x1/\w0.cell? ⟨q,2,none⟩=some x2/\w0.cell? ⟨q,3,none⟩=some x3/\w0.cell? ⟨q,4,none⟩=some x4/\w0.cell? ⟨q,5,none⟩=some x5/\w0.cell? ⟨r,0,none⟩=some x6/\w0.cell? ⟨r,1,none⟩=some x7/\w0.cell? ⟨r,2,none⟩=some x8/\w0.cell? ⟨r,3,none⟩=some x9/\w0.cell? ⟨r,4,none⟩=some x10/\w0.cell? ⟨r,5,none⟩=some x11) (hB:Below w0.heap.size w0 w1):Below W.heap.size W w1/\w1.cell? ⟨q,0,none⟩=some x0/\w1.cell? ⟨q,1,none⟩=some x1/\w1.cell? ⟨q,2,none⟩=some x2/\w1.cell? ⟨q,3,none⟩=some x3/\w1.cell? ⟨q,4,none⟩=some x4/\w1.cell? ⟨q,5,none⟩=some x5/\w1.cell? ⟨r,0,none⟩=some x6/\w1.cell? ⟨r,1,none⟩=some x7/\w1.cell? ⟨r,2,none⟩=some x8/\w1.cell? ⟨r,3,none⟩=some x9/\w1.cell? ⟨r,4,none⟩=some x10/\w1.cell? ⟨r,5,none⟩=some x11:=by
 obtain⟨h0,a0,a1,a2,a3,a4,a5,a6,a7,a8,a9,a10,a11⟩:=h;have lq:q<w0.heap.size:=A1 hq h0.size;have lr:r<w0.heap.size:=A1 hr h0.size;exact⟨D6 h0 hB,(hB.cell (p:=⟨q,0,none⟩) lq).trans a0,(hB.cell (p:=⟨q,1,none⟩) lq).trans a1,(hB.cell (p:=⟨q,2,none⟩) lq).trans a2,(hB.cell (p:=⟨q,3,none⟩) lq).trans a3,(hB.cell (p:=⟨q,4,none⟩) lq).trans a4,(hB.cell (p:=⟨q,5,none⟩) lq).trans a5,(hB.cell (p:=⟨r,0,none⟩) lr).trans a6,(hB.cell (p:=⟨r,1,none⟩) lr).trans a7,(hB.cell (p:=⟨r,2,none⟩) lr).trans a8,(hB.cell (p:=⟨r,3,none⟩) lr).trans a9,(hB.cell (p:=⟨r,4,none⟩) lr).trans a10,(hB.cell (p:=⟨r,5,none⟩) lr).trans a11⟩
theorem Alo:(Tryz.prog.info? 52).map (·.size)=some 6:=by kernel_rfl
structure RbSrc (w:World) (x:Rb) (rv sv:Value):Prop where
 r:Src w rv x.ps
 s:SlSrc w sv x.sl
 zp:Sized x.ps
 zs:SlZ x.sl
 zn:x.nm.size<=maxLen
 za:x.ad.size<=maxLen
theorem RbSrc.up {w w':World} {x:Rb} {rv sv:Value} (h:RbSrc w x rv sv) (hb:Below w.heap.size w w'):RbSrc w' x rv sv:=⟨h.r.up hb,h.s.up hb,h.zp,h.zs,h.zn,h.za⟩
structure RbO (w:World) (base:Nat) (x:Rb) (b1 b2:Nat):Prop where
 r:Own w b1 x.ps
 s:OwnSl w b2 x.sl
 l1:base<=b1
 l2:b1<b2
theorem RbO.up {w w':World} {base:Nat} {x:Rb} {b1 b2:Nat} (h:RbO w base x b1 b2) (hb:Below w.heap.size w w'):RbO w' base x b1 b2:=⟨h.r.up hb,h.s.up hb,h.l1,h.l2⟩
theorem RbO.low {w:World} {base base':Nat} {x:Rb} {b1 b2:Nat} (h:RbO w base x b1 b2) (hb:base'<=base):RbO w base' x b1 b2:=⟨h.r,h.s,B1 hb h.l1,h.l2⟩
theorem RbO.v {w:World} {base:Nat} {x:Rb} {b1 b2:Nat} (h:RbO w base x b1 b2) {rv sv:Value} {W:World} (hx:RbSrc W x rv sv) (np:x.ps.length<=1048576) (ns:x.sl.length<=1048576):RbV w x (.slice (some ⟨b1,0,none⟩) x.ps.length x.ps.length) (.slice (some ⟨b2,0,none⟩) x.sl.length x.sl.length) :=
 ⟨⟨b1,0,_,rfl,h.r.1,h.r.2.2,A3 _,by omega⟩,⟨b2,0,_,rfl,h.s.1,h.s.2.2⟩,hx.zp,hx.zs,hx.zn,np,ns⟩
theorem Own.other {w:World} {b r j:Nat} {u:Value} {ps:List Ph} (h:Own w b ps) (hne:b≠r):Own (w.setCell ⟨r,j,none⟩ u) b ps:=by
 have hk:(w.setCell ⟨r,j,none⟩ u).heap[b]?=w.heap[b]?:=Below.heap_setCell _ _ _ _ (λe=>hne e);refine⟨λi p hp k v hv=>?_,λk hk'=>?_,by simpa using h.2.2⟩
 ·rw[C3 (w:=w) (a:=⟨b,0+i*8+k,none⟩) hk];exact h.1 i p hp k v hv
 ·rw[C3 (w:=w) (a:=⟨b,0+k,none⟩) hk,World.frozen?_of_block (w:=w) (a:=⟨b,0+k,none⟩) hk];exact h.2.1 k hk'
theorem OwnSl.other {w:World} {b r j:Nat} {u:Value} {l:List Sl} (h:OwnSl w b l) (hne:b≠r):OwnSl (w.setCell ⟨r,j,none⟩ u) b l:=by
 have hk:(w.setCell ⟨r,j,none⟩ u).heap[b]?=w.heap[b]?:=Below.heap_setCell _ _ _ _ (λe=>hne e);refine⟨λi p hp k v hv=>?_,λk hk'=>?_,by simpa using h.2.2⟩
 ·rw[C3 (w:=w) (a:=⟨b,0+i*2+k,none⟩) hk];exact h.1 i p hp k v hv
 ·rw[C3 (w:=w) (a:=⟨b,0+k,none⟩) hk,World.frozen?_of_block (w:=w) (a:=⟨b,0+k,none⟩) hk];exact h.2.1 k hk'
theorem RbO.set {w:World} {base r j b1 b2:Nat} {u:Value} {x:Rb} (h:RbO w base x b1 b2) (hr:r<base):RbO (w.setCell ⟨r,j,none⟩ u) base x b1 b2 :=
 ⟨h.r.other (by have:=h.l1;omega),h.s.other (by have:=h.l1;have:=h.l2;omega),h.l1,h.l2⟩
theorem AmF (x:Rb) (rv sv:Value) (w:World) (h:RbSrc w x rv sv) (l:Int) (hl:0<=l) (hl':l<=1048576) :
  Calls Tryz.prog 34 #[.agg #[.string x.nm,rv,sv,.string x.ad,.int .i64 x.si,.int .i64 x.st],.int .i64 l] w λe' w'=>(∃y:Int,e'=.returned (.int .i64 y)/\(0<=y->x.ps.length<=1048576/\x.sl.length<=1048576/\x.nm.size<=1048576)/\y<=1048576)/\Below w.heap.size w w':=by
 obtain⟨a1,c1,hrv⟩:=h.r.shape;obtain⟨a2,c2,hsv⟩:=h.s.shape;subst hrv hsv;have zn:=h.zn;have za:=h.za;unfold maxLen at zn za;have hC:CB (w.alloc (.cells #[.string x.nm,.slice a1 x.ps.length c1,.slice a2 x.sl.length c2,.string x.ad,.int .i64 x.si,.int .i64 x.st] 70)) w.heap.size [.string x.nm,.slice a1 x.ps.length c1,.slice a2 x.sl.length c2,.string x.ad,.int .i64 x.si,.int .i64 x.st]:=E7 w _ _;have hB0:=(A4 w.heap.size w).alloc (A3 _) (.cells #[.string x.nm,.slice a1 x.ps.length c1,.slice a2 x.sl.length c2,.string x.ad,.int .i64 x.si,.int .i64 x.st] 70);go_enter Tryz.func34,Tryz.ntmps34
 go_upto_region 1 with fail
 generalize w.alloc (.cells #[.string x.nm,.slice a1 x.ps.length c1,.slice a2 x.sl.length c2,.string x.ad,.int .i64 x.si,.int .i64 x.st] 70)=W1 at *;have hlt:=hC.2.2;obtain⟨d0,d1,d2,d3,d4,d5⟩:=hC.c6;by_cases h1:l-x.nm.size<0
 ·go_wp2_with fail
  go_ret
  exact⟨⟨_,rfl,by omega,by omega⟩,hB0⟩
 go_wp2_with fail
 refine (Am1 x.ps _ _ _ (by omega) (by omega) (h.r.up hB0) h.zp).mono ?_;rintro e w2 ⟨⟨y2,rfl,hy2,hy2'⟩,hB2⟩;by_cases h2:y2<0
 ·go_wp2_with fail
  go_ret
  exact⟨⟨_,rfl,by omega,by omega⟩,D6 hB0 hB2⟩
 have hn2:=hy2 (by omega);obtain⟨e0,e1,e2,e3,e4,e5⟩:=(hC.up hB2 hlt).c6;clear d0 d1 d2 d3 d4 d5 hy2;have hB02:=D6 hB0 hB2;go_wp2_with fail
 refine (AhG x.sl _ _ _ (by omega) (by omega) (h.s.up hB02) h.zs).mono ?_;rintro e w3 ⟨⟨y3,rfl,hy3,hy3'⟩,hB3⟩;have hB03:=D6 hB02 hB3;by_cases h3:y3<0
 ·go_wp2_with fail
  go_ret
  exact⟨⟨_,rfl,by omega,by omega⟩,hB03⟩
 have hn3:=hy3 (by omega);obtain⟨f0,f1,f2,f3,f4,f5⟩:=(hC.up (D6 hB2 hB3) hlt).c6;clear e0 e1 e2 e3 e4 e5 hy3;by_cases h4:y3-x.ad.size<0
 ·go_wp2_with fail
  go_ret
  exact⟨⟨_,rfl,by omega,by omega⟩,hB03⟩
 go_wp2_with fail
 go_ret
 exact⟨⟨_,rfl,by omega,by omega⟩,hB03⟩
theorem AmG (x:Rb) (rv sv:Value) (w:World) (h:RbSrc w x rv sv) (np:x.ps.length<=1048576) (ns:x.sl.length<=1048576) :
  Calls Tryz.prog 50 #[.agg #[.string x.nm,rv,sv,.string x.ad,.int .i64 x.si,.int .i64 x.st]] w λe w'=>(∃b1 b2,e=.returned (.agg #[.string x.nm,.slice (some ⟨b1,0,none⟩) x.ps.length x.ps.length,.slice (some ⟨b2,0,none⟩) x.sl.length x.sl.length,.string x.ad,.int .i64 x.si,.int .i64 x.st])/\RbO w' w.heap.size x b1 b2)/\Below w.heap.size w w':=by
 obtain⟨a1,c1,hrv⟩:=h.r.shape;obtain⟨a2,c2,hsv⟩:=h.s.shape;subst hrv hsv;go_enter Tryz.func50,Tryz.ntmps50
 go_upto_region 2 with fail
 obtain⟨W1,hW1,kP,kR,kO,hB1,hs1⟩:=AeP w [.string x.nm,.slice a1 x.ps.length c1,.slice a2 x.sl.length c2,.string x.ad,.int .i64 x.si,.int .i64 x.st] 70 [.string ⟨#[]⟩,.slice none 0 0,.slice none 0 0,.string ⟨#[]⟩,.int .i64 0,.int .i64 0] 52 [.string ⟨#[]⟩,.slice none 0 0,.slice none 0 0,.string ⟨#[]⟩,.int .i64 0,.int .i64 0] 52;rw[hW1];clear hW1;obtain⟨W2,hW2,kP2,kR2,kO2,hB2,hs2⟩:∃W2,W1.setCell ⟨w.heap.size+2,0,none⟩ (.string x.nm)=W2/\CB W2 w.heap.size [.string x.nm,.slice a1 x.ps.length c1,.slice a2 x.sl.length c2,.string x.ad,.int .i64 x.si,.int .i64 x.st]/\CB W2 (w.heap.size+1) [.string ⟨#[]⟩,.slice none 0 0,.slice none 0 0,.string ⟨#[]⟩,.int .i64 0,.int .i64 0]/\CB W2 (w.heap.size+2) [.string x.nm,.slice none 0 0,.slice none 0 0,.string ⟨#[]⟩,.int .i64 0,.int .i64 0]/\Below w.heap.size w W2/\W2.heap.size=w.heap.size+3:=⟨_,rfl,kP.other (by omega),kR.other (by omega),kO.set (j:=0) (by simp),hB1.setCell (p:=⟨w.heap.size+2,0,none⟩) (by simp) _,by simpa using hs1⟩;obtain⟨p0,p1,p2,p3,p4,p5⟩:=kP.c6;obtain⟨o0,o1,o2,o3,o4,o5⟩:=kO.c6;obtain⟨f0,f1,f2,f3,f4,f5⟩:=kO.f6;go_upto_region 3 with fail
 try rw[hW2]
 clear hW2 p0 p1 p2 p3 p4 p5 o0 o1 o2 o3 o4 o5 f0 f1 f2 f3 f4 f5 kP kR kO hB1 hs1;obtain⟨p0,p1,p2,p3,p4,p5⟩:=kP2.c6;go_wp2_with fail
 refine (AnK x.ps _ _ (h.r.up hB2) np).mono ?_;rintro e w3 ⟨⟨b1,rfl,ho1,hb1⟩,hb3⟩;rw[hs2] at hb1;have hz3:=hb3.size;have kP3:=kP2.up hb3 (by omega);have kR3:=kR2.up hb3 (by omega);have kO3:=kO2.up hb3 (by omega);have hB3:=D6 hB2 hb3;clear p0 p1 p2 p3 p4 p5 kP2 kR2 kO2 hB2 hb3
 obtain⟨W4,hW4,kP4,kR4,kO4,ho4,hB4,hs4⟩:∃W4,w3.setCell ⟨w.heap.size+2,1,none⟩ (.slice (some ⟨b1,0,none⟩) x.ps.length x.ps.length)=W4/\CB W4 w.heap.size [.string x.nm,.slice a1 x.ps.length c1,.slice a2 x.sl.length c2,.string x.ad,.int .i64 x.si,.int .i64 x.st]/\CB W4 (w.heap.size+1) [.string ⟨#[]⟩,.slice none 0 0,.slice none 0 0,.string ⟨#[]⟩,.int .i64 0,.int .i64 0]/\CB W4 (w.heap.size+2) [.string x.nm,.slice (some ⟨b1,0,none⟩) x.ps.length x.ps.length,.slice none 0 0,.string ⟨#[]⟩,.int .i64 0,.int .i64 0]/\Own W4 b1 x.ps/\Below w.heap.size w W4/\W4.heap.size=w3.heap.size :=
  ⟨_,rfl,kP3.other (by omega),kR3.other (by omega),kO3.set (j:=1) (by simp),ho1.other (by omega),hB3.setCell (p:=⟨w.heap.size+2,1,none⟩) (by simp) _,by simp⟩
 obtain⟨o0,o1,o2,o3,o4,o5⟩:=kO3.c6;obtain⟨f0,f1,f2,f3,f4,f5⟩:=kO3.f6;go_upto_region 4 with fail
 try rw[hW4]
 clear hW4 o0 o1 o2 o3 o4 o5 f0 f1 f2 f3 f4 f5 kP3 kR3 kO3 hB3;have hlt4:=ho4.2.2;clear ho1;obtain⟨p0,p1,p2,p3,p4,p5⟩:=kP4.c6;go_wp2_with fail
 refine (AhJ x.sl _ _ (h.s.up hB4) ns).mono ?_;rintro e w5 ⟨⟨b2,rfl,ho2,hb2⟩,hb5⟩;have hz5:=hb5.size;have kP5:=kP4.up hb5 (by omega);have kR5:=kR4.up hb5 (by omega);have kO5:=kO4.up hb5 (by omega);have hO5:RbO w5 (w.heap.size+3) x b1 b2:=⟨ho4.up hb5,ho2,hb1,A1 hlt4 hb2⟩;have hB5:=D6 hB4 hb5;clear p0 p1 p2 p3 p4 p5 kP4 kR4 kO4 hB4 hb5 ho4 ho2;obtain⟨p0,p1,p2,p3,p4,p5⟩:=kP5.c6;obtain⟨o0,o1,o2,o3,o4,o5⟩:=kO5.c6;obtain⟨f0,f1,f2,f3,f4,f5⟩:=kO5.f6;obtain⟨r0,r1,r2,r3,r4,r5⟩:=kR5.c6;obtain⟨g0,g1,g2,g3,g4,g5⟩:=kR5.f6;have hR6:=(((kR5.other (q:=w.heap.size+2) (j:=2) (u:=.slice (some ⟨b2,0,none⟩) x.sl.length x.sl.length) (by omega)).other (q:=w.heap.size+2) (j:=3) (u:=.string x.ad) (by omega)).other (q:=w.heap.size+2) (j:=4) (u:=.int .i64 x.si) (by omega)).other (q:=w.heap.size+2) (j:=5) (u:=.int .i64 x.st) (by omega);go_wp2_with fail
 refine R4 Tryz.results50 Tryz.underlying52 rfl Alo hR6 rfl ?_;refine⟨⟨b1,b2,rfl,?_⟩,?_⟩
 ·exact ((((((((((hO5.set (by omega)).set (by omega)).set (by omega)).set (by omega)).set (by omega)).set (by omega)).set (by omega)).set (by omega)).set (by omega)).set (by omega)).low (by omega)
 ·exact (((((((((hB5.setCell (p:=⟨w.heap.size+2,2,none⟩) (by simp) _).setCell (p:=⟨w.heap.size+2,3,none⟩) (by simp) _).setCell (p:=⟨w.heap.size+2,4,none⟩) (by simp) _).setCell (p:=⟨w.heap.size+2,5,none⟩) (by simp) _).setCell (p:=⟨w.heap.size+1,0,none⟩) (by simp) _).setCell (p:=⟨w.heap.size+1,1,none⟩) (by simp) _).setCell (p:=⟨w.heap.size+1,2,none⟩) (by simp) _).setCell (p:=⟨w.heap.size+1,3,none⟩) (by simp) _).setCell (p:=⟨w.heap.size+1,4,none⟩) (by simp) _).setCell (p:=⟨w.heap.size+1,5,none⟩) (by simp) _
theorem AmH (x:Rb) (p1 p2 q1 q2 base base':Nat) (w:World) (h:RbO w base x p1 p2) (h':RbO w base' x q1 q2) (np:x.ps.length<=1048576) (ns:x.sl.length<=1048576) :
  Calls Tryz.prog 61 #[.agg #[.string x.nm,.slice (some ⟨p1,0,none⟩) x.ps.length x.ps.length,.slice (some ⟨p2,0,none⟩) x.sl.length x.sl.length,.string x.ad,.int .i64 x.si,.int .i64 x.st],.agg #[.string x.nm,.slice (some ⟨q1,0,none⟩) x.ps.length x.ps.length,.slice (some ⟨q2,0,none⟩) x.sl.length x.sl.length,.string x.ad,.int .i64 x.si,.int .i64 x.st]] w λe w'=>e=.returned (.bool true)/\Below w.heap.size w w':=by
 go_enter Tryz.func61,Tryz.ntmps61
 go_upto_region 1 with fail
 obtain⟨W1,hW1,kP,kR,hB1,hs1⟩:=L1 w [.string x.nm,.slice (some ⟨p1,0,none⟩) x.ps.length x.ps.length,.slice (some ⟨p2,0,none⟩) x.sl.length x.sl.length,.string x.ad,.int .i64 x.si,.int .i64 x.st] 52 [.string x.nm,.slice (some ⟨q1,0,none⟩) x.ps.length x.ps.length,.slice (some ⟨q2,0,none⟩) x.sl.length x.sl.length,.string x.ad,.int .i64 x.si,.int .i64 x.st] 52;rw[hW1];clear hW1;obtain⟨d0,d1,d2,d3,d4,d5⟩:=kP.c6;obtain⟨e0,e1,e2,e3,e4,e5⟩:=kR.c6;have o1:=h.r.up hB1;have o2:=h'.r.up hB1;go_wp2_with fail
 refine (AnJ x.ps p1 q1 _ _ _ o1.1 o1.2.2 o2.1 o2.2.2 np).mono ?_;rintro e w2 ⟨rfl,hB2⟩;have hB12:=D6 hB1 hB2;clear d0 d1 d2 d3 d4 d5 e0 e1 e2 e3 e4 e5;obtain⟨d0,d1,d2,d3,d4,d5⟩:=(kP.up hB2 (by omega)).c6;obtain⟨e0,e1,e2,e3,e4,e5⟩:=(kR.up hB2 (by omega)).c6;have s1:=h.s.up hB12;have s2:=h'.s.up hB12;go_wp2_with fail
 refine (AhK x.sl p2 q2 _ _ _ s1.1 s1.2.2 s2.1 s2.2.2 ns).mono ?_;rintro e w3 ⟨rfl,hB3⟩;have hB13:=D6 hB12 hB3;clear d0 d1 d2 d3 d4 d5 e0 e1 e2 e3 e4 e5;obtain⟨d0,d1,d2,d3,d4,d5⟩:=(kP.up (D6 hB2 hB3) (by omega)).c6;obtain⟨e0,e1,e2,e3,e4,e5⟩:=(kR.up (D6 hB2 hB3) (by omega)).c6;go_wp2_with fail
 go_ret
 exact⟨rfl,hB13⟩
end Go.Proofs.YtebfdccbmmpceaaGreatDoor
