/- A worker's own frame in company, 7: the send, and out by Done. -/
import Derived.Test.YtaffjphkobhagaaGreatDoorJ29
import Derived.Test.YtaffjphkobhagaaGreatDoorRf2
import Derived.Test.YtaffjphkobhagaaGreatDoorWfInt
import Derived.Test.YtaffjphkobhagaaGreatDoorJ19
import Derived.Test.YtaffjphkobhagaaGreatDoorWr3
set_option maxHeartbeats 2000000
namespace Go.Proofs.YtaffjphkobhagaaGreatDoor
open Proofs.Tryz
variable{a:Addr}{es es':Array Event}{c caps:Array Value}{bs:List Ba}{gone:List BA}{done l:List Nat}{ts:List Tr}{bc vs:List Value}{B Low b j n:Nat}{ob:Obj}{z:Oper}{x y:Operand}{e t t0:TypeId}{v:Value}{w':World}
namespace Bd
open Go.Conc Go.ConcN Go.RowKit Go.Conc.Lib Go.ConcR.Gen Go.ConcN.Gen
open Go.ConcR (KK wgBlock WgAt stA smA rd wr mk Payload DC0)
noncomputable def CG:Frame:={(default:Frame) with fn:=prog.funcs.size,defers:=[],mode:=.panicking [goexitEntry]}
def wd(p:F5):Deferred:=dcall 54 #[.pointer (some ⟨p.Wg,0,none⟩)]
theorem Ahi(d:Deferred)(T:Array Value)(k:List Item):wf d T k=(baseD 53).at ⟨T,[d]⟩ k:=rfl
theorem AfP(T:Array Value):QuitsD prog 2 0 (G {(baseD 53).at ⟨T,[]⟩ [] with mode:=.returning} [CG]):=by
 refine QuitsD.ctl (g':=G CG []) rfl (λw=>?_) ?_
 .simp[G,stepG,unwind,doReturn,results,Frame.at,baseD,CG,func53,Tryz.f53,seen,GStep.after,goexitEntry]
 refine QuitsD.ctl (g':={G CG [] with status:=.finished}) rfl (λw=>?_) ⟨rfl,rfl⟩;simp[G,stepG,unwind,CG,goexitEntry,Frame.catches];rfl
section
variable {p:F5} {q:BM} {M:Nat->Prop} {T:Array Value} {w:World}
theorem Oo(w:World):DK p M w w #[]:=⟨.refl w,dC⟩
structure TK (p:F5) (q:BM) (w:World):Prop where
 live:WgLive p.ty p.Wg w
 box:w.heap[q.C]?=some (.cells #[.int .i64 q.n] 3)
theorem TK.rely{w₁:World}(h:TK p q w)(hC:M q.C)(r:RK p M w w₁):TK p q w₁:=⟨r.live h.live,(r.own q.C hC).trans h.box⟩
theorem AfQ(hp:p.P=prog)(hty:p.ty=97)(hC:M q.C)(T:Array Value)(w:World)(hF:TK p q w):
  Goes p.P false (RK p M) (DK p M) (AtR0 p.P p.ty p.Wg q.C 1 0 1 (Iz q.n)) 24 (G {(baseD 53).at ⟨T,[wd p]⟩ [] with mode:=.returning} [CG]) w:=by
 have hd:=AgW (L:=Ng) (p:=p) (by rw[hp];exact wgl) hty (v:=.int .i64 q.n) hC (c:={(baseD 53).at ⟨T,[]⟩ [] with mode:=.returning}) (cs:=[CG]) (qt:=2) rfl (by rw[hp];exact AfP T);refine Goes.step rfl λw₁ qb=>?_;have hF:=hF.rely hC qb;rw[hp,wd,stepG_unwind_enter rfl func54 (nm_done Ng) rfl];simp only[goes_go];refine⟨Oo _,?_⟩;have h1:=hd _ hF.live hF.box;rw[hp] at h1;exact h1
theorem Aif(hp:p.P=prog)(hty:p.ty=97)(hC:M q.C)(T:Array Value)(w:World)(hF:TK p q w):
  Goes p.P false (RK p M) (DK p M) (AtR0 p.P p.ty p.Wg q.C 1 0 1 (Iz q.n)) 26 (G (wf (wd p) T [.inRegion I4 []]) [CG]) w:=by
 refine Goes.step rfl λw₁ qb=>?_;have hF:=hF.rely hC qb;have e1:stepG p.P false (G (wf (wd p) T [.inRegion I4 []]) [CG]) w₁=.go (G (wf (wd p) T []) [CG]) w₁ #[]:=by simp[stepG,stepG.exec,G,wf]
 rw[e1];simp only[goes_go];refine⟨Oo _,Goes.step rfl λqc qh=>?_⟩;have hF:=hF.rely hC qh
 have e2:stepG p.P false (G (wf (wd p) T []) [CG]) qc=.go (G {(baseD 53).at ⟨T,[wd p]⟩ [] with mode:=.returning} [CG]) qc #[]:=by
  rw[Ahi];simp[stepG,stepG.exec,G,Frame.at,baseD]
 rw[e2];simp only[goes_go];exact⟨Oo _,AfQ hp hty hC T qc hF⟩
theorem Aev(hq:W8 p q)(hty:p.ty=97)(hval:p.val j=.agg #[Iz q.n,Tz q.line])(hall:∀i,i<9->i∈done)(hJ:J p q done M T w):Is p j q.C (Iz q.n) M (G (wf (wd p) T [.inRegion I4 [9]]) [CG]) w:=by
 obtain⟨h1,h2,h3,h4,_,_⟩:=Adj;have e5:T[5]?=some (.chan (some p.Ch)):=hJ.vals 0 (hall 0 oM) _ rfl;have a1:T[13]?=some (.agg #[Iz q.n,Tz q.line]):=hJ.vals 8 (hall 8 oM) _ rfl;have a0:Bg (wf (wd p) T [.inRegion I4 [9]]) I4 9 [] [] (J1 9):=⟨rfl,rfl,rfl,rfl,h1,h4⟩;refine⟨rfl,G (wf (wd p) T [.inRegion I4 [9]]) [CG],.tuple #[],?_,λw' hR=>⟨26,?_⟩⟩
 .rw[a0.step]
  have e:(execOp (wf (wd p) T [.inRegion I4 [9]]).eval (J1 9)).runT p.P w #[]=(.ok (.comm #[scase p.Ch (p.val j) (.tuple #[])] true .send) w,#[]):=by
   unfold execOp;rw[h2,hval];simp only[BV e5,BV a1];rfl
  unfold stepG.apply;simp only[e,a0.early,if_true,Bool.false_eq_true,if_false,GStep.after,seen_none,Array.append_empty];rfl
 .have e:Go.Conc.served (G (wf (wd p) T [.inRegion I4 [9]]) [CG]) undef=G (wf (wd p) T [.inRegion I4 []]) [CG]:=by
   unfold Go.Conc.served Frame.finish;simp only[G,wf,h1,h3,Option.bind_some]
  rw[e];have hm:=hJ.mem.rely hq hJ.mC hJ.mB hR;exact Aif hq.P hty hJ.mC T w' ⟨hm.live,hm.c⟩
theorem Ur(hq:W8 p q)(hty:p.ty=97)(hmx:p.P.follows .mixedOrders=true)(hval:p.val j=.agg #[Iz q.n,Tz q.line]){id:Nat}(hJ:J p q [] M T w):Ends p false (Is p j q.C (Iz q.n)) M (G (wf (wd p) T [.code (.region id I4 true)]) [CG]) w :=
 XA hq hmx hJ λ_ _ _ _ hall hJ=>Ends.stop λ_ hR=>Aev hq hty hval hall (hJ.rely hq hR)
end
end Bd
namespace Bd
open Go.Conc Go.ConcN Go.RowKit Go.Conc.Lib Go.ConcR.Gen Go.ConcN.Gen
def XB(p:F5)(q:BM):Deferred:={target:=.fn (.func 53) (Kw p q).toArray,args:=#[]}
noncomputable def Qs:Code:=Tryz.f53.body.getD .skip
noncomputable def DT:Array Oper:=match Qs with | .seq (.region _ ops _) _=>ops|_=>#[]
theorem Aca:Qs=.seq (.region 0 DT false) (.region 1 I4 true):=sI
noncomputable def o0:Oper:=(DT[0]?).getD {dst:=none,op:=.move (.const undef),type:=0,pos:= "",after:=#[],guard:=none}
noncomputable def Aig:Array TypeId:=match o0.op with | .defer c=>c.argTypes|_=>#[]
theorem Ahj:DT[0]?=some o0/\o0.op=.defer {callee:=.value (.func 54),args:=#[.tmp 0],argTypes:=Aig}/\o0.dst=none/\o0.guard=none:=⟨sI,sI,sI,sI⟩
theorem Aag:DT.size=1:=sI
def T0(p:F5)(q:BM):Array Value:=(Kw p q).toArray++Array.replicate 9 undef
section
variable {p:F5} {q:BM} {M:Nat->Prop} {w:World}
def IG(T:Array Value)(k:List Item):Frame:={fn:=53,tmps:=T,todo:=k,defers:=[],mode:=.run,kind:=.deferred}
theorem AfR(p:F5)(q:BM)(w:World):stepG prog false (born prog (XB p q)) w=.go (G (IG (T0 p q) [.code Qs]) [CG]) w #[]:=by
 simp[born,XB,stepG,unwind,callDeferred,invoke,callFunc,func53,Tryz.f53,seen,GStep.after,G,Frame.enter,CG,Qs,IG,T0,Kw]
theorem Aew(p:F5)(q:BM):∀(x:Nat)(v:Value),(Kw p q)[x]?=some v->(T0 p q)[x]?=some v:=λx v h=>by
 have hlt:=(A2.1 h).1;unfold T0;rw[Array.getElem?_append_left (by simpa using hlt)];simpa using h
theorem AfS(hq:W8 p q)(hty:p.ty=97)(hmx:p.P.follows .mixedOrders=true)(hval:p.val j=.agg #[Iz q.n,Tz q.line])(mC:M q.C)(mB:M q.Bb)(hm:Mem p q w)(hl:Gh p q [] M (T0 p q) w):Ends p false (Is p j q.C (Iz q.n)) M (born prog (XB p q)) w:=by
 have hJ:J p q [] M (T0 p q) w:=⟨rfl,Aew p q,λi hi=>by simp at hi,λx _ hx=>by simp at hx,λhx=>by simp at hx,mC,mB,hm,hl⟩;refine Ends.ctl rfl (λw=>by rw[hq.P];exact AfR p q w) ?_;rw[Aca];refine Ends.ctl (g':=G (IG (T0 p q) [.code (.region 0 DT false),.code (.region 1 I4 true)]) [CG]) rfl (λw=>by simp[stepG,stepG.exec,G,IG]) ?_;refine Ends.ctl (g':=G (IG (T0 p q) [.inRegion DT [0],.code (.region 1 I4 true)]) [CG]) rfl (λw=>by simp[stepG,stepG.exec,G,IG,Aag,List.range,List.range.loop]) ?_;obtain⟨a1,a2,a3,a4⟩:=Ahj;refine Ends.defer (d:=wd p) (o:=o0) (i:=0) (rest:=[]) (ops:=DT) (k:=[.code (.region 1 I4 true)]) ⟨rfl,rfl,rfl,rfl,a1,a4⟩ (λw₁=>?_) ?_
 .have e0:(IG (T0 p q) [.inRegion DT [0],.code (.region 1 I4 true)]).eval (.tmp 0)=Pz p.Wg 0:=rfl;have ef:(IG (T0 p q) [.inRegion DT [0],.code (.region 1 I4 true)]).eval (.func 54)=.func (.func 54) #[] #[]:=rfl
  have hr:(execOp (IG (T0 p q) [.inRegion DT [0],.code (.region 1 I4 true)]).eval o0).run p.P w₁=.ok (.defer (wd p)) w₁:=by
   unfold execOp;simp[a2,resolve,Deferred.ofValue,ef,e0,dcall,wd]
  have he:(execOp (IG (T0 p q) [.inRegion DT [0],.code (.region 1 I4 true)]).eval o0).events p.P w₁ #[]=#[]:=by
   unfold execOp;simp[a2,resolve,Deferred.ofValue,ef,e0]
  rw[Sem.runT_eq,hr,he]
 .have e:({IG (T0 p q) [.inRegion DT [0],.code (.region 1 I4 true)] with defers:=wd p::(IG (T0 p q) [.inRegion DT [0],.code (.region 1 I4 true)]).defers}:Frame).finish undef=wf (wd p) (T0 p q) [.inRegion DT [],.code (.region 1 I4 true)]:=by
   unfold Frame.finish IG wf;simp only[a1,a3,Option.bind_some]
  rw[e];refine Ends.ctl (g':=G (wf (wd p) (T0 p q) [.code (.region 1 I4 true)]) [CG]) rfl (λw=>by simp[stepG,stepG.exec,G,wf]) ?_;exact Ur hq hty hmx hval hJ
end
end Bd
namespace Bd
open Go.Conc Go.ConcN
structure Adk (p:F5) (V:Nat->Prop):Prop where
 gl:prog.globals.size<=p.Low
 vis:∀n,gB n=true->V n
 only:∀n,n<prog.globals.size->gB n=false->¬V n
 wg:∀b,V b->b≠p.Wg
 ch:∀b,V b->b≠p.Ch
 sh:∀a:Addr,V a.block->¬p.Shun (.cell a)
section
variable {p:F5} {V:Nat->Prop} {w W:World}
theorem Aah(h:∀b,V b->w.heap[b]?=W.heap[b]?):(AW V Low w).heap=(AW V Low W).heap:=by
 have e:Bf V w=Bf V W:=by
  funext b
  unfold Bf;by_cases hb:V b
  iterate 2 .simp_all
 show (Array.range Low).map (Bf V w)=(Array.range Low).map (Bf V W)
 rw[e]
theorem HU.same(hs:HU V Low W)(hz:W.heap.size<=w.heap.size)(h:∀b,V b->w.heap[b]?=W.heap[b]?):HU V Low w :=
 ⟨hs.low,B4 hs.le hz,λb hb=>by rw[h b hb];exact hs.at_ b hb⟩
theorem XC{q:BM}(hS:Adk p q.V)(hs:HU q.V p.Low w)(hU:q.U=(AW q.V p.Low w).heap)(M:Nat->Prop)(T:Array Value):Gh p q [] M T w :=
 ⟨Y1 q.V p.Low,AW q.V p.Low w,⟨hS.gl,hS.vis,λt h=>VQ t h,hS.only⟩,hs.begin,VT,⟨rfl,hS.wg,hS.ch,hS.sh⟩,.refl _,λb h=>(Nm b h).elim,Nm _,Nm _,λ_=>hU.symm,λh=>by simp at h⟩
end
section
variable {p:F5} {main:Bool} {Stop:(Nat->Prop)->Goroutine->World->Prop} {M:Nat->Prop} {w:World} {fr:Frame} {cs:List Frame} {ops:Array Oper} {i:Nat} {rest:List Nat} {k:List Item} {o:Oper}
def D6(w:World)(ob:Obj):World:={w with heap:=w.heap.push ob}
theorem Ends.make(h:Bg fr ops i rest k o)(np:∀c t,ob≠.pending c t)(hx:∀w₁,(execOp fr.eval o).runT p.P w₁ #[]=(.ok (.value (Pz w₁.heap.size 0)) (D6 w₁ ob),#[]))(kk:∀w₁,R0 p M w w₁->Ends p main Stop (BQ M w₁ (D6 w₁ ob)) (G (fr.finish (Pz w₁.heap.size 0)) cs) (D6 w₁ ob)):Ends p main Stop M (G fr cs) w :=
 Ends.step rfl λw₁ qb=>by
  refine⟨_,D6 w₁ ob,seen p.P fr.fn #[] ++ #[],?_,⟨rfl,rfl,rfl,λhn b c t hb=>?_,by simp[D6],λb hb _=>?_⟩,Dg dC,kk w₁ qb⟩
  .rw[h.step];unfold stepG.apply;simp only[hx w₁,h.early,if_true,Bool.false_eq_true,if_false,GStep.after];rfl
  .have hb:(w₁.heap.push ob)[b]?=_:=hb;rw[Array.getElem?_push] at hb;split at hb
   .simp_all
   .exact hn b c t hb
  .show (w₁.heap.push ob)[b]?=_
   rw[Array.getElem?_push_lt hb,← Array.getElem?_eq_getElem]
theorem Ends.skip(h:Bg fr ops i rest k o)(hx:∀w₁,R0 p M w w₁->∃w' es,(execOp fr.eval o).runT p.P w₁ #[]=(.ok .skip w',es)/\DK p M w₁ w' es/\Ends p main Stop M (G (fr.finish undef) cs) w'):Ends p main Stop M (G fr cs) w :=
 Ends.own rfl λw₁ qb=>by
  obtain⟨w',es,e1,e2,e3⟩:=hx w₁ qb;refine⟨_,w',seen p.P fr.fn es ++ #[],?_,⟨e2.1,Dg e2.2⟩,e3⟩;rw[h.step];unfold stepG.apply;simp only[e1,h.early,if_true,Bool.false_eq_true,if_false,GStep.after];rfl
end
section
variable {P:Program} {w:World}
theorem Ek{q:Sem Unit}{w:World}(h:q.runT P w es=(.ok () w',es')):(do q;pure .skip:Sem Next).runT P w es=(.ok .skip w',es'):=by
 simp_all
def laid(w:World)(B:Nat)(c:Array Value)(t:TypeId):World:={w with heap:=w.heap.setIfInBounds B (.cells c t (0,0))}
theorem VW{B:Nat}{t:TypeId}:∀(vs:List Value)(i:Nat)(c:Array Value)(w:World)(es:Array Event),(∀v∈vs,v.oneCell'=true)->w.heap[B]?=some (.cells c t (0,0))->i+vs.length<=c.size->
  ∃c' es',(storeCells ⟨B,0,none⟩ vs i).runT P w es=(.ok () (laid w B c' t),es')/\c'.size=c.size/\(∀j v,vs[j]?=some v->c'[i+j]?=some v)/\(∀j,j<i->c'[j]?=c[j]?)/\∀e∈es',e∈es\/∃j,e=⟨.cell ⟨B,j,none⟩,true,false⟩
 | [],i,c,w,es,_,hB,_=>by
  have hl:=(D1.1 hB).1
  have e:laid w B c t=w:=by
   unfold laid
   have:w.heap.setIfInBounds B (.cells c t (0,0))=w.heap:=by
    grind
   rw[this]
  exact⟨c,es,by rw[e];rfl,rfl,λj v hv=>by simp at hv,λ_ _=>rfl,λe he=>.inl he⟩
 | v::vs,i,c,w,es,h1,hB,hi=>by
  have hl:=(D1.1 hB).1;have a2:i+(vs.length+1)<=c.size:=hi;have a3:i<c.size:=oM
  have ea:(⟨B,0,none⟩:Addr).add i=⟨B,i,none⟩:=by
   unfold Addr.add;split
   .simp_all
   .simp
  have a0:AS w B i c[i]:=by simp[World.cell?,hB,a3]
  have a4:w.frozen? ⟨B,i,none⟩=false:=by simp[World.frozen?,hB]
  have a1:w.setCell ⟨B,i,none⟩ v=laid w B (c.setIfInBounds i v) t:=by
   unfold World.setCell laid;rw[modify_eq_set w.heap B _ _ hB];rfl
  have a5:(store ⟨B,i,none⟩ v).runT P w es=(.ok () (laid w B (c.setIfInBounds i v) t),es.push ⟨.cell ⟨B,i,none⟩,true,false⟩):=by
   have hv:=h1 v dC;cases v<;>first|(cases hv;done)|(simp only[store,Sem.runT,a0,a4,a1];rfl)
  have a6:(laid w B (c.setIfInBounds i v) t).heap[B]?=some (.cells (c.setIfInBounds i v) t (0,0)):=by
   show (w.heap.setIfInBounds B _)[B]?=_
   rw[Array.getElem?_setIfInBounds_self_of_lt hl]
  obtain⟨c',es',e1,e2,e3,e4,e5⟩:=VW vs (i+1) (c.setIfInBounds i v) (laid w B (c.setIfInBounds i v) t) (es.push ⟨.cell ⟨B,i,none⟩,true,false⟩) (λx hx=>h1 x (by simp[hx])) a6 gG;refine⟨c',es',?_,by rw[e2];simp,λj x hx=>?_,λj hj=>?_,λe he=>?_⟩
  .show ((store ((⟨B,0,none⟩:Addr).add i) v).bind _).runT P w es=_
   rw[ea,Sem.runT_bind',a5];show (storeCells ⟨B,0,none⟩ vs (i+1)).runT P (laid w B (c.setIfInBounds i v) t) _=_
   rw[e1]
   have:laid (laid w B (c.setIfInBounds i v) t) B c' t=laid w B c' t:=by
    unfold laid;simp[Array.setIfInBounds_setIfInBounds]
   rw[this]
  iterate 3 .grind
end
section
variable {P:Program}
theorem Np{inf:TypeInfo}{w:World}(hv:v.cells.toList=vs)(h1:∀u∈vs,u.oneCell'=true)(hi:P.info? t=some inf)(hs:inf.size=vs.length)(hB:w.heap[B]?=some (.cells c t0 (0,0)))(hc:c.size=vs.length)(es:Array Event):
  ∃es',(Instr.storeAt t (Pz B 0) v).runT P w es=(.ok () (laid w B vs.toArray t0),es')/\∀e∈es',e∈es\/∃j,e=⟨.cell ⟨B,j,none⟩,true,false⟩:=by
 obtain⟨c',es',e1,e2,e3,_,e5⟩:=VW (P:=P) vs 0 c w es h1 hB oM
 have e:c'=vs.toArray:=by
  apply Array.ext_getElem?
  intro j;rcases Nat.lt_or_ge j vs.length with h|h
  .grind
  .simp_all
 subst e;refine⟨es',?_,e5⟩;have hz:v.cells.size=inf.size:=by rw[hs,← hv];simp
 show ((sizeOf t).bind _).runT P w es=_
 rw[Sem.runT_bind',Gg hi];show (if v.cells.size≠inf.size then _ else storeCells ⟨B,0,none⟩ v.cells.toList:Sem Unit).runT P w es=_
 rw[if_neg (by simp[hz]),hv];exact e1
end
section
variable {p:F5} {main:Bool} {Stop:(Nat->Prop)->Goroutine->World->Prop} {M:Nat->Prop} {w:World} {fr:Frame} {cs:List Frame} {ops:Array Oper} {i:Nat} {rest:List Nat} {k:List Item} {o:Oper}
theorem Aai(hO:p.Ok)(hM:M a.block)(hl:p.Low<=a.block):FP p M ⟨.cell a,true,false⟩:=by
 refine⟨λx hx=>.inr ?_,dC,dC,dC⟩;simp only[MemAct.ofEvent,MemAct.touch?,Option.some.injEq] at hx;subst hx;exact⟨rfl,a.block,rfl,λh=>by have:=hO.low h;omega,.inr hM⟩
theorem Aaj(hM:M B)(w:World)(hB:B<w.heap.size):Rv M w (laid w B c t):=by
 refine⟨rfl,rfl,rfl,λhn=>?_,by simp[laid],λb hb=>?_⟩
 .exact hn.one (C:=B) (o:=.cells c t (0,0)) (λb hb=>by show (w.heap.setIfInBounds B _)[b]?=_;rw[Array.getElem?_setIfInBounds_ne (Ne.symm hb)]) (by show (w.heap.setIfInBounds B _)[B]?=_;rw[Array.getElem?_setIfInBounds_self_of_lt hB]) dC
 .show (w.heap.setIfInBounds B _)[b]?=_
  have a0:B≠b:=λe=>hb (by rw[← e];exact hM);rw[Array.getElem?_setIfInBounds_ne a0]
theorem Ends.store(hO:p.Ok)(h:Bg fr ops i rest k o){inf:TypeInfo}(hop:o.op=.store t x y)(hx:fr.eval x=Pz B 0)(hy:fr.eval y=v)(hv:v.cells.toList=vs)(h1:∀u∈vs,u.oneCell'=true)(hi:p.P.info? t=some inf)(hs:inf.size=vs.length)(mB:M B)(hl:p.Low<=B)
  (hc:∀w₁,R0 p M w w₁->∃c,w₁.heap[B]?=some (.cells c t0 (0,0))/\c.size=vs.length) (kk:∀w₁,R0 p M w w₁->Ends p main Stop M (G (fr.finish undef) cs) (laid w₁ B vs.toArray t0)):Ends p main Stop M (G fr cs) w :=
 Ends.skip h λw₁ qb=>by
  obtain⟨c,hB,hcs⟩:=hc w₁ qb;obtain⟨es',e1,e2⟩:=Np (P:=p.P) (t:=t) hv h1 hi hs hB hcs #[];refine⟨_,es',?_,⟨Aaj mB w₁ (D1.1 hB).1,λe he=>?_⟩,kk w₁ qb⟩
  .have e:execOp fr.eval o=(do Instr.storeAt t (fr.eval x) (fr.eval y);pure .skip:Sem Next):=by unfold execOp;rw[hop]
   rw[e,hx,hy];exact Ek e1
  .rcases e2 e he with h2|⟨j,rfl⟩
   .simp at h2
   .exact Aai hO mB hl
end
noncomputable def SY:Code:=Tryz.f21.body.getD .skip
def Gl:Code->List (Array Oper)
 | .region _ ops _=>[ops]
 | .seq a b=>Gl a++Gl b
 | .cond _ a b=>Gl a++Gl b
 | .block _ b=>Gl b
 | .loop b=>Gl b
 | .scope b=>Gl b
 | .rangeFunc _ _ a b=>Gl a++Gl b
 | _=>[]
noncomputable def rg(n:Nat):Array Oper:=((Gl SY)[n]?).getD #[]
noncomputable def og(n i:Nat):Oper:=((rg n)[i]?).getD {dst:=none,op:=.move (.const undef),type:=0,pos:= "",after:=#[],guard:=none}
noncomputable def S3:Code:=.seq (.region 4 (rg 4) false) (.seq (.cond (.tmp 17) .skip (.exit 0)) (.seq (.block 1 (.seq (.region 5 (rg 5) false) (.seq (.region 6 (rg 6) false) (.region 7 (rg 7) false)))) (.region 8 (rg 8) false)))
noncomputable def An:Code:=.seq (.region 13 (rg 13) false) (.seq (.cond (.tmp 32) .skip (.exit 2)) (.block 3 (.seq (.region 14 (rg 14) false) (.region 15 (rg 15) false))))
noncomputable def BW:Code:=.seq (.region 9 (rg 9) false) (.seq (.region 10 (rg 10) false) (.seq (.region 11 (rg 11) false) (.seq (.seq (.region 12 (rg 12) false) (.block 2 (.loop An))) (.seq (.region 16 (rg 16) false) .ret))))
abbrev Ic:Nat:=53
abbrev Oq (a:Array Oper) (o:Oper) (i:Nat) (p:Op) (d:Option Tmp):Prop:=a[i]?=some o/\o.op=p/\o.dst=d/\o.guard=none
theorem oq{a:Array Oper}{i:Nat}{p:Op}{d:Option Tmp}(h:(a[i]?.map λo=>(o.op,o.dst,o.guard))=some (p,d,none)):Oq a ((a[i]?).getD z) i p d:=by
 grind
theorem Aih:Oq (rg 4) (og 4 0) 0 (.binOp .lss 3 (.tmp 16) (.tmp 15) 3) (some 17):=oq sI
theorem Aii:Oq (rg 5) (og 5 0) 0 (.move (.tmp 16)) (some 18):=oq sI
theorem Aij:Oq (rg 5) (og 5 1) 1 (.indexAddr 35 (.tmp 14) (.tmp 16)) (some 19):=oq sI
theorem Aik:Oq (rg 5) (og 5 2) 2 (.load 52 (.tmp 19)) (some 20):=oq sI
theorem Ail:Oq (rg 5) (og 5 3) 3 (.alloc 3) (some 5):=oq sI
theorem Aim:Oq (rg 5) (og 5 4) 4 (.alloc 52) (some 6):=oq sI
theorem Ain:Oq (rg 5) (og 5 5) 5 (.store 3 (.tmp 5) (.tmp 18)) (none):=oq sI
theorem Aio:Oq (rg 5) (og 5 6) 6 (.store 52 (.tmp 6) (.tmp 20)) (none):=oq sI
theorem AfV:Oq (rg 7) (og 7 0) 0 (.makeFunc (.func Ic) #[] #[.tmp 4,.tmp 3,.tmp 5,.tmp 6,.tmp 1]) (some 22):=oq sI
theorem Aip:Oq (rg 8) (og 8 0) 0 (.binOp .add 3 (.tmp 16) (.const (Iz 1)) 3) (some 23):=oq sI
theorem Aiq:Oq (rg 8) (og 8 1) 1 (.move (.tmp 23)) (some 16):=oq sI
theorem Aao:(rg 4).size=1/\(rg 5).size=7/\(rg 6).size=1/\(rg 7).size=2/\(rg 8).size=2:=⟨sI,sI,sI,sI,sI⟩
theorem AfW(w:World)(es:Array Event):(Instr.alloc 3 true (.tuple #[])).runT prog w es=(.ok (Pz w.heap.size 0) (D6 w (Kz [Iz 0] 3)),es):=sI
theorem Ahl(w:World)(es:Array Event):(Instr.alloc 52 true (.tuple #[])).runT prog w es=(.ok (Pz w.heap.size 0) (D6 w (Kz [Ez,Nz,Nz,Ez,Iz 0,Iz 0] 52)),es):=sI
def ff(f:FuncId)(T:Array Value)(k:List Item)(r:Option Nat:=none)(ds:List Deferred:=[]):Frame:={fn:=f,tmps:=T,todo:=k,defers:=ds,mode:=.run,kind:=.normal,roundOf:=r}
abbrev sf (T:Array Value) (k:List Item):Frame:=ff 21 T k
section
variable {f:FuncId} {T:Array Value} {k:List Item} {r:Option Nat} {ds:List Deferred}
theorem S4{x:Nat}(h:T[x]?=some v):(ff f T k r ds).eval (.tmp x)=v:=by
 show T.getD x undef=v
 simp[Array.getD,(D1.1 h).1,(D1.1 h).2]
theorem P0{ops:Array Oper}{i:Nat}{o:Oper}(ho:ops[i]?=some o)(v:Value):(ff f T (.inRegion ops (i::l)::k) r ds).finish v=ff f (match o.dst with|some s=>T.setIfInBounds s v|none=>T) (.inRegion ops l::k) r ds:=by
 unfold Frame.finish ff;simp only[ho,Option.bind_some];cases o.dst<;>rfl
end
structure Sl (p:F5) (w w₁:World):Prop where
 tape:w₁.tape=w.tape
 os:w₁.os=w.os
 output:w₁.output=w.output
 nv:NV w->NV w₁
 size:w.heap.size<=w₁.heap.size
 low:∀b,b<p.Low->b≠p.Wg->b≠p.Ch->w₁.heap[b]?=w.heap[b]?
 live:WgLive p.ty p.Wg w->WgLive p.ty p.Wg w₁
 chan:EF p w->EF p w₁
section
variable {p:F5} {M:Nat->Prop} {w w₁ qc:World}
theorem Sl.trans(h:Sl p w w₁)(k:Sl p w₁ qc):Sl p w qc:=⟨k.tape.trans h.tape,k.os.trans h.os,k.output.trans h.output,k.nv ∘ h.nv,B4 h.size k.size,λb h1 h2 h3=>(k.low b h1 h2 h3).trans (h.low b h1 h2 h3),k.live ∘ h.live,k.chan ∘ h.chan⟩
theorem Sl.of_r0(h:R0 p M w w₁):Sl p w w₁:=⟨h.tape,h.os,h.output,h.nv,h.rk.size,h.rk.low,h.rk.live,h.rk.chan⟩
theorem Sl.of_low(hO:p.Ok)(hs:w.heap.size<=w₁.heap.size)(h1:w₁.tape=w.tape)(h2:w₁.os=w.os)(h3:w₁.output=w.output)(h4:NV w->NV w₁)(h:∀b,b<p.Low->w₁.heap[b]?=w.heap[b]?):Sl p w w₁:=by
 refine⟨h1,h2,h3,h4,hs,λb hb _ _=>h b hb,?_,?_⟩
 .rintro⟨st,sm,hq⟩;exact⟨st,sm,by unfold Go.ConcR.WgAt at hq ⊢;rw[h _ hO.wg];exact hq⟩
 .rintro⟨L,hq⟩;exact⟨L,by unfold BP at hq ⊢;rw[h _ hO.ch];exact hq⟩
theorem N6(h:b<w.heap.size):(D6 w ob).heap[b]?=w.heap[b]?:=by
 show (w.heap.push ob)[b]?=_
 rw[Array.getElem?_push_lt h,← Array.getElem?_eq_getElem]
theorem K9:(D6 w ob).heap[w.heap.size]?=some ob:=Array.getElem?_push_size
theorem Sl.push(hO:p.Ok)(hl:p.Low<=w.heap.size)(np:∀c t,ob≠.pending c t):Sl p w (D6 w ob) :=
 .of_low hO (by simp[D6]) rfl rfl rfl (λhn b c t hx=>by
  have hx:(w.heap.push ob)[b]?=_:=hx;rw[Array.getElem?_push] at hx;split at hx
  .simp_all
  .exact hn b c t hx) λb hb=>N6 oM
theorem BI(h:b≠B):(laid w B c t).heap[b]?=w.heap[b]?:=by
 show (w.heap.setIfInBounds B _)[b]?=_
 rw[Array.getElem?_setIfInBounds_ne (Ne.symm h)]
theorem El(h:B<w.heap.size):(laid w B c t).heap[B]?=some (.cells c t (0,0)):=by
 show (w.heap.setIfInBounds B _)[B]?=_
 rw[Array.getElem?_setIfInBounds_self_of_lt h]
theorem Sl.laid(hO:p.Ok)(hB:p.Low<=B)(hb:B<w.heap.size):Sl p w (laid w B c t) :=
 .of_low hO (by simp[Bd.laid]) rfl rfl rfl (λhn=>hn.one (C:=B) (o:=.cells c t (0,0)) (λb h=>BI h) (El hb) dC) λb h=>BI oM
variable {Stop:(Nat->Prop)->Goroutine->World->Prop} {T:Array Value} {k:List Item} {cs:List Frame}
theorem Y2{P:Program}{o:Oper}(hop:o.op=.move x)(f:Operand->Value)(w:World):(execOp f o).runT P w #[]=(.ok (.value (f x)) w,#[]):=by unfold execOp;rw[hop];rfl
theorem Ahm:(prog.info? 3).map (·.size)=some 1:=sI
theorem Ack(hP:p.P=prog)(hO:p.Ok){n:Int}(hbc:bc.length=6)(h1:∀u∈bc,u.oneCell'=true)(hT:T.size=41)(e18:T[18]?=some (Iz n))(e20:T[20]?=some (.agg bc.toArray))(hl:p.Low<=w.heap.size)
  (kk:∀(M:Nat->Prop) C Bb w',M C->M Bb->p.Low<=C->p.Low<=Bb->C≠Bb->Sl p w w'->w'.heap[C]?=some (Kz [Iz n] 3)->w'.heap[Bb]?=some (.cells bc.toArray 52)->Ends p true Stop M (G (sf ((T.setIfInBounds 5 (Pz C 0)).setIfInBounds 6 (Pz Bb 0)) (.inRegion (rg 5) []::k)) cs) w') :
  Ends p true Stop Mt (G (sf T (.inRegion (rg 5) [3,4,5,6]::k)) cs) w:=by
 obtain⟨a1,a2,a3,a4⟩:=Ail;refine Ends.make (ob:=.cells #[Iz 0] 3) ⟨rfl,rfl,rfl,rfl,a1,a4⟩ dC (λw₁=>?_) λw₁ R1=>?_
 .have e:∀f,execOp f (og 5 3)=(do pure (.value (← Instr.alloc 3 true (.tuple #[]))):Sem Next):=λf=>by unfold execOp;rw[a2]
  rw[e,hP];exact I9 (AfW w₁ #[])
 rw[P0 a1,a3];have s1:Sl p w w₁:=.of_r0 R1;have l1:p.Low<=w₁.heap.size:=B4 hl s1.size;obtain⟨b1,b2,b3,b4⟩:=Aim;refine Ends.make (ob:=.cells #[Ez,Nz,Nz,Ez,Iz 0,Iz 0] 52) ⟨rfl,rfl,rfl,rfl,b1,b4⟩ dC (λqc=>?_) λqc R2=>?_
 .have e:∀f,execOp f (og 5 4)=(do pure (.value (← Instr.alloc 52 true (.tuple #[]))):Sem Next):=λf=>by unfold execOp;rw[b2]
  rw[e,hP];exact I9 (Ahl qc #[])
 rw[P0 b1,b3];generalize hM1:BQ Mt w₁ (D6 w₁ (Kz [Iz 0] 3))=M1 at R2 ⊢
 have m1:M1 w₁.heap.size:=by rw[← hM1];exact .inr ⟨A3 _,by simp[D6]⟩
 have c2:qc.heap[w₁.heap.size]?=some (Kz [Iz 0] 3):=(R2.rk.own _ m1).trans K9;have b6:w₁.heap.size<qc.heap.size:=(D1.1 c2).1;have s2:Sl p w qc:=(s1.trans (.push hO l1 dC)).trans (.of_r0 R2);have l2:p.Low<=qc.heap.size:=B4 hl s2.size;generalize hM2:BQ M1 qc _=M2;have m2:M2 qc.heap.size:=by rw[← hM2];exact .inr ⟨A3 _,by simp[D6]⟩
 have a5:M2 w₁.heap.size:=by rw[← hM2];exact .inl m1
 clear hM1 hM2;generalize hC:w₁.heap.size=C at *;generalize hB:qc.heap.size=Bb at *;generalize hT2:(T.setIfInBounds 5 (Value.pointer (some ⟨C,0,none⟩))).setIfInBounds 6 (Value.pointer (some ⟨Bb,0,none⟩))=T2 at kk;have a0:T2=(T.setIfInBounds 5 (Value.pointer (some ⟨C,0,none⟩))).setIfInBounds 6 (Value.pointer (some ⟨Bb,0,none⟩)):=hT2.symm;show Ends p true Stop M2 (G (sf ((T.setIfInBounds 5 (Value.pointer (some ⟨C,0,none⟩))).setIfInBounds 6 (Value.pointer (some ⟨Bb,0,none⟩))) (.inRegion (rg 5) [5,6]::k)) cs) _
 rw[← a0];have f5:T2[5]?=some (Pz C 0):=by rw[a0,Array.getElem?_setIfInBounds_ne oM,Array.getElem?_setIfInBounds_self_of_lt oM]
 have f6:T2[6]?=some (Pz Bb 0):=by rw[a0,Array.getElem?_setIfInBounds_self_of_lt gG]
 have b7:T2[18]?=some (Iz n):=by rw[a0,Array.getElem?_setIfInBounds_ne oM,Array.getElem?_setIfInBounds_ne oM];exact e18
 have b8:T2[20]?=some (.agg bc.toArray):=by rw[a0,Array.getElem?_setIfInBounds_ne oM,Array.getElem?_setIfInBounds_ne oM];exact e20
 have s3:=s2.trans (.push hO (by rw[hB];exact l2) (ob:=.cells #[Ez,Nz,Nz,Ez,Iz 0,Iz 0] 52) dC);have p1:(D6 qc (Kz [Ez,Nz,Nz,Ez,Iz 0,Iz 0] 52)).heap[C]?=some (Kz [Iz 0] 3):=(N6 (by rw[hB];exact b6)).trans c2;have p2:(D6 qc (Kz [Ez,Nz,Nz,Ez,Iz 0,Iz 0] 52)).heap[Bb]?=some (Kz [Ez,Nz,Nz,Ez,Iz 0,Iz 0] 52):=by rw[← hB];exact K9
 generalize D6 qc (Kz [Ez,Nz,Nz,Ez,Iz 0,Iz 0] 52)=w3 at s3 p1 p2 ⊢
 obtain⟨c1,a7,c3,c4⟩:=Ain;obtain⟨d1,d2,d3,d4⟩:=Aio;obtain⟨i1,a8,a9⟩:=B6.1 Ahm;obtain⟨i2,b0,b5⟩:=B6.1 Xz;refine Ends.store hO (v:=.int .i64 n) (vs:=[Iz n]) (inf:=i1) (t0:=3) ⟨rfl,rfl,rfl,rfl,c1,c4⟩ a7 (S4 f5) (S4 b7) rfl (by simp[Value.oneCell']) (by rw[hP];exact a8) (by rw[a9];rfl) a5 l1 (λqg R3=>⟨_,(R3.rk.own _ a5).trans p1,rfl⟩) λqg R3=>?_;rw[P0 c1,c3];have q1:=(R3.rk.own _ a5).trans p1;have q2:=(R3.rk.own _ m2).trans p2;have lC:C<qg.heap.size:=(D1.1 q1).1;have s4:=(s3.trans (.of_r0 R3)).trans (.laid hO l1 lC (c:=[Value.int .i64 n].toArray) (t:=3));have r1:(laid qg C [Value.int .i64 n].toArray 3).heap[C]?=some (.cells [Value.int .i64 n].toArray 3 (0,0)):=El lC;have r2:=(BI (w:=qg) (B:=C) (c:=[Value.int .i64 n].toArray) (t:=3) (show Bb≠C by omega)).trans q2;generalize laid qg C [Value.int .i64 n].toArray 3=w4 at s4 r1 r2 ⊢
 refine Ends.store hO (v:=.agg bc.toArray) (vs:=bc) (inf:=i2) (t0:=52) ⟨rfl,rfl,rfl,rfl,d1,d4⟩ d2 (S4 f6) (S4 b8) (by simp[Value.cells]) h1 (by rw[hP];exact b0) (by rw[b5,hbc]) m2 l2 (λqn R5=>⟨_,(R5.rk.own _ m2).trans r2,by rw[hbc];rfl⟩) λqn R5=>?_;rw[P0 d1,d3];have t1:=(R5.rk.own _ a5).trans r1;have t2:=(R5.rk.own _ m2).trans r2;have lB:Bb<qn.heap.size:=(D1.1 t2).1;have a6:=kk M2 C Bb (laid qn Bb bc.toArray 52) a5 m2 l1 l2 oM ((s4.trans (.of_r0 R5)).trans (.laid hO l2 lB)) ((BI oM).trans t1) (El lB);rw[hT2] at a6;exact a6
end
theorem Ou{P:Program}{inf:TypeInfo}(hu:P.underlying t=some (.slice e))(hi:P.info? e=some inf){c i:Nat}(h:i<n)(w:World)(es:Array Event):(Instr.indexAt t (Vz (some a) n c) (Iz (i:Int))).runT P w es=(.ok (.pointer (some (a.add (i*inf.size)))) w,es):=by
 show ((underlying t).bind _).runT P w es=_
 rw[Sem.runT_bind',IE hu];show ((underlying t).bind _).runT P w es=_
 rw[Sem.runT_bind',IE hu];show (if 0<=(i:Int)/\(i:Int)<(n:Int) then ((sizeOf e).bind _) else _:Sem Value).runT P w es=_
 rw[if_pos ⟨oM,oM⟩,Sem.runT_bind',Gg hi];rfl
theorem Nr:prog.underlying 35=some (.slice 52):=sI
section
variable {p:F5} {w:World} {Stop:(Nat->Prop)->Goroutine->World->Prop} {T:Array Value} {k:List Item} {cs:List Frame}
theorem IJ(B o m:Nat):(⟨B,o,none⟩:Addr).add m=⟨B,o+m,none⟩:=by
 unfold Addr.add;split
 .simp_all
 .rfl
theorem AfX(hP:p.P=prog)(hO:p.Ok){c i bb oo:Nat}(hbc:bc.length=6)(h1:∀u∈bc,u.oneCell'=true)(hT:T.size=41)(e16:T[16]?=some (Iz (i:Int)))(e14:T[14]?=some (Sx bb oo n c))(hin:i<n)(hl:p.Low<=w.heap.size)
  (hb:bb<p.Low/\bb≠p.Wg/\bb≠p.Ch/\∀a:Addr,a.block=bb->¬p.Sh (.cell a)) (hc:∀(j:Nat) v,bc[j]?=some v->w.cell? ⟨bb,oo+i*6+j,none⟩=some v)
  (kk:∀(M:Nat->Prop) C Bb w',M C->M Bb->p.Low<=C->p.Low<=Bb->C≠Bb->Sl p w w'->w'.heap[C]?=some (Kz [Iz (i:Int)] 3)->w'.heap[Bb]?=some (.cells bc.toArray 52)->∀T',T'.size=41->T'[5]?=some (Pz C 0)->T'[6]?=some (Pz Bb 0)->(∀x,x<17->x≠5->x≠6->T'[x]?=T[x]?)->Ends p true Stop M (G (sf T' (.inRegion (rg 5) []::k)) cs) w') :
  Ends p true Stop Mt (G (sf T (.inRegion (rg 5) [0,1,2,3,4,5,6]::k)) cs) w:=by
 obtain⟨a1,a2,a3,a4⟩:=Aii;refine Ends.value (v:=.int .i64 (i:Int)) ⟨rfl,rfl,rfl,rfl,a1,a4⟩ (λw₁ R1=>⟨#[],by rw[Y2 a2,S4 e16],dC⟩) ?_;rw[P0 a1,a3];obtain⟨b1,b2,b3,b4⟩:=Aij;obtain⟨a0,hi,hz⟩:=B6.1 Xz;have a5:(T.setIfInBounds 18 (Iz (i:Int)))[14]?=some (Sx bb oo n c):=by rw[Array.getElem?_setIfInBounds_ne oM];exact e14
 have a6:(T.setIfInBounds 18 (Iz (i:Int)))[16]?=some (Iz (i:Int)):=by rw[Array.getElem?_setIfInBounds_ne oM];exact e16
 refine Ends.value (v:=Pz bb (oo+i*6)) ⟨rfl,rfl,rfl,rfl,b1,b4⟩ (λw₁ R1=>⟨#[],?_,dC⟩) ?_
 .have e:∀f,execOp f (og 5 1)=(do pure (.value (← Instr.indexAt 35 (f (.tmp 14)) (f (.tmp 16)))):Sem Next):=λf=>by unfold execOp;rw[b2]
  rw[e,S4 a5,S4 a6,hP];have:=Ou Nr hi hin (a:=⟨bb,oo,none⟩) (c:=c) w₁ #[];rw[hz,IJ] at this;exact I9 this
 rw[P0 b1,b3];obtain⟨c1,c2,c3,c4⟩:=Aik;obtain⟨ds,hu,hd⟩:=B6.1 AbW;have a7:((T.setIfInBounds 18 (Iz (i:Int))).setIfInBounds 19 (Pz bb (oo+i*6)))[19]?=some (Pz bb (oo+i*6)):=Array.getElem?_setIfInBounds_self_of_lt gG;refine Ends.loadN (vs:=bc) (inf:=a0) ⟨rfl,rfl,rfl,rfl,c1,c4⟩ c2 (S4 a7) (by rw[hP];exact hu) hd (by rw[hP];exact hi) (by rw[hz,hbc]) (λw₁ R1 j v hv=>?_) (λj=>JB (.inl ⟨by rw[BF];exact hb.1,hb.2.2.2 _ (BF _ _)⟩)) ?_
 .rw[IJ,C2 (w:=w) (R1.rk.low _ hb.1 hb.2.1 hb.2.2.1)];exact hc j v hv
 rw[P0 c1,c3];refine Ack hP hO (n:=(i:Int)) (bc:=bc) hbc h1 (by simp[hT]) ?_ ?_ hl λM C Bb w' k1 k2 k3 k4 k5 k6 k7 k8=>kk M C Bb w' k1 k2 k3 k4 k5 k6 k7 k8 _ (by simp[hT]) ?_ ?_ ?_
 iterate 4 .simp_all
 .intro x hx h5 h6;rw[Array.getElem?_setIfInBounds_ne oM,Array.getElem?_setIfInBounds_ne oM,Array.getElem?_setIfInBounds_ne oM,Array.getElem?_setIfInBounds_ne oM,Array.getElem?_setIfInBounds_ne oM]
end
end Bd
namespace Bd
open Go.Conc Go.ConcN
open Go.ConcR (DC0)
section
variable {p:F5} {main:Bool} {M:Nat->Prop} {S:Goroutine->World->Prop} {Stop:(Nat->Prop)->Goroutine->World->Prop}
theorem Ends.of_goes(hS:∀g w,S g w->Stop M g w):∀(n:Nat) {g:Goroutine} {w:World},Goes p.P main (R0 p M) DC0 S n g w->Ends p main Stop M g w
 | 0,g,w,h=>Ends.stop λw₁ qb=>hS _ _ (h w₁ qb)
 | n+1,g,w,h=>by
  rcases h with h|⟨hs,h⟩
  .exact Ends.stop λw₁ qb=>hS _ _ (h w₁ qb)
  .refine Ends.own hs λw₁ qb=>?_;have h2:=h w₁ qb;revert h2
   cases e:stepG p.P main g w₁<;>simp only[GStep.goes,false_implies]
   rename_i g' w' es;rintro⟨⟨rfl,rfl⟩,k⟩;exact⟨g',w',#[],rfl,⟨.refl _,dC⟩,Ends.of_goes hS n k⟩
end
end Bd
namespace Bd
open Go.Conc Go.ConcN Go.RowKit Go.Conc.Lib
theorem Air:(rg 7)[1]?=some (og 7 1)/\(og 7 1).op=.go {callee:=.value (.tmp 22),args:=#[],argTypes:=#[]}/\(og 7 1).dst=none/\(og 7 1).guard=none:=⟨sI,sI,sI,sI⟩
theorem Ais:(rg 6)[0]?=some (og 6 0)/\(og 6 0).op=.call {callee:=.value (.func 52),args:=#[.tmp 4,.const (Iz 1)],argTypes:=(match (og 6 0).op with | .call c=>c.argTypes|_=>#[])}/\(og 6 0).guard=none:=⟨sI,sI,sI⟩
theorem Ahn(T:Array Value)(k:List Item):sf T k=(base 21).at ⟨T,[]⟩ k:=rfl
section
variable {T:Array Value} {k:List Item} {cs:List Frame} {w:World}
theorem Acl(e22:T[22]?=some (.func (.func Ic) #[] caps)):stepG prog true (G (sf T (.inRegion (rg 7) [1]::k)) cs) w=.spawn (G (sf T (.inRegion (rg 7) []::k)) cs) (born prog {target:=.fn (.func Ic) caps,args:=#[]}) w #[]:=by
 obtain⟨a1,a2,a3,a4⟩:=Air;have hw:∀y,Region.wanted (og 7 1) y=true:=λy=>by unfold Region.wanted;rw[a4]
 have ev:(⟨T,[]⟩:Act).eval (.tmp 22)=.func (.func Ic) #[] caps:=by simp[Act.eval,e22]
 have hr:(execOp (⟨T,[]⟩:Act).eval (og 7 1)).run prog w=.ok (.spawn {target:=.fn (.func Ic) caps,args:=#[]}) w:=by
  unfold execOp;simp[a2,resolve,Deferred.ofValue,ev]
 have he:(execOp (⟨T,[]⟩:Act).eval (og 7 1)).events prog w #[]=#[]:=by
  unfold execOp;simp[a2,resolve,Deferred.ofValue,ev]
 have hl:listed prog (base 21).fn ⟨T,[]⟩ (og 7 1) w=#[]:=by unfold listed;rw[he];exact seen_none _ _
 rw[Ahn,stepG_spawn a1 (hw _) (by simp[base]) hr rfl,hl];simp only[a3,Act.put];rfl
end
end Bd
namespace Bd
open Go.Conc Go.ConcN
section
variable {p:F5} {q:BM} {M:Nat->Prop} {T:Array Value} {k:List Item} {cs:List Frame} {w:World} {Next:Goroutine->World->Prop}
theorem Aho(hq:W8 p q)(hty:p.ty=97)(hmx:p.P.follows .mixedOrders=true)(hval:p.val j=.agg #[Iz q.n,Tz q.line])(mC:M q.C)(mB:M q.Bb)(hm:Mem p q w)(hl:Gh p q [] M (T0 p q) w)(e22:T[22]?=some (.func (.func Ic) #[] (Kw p q).toArray))(hn:Next (G (sf T (.inRegion (rg 7) []::k)) cs) w):ES p M j Next (G (sf T (.inRegion (rg 7) [1]::k)) cs) w:=by
 obtain⟨Tr,ht⟩:=AfS hq hty hmx hval mC mB hm hl;exact⟨rfl,_,_,by rw[hq.P];exact Acl e22,⟨q.C,Iz q.n,Tr,mC,ht⟩,hn⟩
end
theorem mixed:prog.follows .mixedOrders=true:=sI
end Bd
section
open Go.RowKit
def IC(ts:List Tr)(gone:List BA):Prop:=∀(i:Nat)(p:Tr),ts[i]?=some p->p.2=E1 gone p.1.nm
theorem ZS(l:List BA)(s t:BA):E1 (l++[s]) t=(E1 l t || (s.toList==t.toList)):=by simp[E1]
theorem ZT(ha:Y4 (G9 bs))(h:ts.map (·.1)=bs)(hG:IC ts gone){p:Tr}(hp:ts[n]?=some p):IC (ts.set n (p.1,true)) (gone++[p.1.nm]):=λi q hq=>by
 rw[ZS];by_cases e:n=i
 .grind
 .rw[List.getElem?_set,if_neg e] at hq;rw[hG i q hq]
  have:(p.1.nm.toList==q.1.nm.toList)=false:=by
   rw[← Bool.not_eq_true,beq_iff_eq];intro h1;refine e (Ir ha (a:=p.1.nm) ?_ ?_)
   .rw[G9,B3,DM h hp];rfl
   .rw[G9,B3,DM h hq,FN h1];rfl
  grind
theorem Aen(h:ts.map (·.1)=bs){p:Tr}(hp:ts[n]?=some p):(ts.set n (p.1,true)).map (·.1)=bs:=by
 rw[List.map_set,h];have:=DM h hp;obtain⟨hn,e⟩:=A2.1 this;show bs.set n p.1=bs
 rw[← e,List.set_getElem_self]
theorem AfK(h:ts.map (·.1)=bs)(hn:n<bs.length):∃p,ts[n]?=some p/\p.1=bs[n]:=by
 have hl:n<ts.length:=by rw[← h] at hn;simpa using hn
 refine⟨ts[n],A0 hl,?_⟩;grind
theorem ZU(bs:List Ba)(k:Nat):IC (X3 bs k) []:=λi p hp=>by
 rw[X3,B3,B6] at hp;obtain⟨x,_,rfl⟩:=hp;rfl
theorem AbV{b:Bk}(hok:J3 b)(h:ts.map (·.1)=b.bs)(hG:IC ts gone){a:Nat}{p:Tr}(hp:ts[a]?=some p):
  (!p.2&&decide (E3 b.tg (E1 p.1.nj) &&& (18446744073709551615-(E3 b.tg (K7 ts)+E3 b.tg (E1 p.1.has)))=0))=true↔Good b.bs gone a:=by
 have hb:=DM h hp;rw[Bool.and_eq_true,Bool.not_eq_true',decide_eq_true_eq];constructor
 .rintro⟨h1,h2⟩;exact⟨p.1,hb,by rw[← hG a p hp];exact h1,(VD hok h hG hp h1).1 h2⟩
 .rintro⟨x,hx,h1,h2⟩;rw[hb] at hx;obtain rfl:=A5 hx;have h3:p.2=false:=by rwa[hG a p hp]
  exact⟨h3,(VD hok h hG hp h3).2 h2⟩
theorem ZV(tb:Nat)(b:Bk)(ts:List Tr)(gone:List BA)(w:World)(h:Bu w tb b.tg ts)(hok:J3 b)(hm:ts.map (·.1)=b.bs)(hG:IC ts gone):
  Calls prog 207 #[Pz tb 0] w λe w'=>((∃k:Nat,e=.returned (.tuple #[Iz k,.bool true])/\Z6 b.bs gone (k:Int))\/(e=.returned (.tuple #[Iz 0,.bool false])/\Z6 b.bs gone (-1)))/\Up w w':=by
 have hT:=h;obtain⟨rv,hC,a0⟩:=h;have h8:=hok.1.1;have a2:ts.length=b.bs.length:=by rw[← hm];simp
 have h5:ts.length<=5:=by have:=hok.2.1;omega
 have Hlb:Hid (ts.length=b.bs.length):=a2;have HG:Hid (∀(a:Nat)(p:Tr),ts[a]?=some p->((!p.2&&decide (E3 b.tg (E1 p.1.nj) &&& (18446744073709551615-(E3 b.tg (K7 ts)+E3 b.tg (E1 p.1.has)))=0))=true↔Good b.bs gone a)):=λa p hp=>AbV hok hm hG hp
 obtain⟨a6,a7,rfl⟩:∃a c,rv=Vz a ts.length c:=by
  rcases a0.2 with⟨h0,h1⟩|⟨g,cap,_,hv,_⟩
  .exact⟨none,0,by rw[h0,h1]⟩
  .exact⟨_,cap,hv⟩
 obtain⟨t0,t1⟩:=hC.c2';clear hC a0 a2 hok hm hG;go_in;go_wp2_with fail;(try dsimp only[Iz,Sy,Sx,Nz,Vz,Tz,Ez,Pz]);go_loopw [4,10] (λ_ i w'=>∃k:Nat,k<=ts.length/\i=.int .i64 k/\(∀j,j<k->¬Good b.bs gone j)/\Up w w') (λ_ i _=>ts.length-(intOf i).toNat)
 case atStart=>exact⟨0,oM,rfl,λj hj=>oM,A4 _ _⟩
 case round =>
  obtain⟨k,hk,rfl,a1,hB⟩:=hrel;have Hal:Hid (∀j,j<k->¬Good b.bs gone j):=a1;clear a1;by_cases hp:k<ts.length
  .have a3:=A0 hp;have HI:=HG.out k _ a3;have HI':Hid ((!(ts[k]).2&&decide (E3 b.tg (E1 (ts[k]).1.nj) &&& (18446744073709551615-(E3 b.tg (K7 ts)+E3 b.tg (E1 (ts[k]).1.has)))=0))=true↔Good b.bs gone k):=HI;clear HI;go_wp2_with fail;refine (AdU tb k b.tg ts _ _ (hT.up hB) h8 a3 h5).mono ?_;rintro e w2 ⟨rfl,a5⟩;have a4:=D3 hB a5;clear hB a5;revert HI'
   generalize (!(ts[k]).2&&decide (E3 b.tg (E1 (ts[k]).1.nj) &&& (18446744073709551615-(E3 b.tg (K7 ts)+E3 b.tg (E1 (ts[k]).1.has)))=0))=cb;intro HI';cases cb
   .have Hs:Hid (∀j,j<k+1->¬Good b.bs gone j):=Hi Hal.out λh=>by have:=HI'.out.2 h;cases this
    clear HI' HG;go_wp2_with fail;go_roundw
    case rel=>exact⟨k+1,oM,mO,Hs.out,a4⟩
    case measure=>simp[intOf];omega
   .have Hs:Hid (Z6 b.bs gone (k:Int)):=.inr ⟨k,rfl,by have:=Hlb.out;omega,HI'.out.1 rfl,Hal.out⟩;clear HI' HG;go_wp2_with fail;go_returns
    exact⟨.inl ⟨k,rfl,Hs.out⟩,a4⟩
  .have Hs:Hid (Z6 b.bs gone (-1)):=.inl ⟨rfl,λj hj=>Hal.out j (by have:=Hlb.out;omega)⟩;go_wp2_with fail;go_returns
   exact⟨.inr ⟨rfl,Hs.out⟩,hB⟩
theorem ZE(tb at':Nat)(tg:List BA)(ts:List Tr)(p:Tr)(bs:List Ba)(w:World)(h:Bu w tb tg ts)(h8:tg.length<=8)(hp:ts[at']?=some p)(hg:p.2=false)(hm:ts.map (·.1)=bs)(ha:BT bs)(h5:ts.length<=5):
  Calls prog 208 #[Pz tb 0,Iz at'] w λe w'=>(∃v,e=.returned v)/\Bu w' tb tg (ts.set at' (p.1,true))/\Below tb w w'/\∀(base:Nat)(u:Value)(ss:List BA),F9 w base u ss->tb<base->F9 w' base u ss:=by
 obtain⟨rv,hC,a0⟩:=h;have hi:=(A2.1 hp).1;obtain⟨g,a4,rfl⟩:=AG a0 oM;have b2:=(a0.lt g rfl).1;obtain⟨r0,r1,r2,r3⟩:=GH a0 hp;obtain⟨⟨t0,t1⟩,u0,u1⟩:=hC.c2;have n1:=S8 h8 (E1 p.1.has);have n3:=S8 h8 (K7 ts);have b3:=Xl ha hm hp hg tg;have f3:=a0.frozenAt (at'*4+3);have a5:=a0.stored (at'*4+3) (.bool true);rw[Pl tg ts at' p hp] at a5;obtain⟨W1,a6,a1,a3⟩:∃W1,w.setCell ⟨g,at'*4+3,none⟩ (.bool true)=W1/\W1.ownsRow (tb+1) 260 4 (Sy g ts.length a4) ts.length (R7 tg (ts.set at' (p.1,true)))/\w.grownBy W1 (some g):=⟨_,rfl,a5.1,a5.2⟩;clear a5;have a7:=hC.kept a3 gG;have a8:(ts.set at' (p.1,true)).length=ts.length:=List.length_set;have a2:W1.ownsRow (tb+1) 260 4 (Sy g (ts.set at' (p.1,true)).length a4) (ts.set at' (p.1,true)).length (R7 tg (ts.set at' (p.1,true))):=by rw[a8];exact a1
 obtain⟨-,s1,-,-⟩:=GH a2 (i:=at') (p:=(p.1,true)) (by rw[List.getElem?_set,if_pos rfl,if_pos hi]);have hT:∀x,CB x tb [Sy g ts.length a4,.int .u64 (E3 tg (K7 (ts.set at' (p.1,true))):Nat)]->W1.grownBy x (some tb)->Bu x tb tg (ts.set at' (p.1,true)):=λx h1 h2=>⟨_,h1,by rw[a8];exact Gu a1 h2 oM⟩;have HT:Hid (∀x,CB x tb [Sy g ts.length a4,.int .u64 (E3 tg (K7 (ts.set at' (p.1,true))):Nat)]->W1.grownBy x (some tb)->Bu x tb tg (ts.set at' (p.1,true))):=hT;have b0:Below tb w W1:=⟨a3.os,a3.tape,a3.output,a3.size,λi hi=>a3.block i (Nat.lt_trans hi hC.2.2) gG⟩
 have HO:Hid (∀(base:Nat)(u:Value)(ss:List BA),F9 w base u ss->tb<base->F9 W1 base u ss):=λbase u ss q1 q2=>Sm q1 a3 λg' hg'=>by
  have:=Pm q1 a0 aS g' hg';simpa [Value.ownBlock] using this
 clear hT a1 a2 a3 a0;generalize E3 tg (K7 (ts.set at' (p.1,true)))=fb2 at *;generalize E3 tg (E1 p.1.has)=hb at *;generalize E3 tg (K7 ts)=fb at *;have b1:IntKind.u64.wrap ((fb:Int)+(hb:Int))=(fb2:Int):=by rw[DL oM oM];omega
 go_in;go_upto_region 1 with fail;try rw[a6]
 clear a6 r0 r1 r2 r3 t0 t1 u0 u1 f3;obtain⟨⟨t0,t1⟩,u0,u1⟩:=a7.c2;have a9:CB ((W1.setCell ⟨tb,1,none⟩ (.int .u64 (fb2:Nat))).drew) tb [Sy g ts.length a4,.int .u64 (fb2:Nat)]:=CB.set (j:=1) a7 dC;have HTx:Hid (Bu ((W1.setCell ⟨tb,1,none⟩ (.int .u64 (fb2:Nat))).drew) tb tg (ts.set at' (p.1,true))):=HT.out _ a9 (IX (Au (Ax _ _) _));have HBx:Hid (Below tb w ((W1.setCell ⟨tb,1,none⟩ (.int .u64 (fb2:Nat))).drew)):=(b0.setCell (p:=⟨tb,1,none⟩) (A3 _) _).drew;clear a9 HT;go_wp2_with fail;go_region
 go_end0
 exact⟨⟨_,rfl⟩,HTx.out,HBx.out,λbase u ss q1 q2=>Gu (HO.out base u ss q1 q2) (IX (Au (Ax _ _) _)) q2⟩
end
section
open Go Go.RowKit Go.Shelf
attribute [local go_sem] Oper.semAt_some
end
section
open Go.RowKit
end
section
open Go.RowKit Go.Shelf
theorem Zs(sa sb:List BA)(n m:Nat)(a1 a2:Option Addr)(c1 c2:Nat)(w:World)(Hn:Hid (sa.length=n))(Hm:Hid (sb.length=m))(hn9:n<=maxLen)(hpa:0<n->∃b o,a1=some ⟨b,o,none⟩/\G0 w b o sa/\b<w.heap.size)(hpb:0<m->∃b o,a2=some ⟨b,o,none⟩/\G0 w b o sb/\b<w.heap.size):
  cU prog 83 #[Vz a1 n c1,Vz a2 m c2] w (.bool (pB (sa=sb))):=by
 unfold maxLen at hn9;by_cases hll:n=m
 case neg =>
  have HN:Hid (pB (sa=sb)=false):=F3 λe=>hll (by rw[← Hn.out,← Hm.out,e]);delta cU;go_in;go_wp2_with fail;go_ret;exact⟨D4 HN.out.symm,A4 _ _⟩
 subst hll;delta cU;go_in;go_wp2_with fail;(try dsimp only[Iz,Sy,Sx,Nz,Vz,Tz,Ez,Pz]);go_loopw [5,13] (λ_ i w'=>∃k:Nat,k<=n/\i=.int .i64 k/\(∀i,i<k->sa[i]?=sb[i]?)/\Up w w') (λ_ i _=>n-(intOf i).toNat)
 case atStart=>exact⟨0,oM,rfl,λi hi=>oM,A4 _ _⟩
 case round =>
  obtain⟨k,hk,rfl,a0,hB⟩:=hrel;have Hal:Hid (∀i,i<k->sa[i]?=sb[i]?):=a0;clear a0;by_cases hp:k<n
  .obtain⟨b1,o1,rfl,a3,a5⟩:=hpa oM;obtain⟨b2,o2,rfl,a4,a6⟩:=hpb oM;have h1:k<sa.length:=by have:=Hn.out;omega
   have h2:k<sb.length:=by have:=Hm.out;omega
   have e1:=(hB.cell (p:=⟨b1,o1+k,none⟩) a5).trans (a3 k sa[k] (A0 h1));have e2:=(hB.cell (p:=⟨b2,o2+k,none⟩) a6).trans (a4 k sb[k] (A0 h2))
   have N1:Hid (((sa[k]).toList==(sb[k]).toList)=false->¬sa=sb):=λhq e=>by
    subst e;simp at hq
   have N2:Hid (((sa[k]).toList==(sb[k]).toList)=true->∀i,i<k+1->sa[i]?=sb[i]?):=λhq i hi=>by
    rcases Nat.lt_or_ge i k with h'|h'
    .exact Hal.out i h'
    .obtain rfl:i=k:=oM
     have e:sa[i]=sb[i]:=FN (by simpa using hq);rw[A0 h1,A0 h2,e]
   generalize sa[k]=s1 at *;generalize sb[k]=s2 at *;clear a3 a4;cases hq:(s1.toList==s2.toList)
   .have HN:Hid (pB (sa=sb)=false):=F3 (N1.out hq);go_wp2_with fail;go_quiet (fail);go_wp2_with fail;go_ret;exact⟨D4 HN.out.symm,E5 hB _⟩
   .have HY:Hid (∀i,i<k+1->sa[i]?=sb[i]?):=N2.out hq;go_wp2_with fail;go_quiet (fail);go_wp2_with fail;go_roundw
    case rel=>exact⟨k+1,oM,mO,HY.out,E5 hB _⟩
    case measure=>simp[intOf];omega
  .have HY:Hid (pB (sa=sb)=true):=M5 (List.ext_getElem? λi=>by
    by_cases hi:i<k
    .exact Hal.out i hi
    .rw[C6 (by have:=Hn.out;omega),C6 (by have:=Hm.out;omega)])
   go_wp2_with fail;go_ret;exact⟨D4 HY.out.symm,hB⟩
theorem MV(sa sb:List BA)(va vb:Value)(w:World)(ha:Ls w va sa)(hb:Ls w vb sb):
  cU prog 83 #[va,vb] w (.bool (pB (sa=sb))):=by
 obtain⟨a1,c1,rfl,a0,-,a3⟩:=ha;obtain⟨a2,c2,rfl,-,-,a4⟩:=hb;exact Zs sa sb _ _ a1 a2 c1 c2 w rfl rfl a0 a3 a4
theorem Zt(sa sb:List BA)(n m:Nat)(a1 a2:Option Addr)(c1 c2:Nat)(w:World)(Hn:Hid (sa.length=n))(Hm:Hid (sb.length=m))(hn9:n<=maxLen)(hpa:0<n->∃b o,a1=some ⟨b,o,none⟩/\G0 w b o sa/\b<w.heap.size)(hpb:0<m->∃b o,a2=some ⟨b,o,none⟩/\G0 w b o sb/\b<w.heap.size):
  cU prog 86 #[Vz a1 n c1,Vz a2 m c2] w (.bool (pB (sa=sb))):=by
 unfold maxLen at hn9;by_cases hll:n=m
 case neg =>
  have HN:Hid (pB (sa=sb)=false):=F3 λe=>hll (by rw[← Hn.out,← Hm.out,e]);delta cU;go_in;go_wp2_with fail;go_ret;exact⟨D4 HN.out.symm,A4 _ _⟩
 subst hll;delta cU;go_in;go_wp2_with fail;(try dsimp only[Iz,Sy,Sx,Nz,Vz,Tz,Ez,Pz]);go_loopw [5,13] (λ_ i w'=>∃k:Nat,k<=n/\i=.int .i64 k/\(∀i,i<k->sa[i]?=sb[i]?)/\Up w w') (λ_ i _=>n-(intOf i).toNat)
 case atStart=>exact⟨0,oM,rfl,λi hi=>oM,A4 _ _⟩
 case round =>
  obtain⟨k,hk,rfl,a0,hB⟩:=hrel;have Hal:Hid (∀i,i<k->sa[i]?=sb[i]?):=a0;clear a0;by_cases hp:k<n
  .obtain⟨b1,o1,rfl,a3,a5⟩:=hpa oM;obtain⟨b2,o2,rfl,a4,a6⟩:=hpb oM;have h1:k<sa.length:=by have:=Hn.out;omega
   have h2:k<sb.length:=by have:=Hm.out;omega
   have e1:=(hB.cell (p:=⟨b1,o1+k,none⟩) a5).trans (a3 k sa[k] (A0 h1));have e2:=(hB.cell (p:=⟨b2,o2+k,none⟩) a6).trans (a4 k sb[k] (A0 h2))
   have N1:Hid (((sa[k]).toList==(sb[k]).toList)=false->¬sa=sb):=λhq e=>by
    subst e;simp at hq
   have N2:Hid (((sa[k]).toList==(sb[k]).toList)=true->∀i,i<k+1->sa[i]?=sb[i]?):=λhq i hi=>by
    rcases Nat.lt_or_ge i k with h'|h'
    .exact Hal.out i h'
    .obtain rfl:i=k:=oM
     have e:sa[i]=sb[i]:=FN (by simpa using hq);rw[A0 h1,A0 h2,e]
   generalize sa[k]=s1 at *;generalize sb[k]=s2 at *;clear a3 a4;cases hq:(s1.toList==s2.toList)
   .have HN:Hid (pB (sa=sb)=false):=F3 (N1.out hq);go_wp2_with fail;go_quiet (fail);go_wp2_with fail;go_ret;exact⟨D4 HN.out.symm,E5 hB _⟩
   .have HY:Hid (∀i,i<k+1->sa[i]?=sb[i]?):=N2.out hq;go_wp2_with fail;go_quiet (fail);go_wp2_with fail;go_roundw
    case rel=>exact⟨k+1,oM,mO,HY.out,E5 hB _⟩
    case measure=>simp[intOf];omega
  .have HY:Hid (pB (sa=sb)=true):=M5 (List.ext_getElem? λi=>by
    by_cases hi:i<k
    .exact Hal.out i hi
    .rw[C6 (by have:=Hn.out;omega),C6 (by have:=Hm.out;omega)])
   go_wp2_with fail;go_ret;exact⟨D4 HY.out.symm,hB⟩
theorem WV(sa sb:List BA)(va vb:Value)(w:World)(ha:Ls w va sa)(hb:Ls w vb sb):
  cU prog 86 #[va,vb] w (.bool (pB (sa=sb))):=by
 obtain⟨a1,c1,rfl,a0,-,a3⟩:=ha;obtain⟨a2,c2,rfl,-,-,a4⟩:=hb;exact Zt sa sb _ _ a1 a2 c1 c2 w rfl rfl a0 a3 a4
section
open Go.Sort
theorem RT(n:Nat)(w:World)(hn:n<4611686018427387904):Calls prog 134 #[.int .u64 (n:Int)] w λe w'=>e=.returned (Iz (bitsLen n:Nat))/\w'=w :=
 calls_of_every_depth λD=>Any.lenWalkInSAll (ρ:=Tryz.lays190_ren) {Tryz.lays190 with} D n w hn
theorem Ab4(g cap:Nat)(ks:List T6)(w:World)(hH:Holds encStr w g 0 ks.toArray)(hg:g<w.heap.size)(hn:ks.length<=1000):
  Calls prog 133 #[Sy g ks.length cap,Iz 0,Iz (ks.length:Nat),Iz (bitsLen ks.length:Nat)] w λe w'=>e=.returned (.tuple #[])/\∃n os,w'=grow (putRow encStr (Sort.ahead w n) g 0 (ks.mergeSort λx y=>decide (x<=y)).toArray) os:=by
 have hk:bitsLen ks.length<=62:=(bitsLen_le_iff ks.length 62).2 oM;have a0:=pdqDepth_le_59 ltStr ks.toArray 0 ks.length (bitsLen ks.length) true true oM;have h:=calls_of_every_depth λD=>(Any.pdqWalkInStr (ρ:=Tryz.lays190_ren) {Tryz.lays190 with} D) 65 g 0 cap 0 ks.length (bitsLen ks.length) ks.toArray w oM hH hg (Nat.zero_le _) dC gG oM (Or.inl rfl)
 have e:Sort.pdq ltStr ks.toArray 0 ks.length (bitsLen ks.length) true true=(ks.mergeSort λx y=>decide (x<=y)).toArray:=by
  rw[← Any.sort_str_eqD];simp[Sort.sort]
 rw[e] at h;have h3:Calls prog 133 _ _ _:=h;simpa using h3
theorem Zu(g cap:Nat)(ks:List T6)(w:World)(hH:Holds encStr w g 0 ks.toArray)(hg:g<w.heap.size)(hn:ks.length<=1000):
  Calls prog 82 #[Sy g ks.length cap] w λe w'=>e=.returned (.tuple #[])/\∃n os,w'=grow (putRow encStr (Sort.ahead w n) g 0 (ks.mergeSort λx y=>decide (x<=y)).toArray) os:=by
 have HH:Hid (Holds encStr w g 0 ks.toArray):=hH;clear hH;go_in
 go_wp2_with (first
  | (go_at_call 134;refine Swz (RT ks.length _ oM) ?_)
  | (go_at_call 133;refine (Ab4 g cap ks _ HH.out hg hn).mono ?_;rintro e w' ⟨rfl,n,os,rfl⟩))
 go_end0
 exact⟨rfl,n,os,rfl⟩
theorem WW(p:Option Addr)(cap:Nat)(w:World):
  cE prog 82 #[Vz p 0 cap] w (.tuple #[]):=by
 have hl:=λw=>RT 0 w oM;have e0:bitsLen 0=0:=aS
 rw[e0] at hl;delta cE;go_in
 go_wp2_with (first
  | (go_at_call 134;refine Swz (hl _) ?_)
  | (go_at_call 133;refine Swz (calls_of_every_depth λD=>AnyS.pdqsort_string_none_in (ρ:=Tryz.lays190_ren) {Tryz.lays190 with} D p cap w) ?_))
 go_end0
 exact⟨rfl,rfl⟩
end
end
section
def AiZ:Bk:=⟨[],[]⟩
theorem Aak{α:Type}(p:α->Bool):∀(l:List α)(k:Nat),k<=l.length->(∀j x,j<k->l[j]?=some x->p x=true)->(∀x,l[k]?=some x->p x=false)->(l.takeWhile p).length=k
 | [],k,hk,_,_=>by simp at hk;subst hk;rfl
 | x::r,0,_,_,h2=>by
  simp_all
 | x::r,k+1,hk,h1,h2=>by
  rw[List.takeWhile_cons,h1 0 x oM dC];simp only[if_true,List.length_cons];rw[Aak p r k (by simpa using hk) (λj y hj hy=>h1 (j+1) y oM (by simpa using hy)) (λy hy=>h2 y (by simpa using hy))]
end
section
open Go.RowKit
def X4(ps:List Ph)(nm:BA):Int:=if M3 ps=true then O4 P5 S2 0 ps nm else 0
theorem SU(ps:List Ph)(b o c:Nat)(nm:BA)(w:World)(hE:F6 w)(hr:G4 w b o ps)(hb:b<w.heap.size)(hs:Dz ps)(hcap:ps.length<=c)(hc9:c<=9223372036854775807):
  cU prog 147 #[Sx b o ps.length c,Tz nm] w (Iz (X4 ps nm)):=by
 have HE:Hid (F6 w):=hE;clear hE;cases hok:M3 ps
 .delta cU;go_in;go_wp2_with (go_at_call 135;refine (Dr _ _ _ _ _ HE.out hr hb hs hcap hc9).mono ?_;rintro e w1 ⟨rfl,a1⟩;obtain⟨hB,hc,hf⟩:=gr a1)
  go_ret;exact⟨K8 (by simp[X4,hok]),hB⟩
 .have a6:ps.length<=12:=((J2 ps).1 hok).2.1
  have HV:Hid (X4 ps nm=look (fill P5 S2 0 ps) nm 0):=by
   show _=_
   have hd:=EA hok 0;rw[List.drop_zero] at hd;simp only[X4,hok,if_true,Do P5 S2 0 ps hd]
  have a0:(fill P5 S2 0 ps).length<=1048576:=by rw[Dc];omega
  delta cU;go_in;go_wp2_with (go_at_call 135;refine (Dr _ _ _ _ _ HE.out hr hb hs hcap hc9).mono ?_;rintro e w1 ⟨rfl,a1⟩;obtain⟨hB,hc,hf⟩:=gr a1)
  refine (ZM ps _ _ _ _ (HE.out.up hB) (hr.up hB hb) (A1 hb hB.size) hok).mono ?_;rintro e w2 ⟨⟨g,a7,rfl,hT⟩,a4⟩;have a2:=D3 hB a4;clear hc hf;go_wp2_with fail;refine (VO _ _ _ _ _ hT a0).mono ?_;rintro e w3 ⟨rfl,a5⟩;have a3:=D3 a2 a5;go_wp2_with fail;go_ret;exact⟨K8 HV.out.symm,a3⟩
theorem Us(ps:List Ph)(b o c:Nat)(hok:M3 ps=true)(f:Nat):∀(nm:BA)(w:World),G4 w b o ps->(M6 ps nm<0\/(ps.length:Int)<=M6 ps nm+f)->
  cE prog 37 #[Sx b o ps.length c,Tz nm] w (Iz (O4 P5 S2 0 ps nm)):=by
 have a2:ps.length<=12:=((J2 ps).1 hok).2.1;have hn:ps.length<=1048576:=oM
 induction f with
 | zero =>
  intro nm w hr hf;have a1:=MB ps nm;have h0:M6 ps nm<0:=oM
  have HV:Hid (O4 P5 S2 0 ps nm=0):=by show _=_;rw[NU ps _ _ _ nm h0];simp[P5]
  delta cE;go_in;go_wp2_with (go_at_call 72;refine Swz (Y7 _ _ _ _ _ _ hr hn) ?_)
  go_ret;exact⟨K8 HV.out.symm,rfl⟩
 | succ f ih =>
  intro nm w hr hf;have a1:=MB ps nm;by_cases h0:M6 ps nm<0
  .have HV:Hid (O4 P5 S2 0 ps nm=0):=by show _=_;rw[NU ps _ _ _ nm h0];simp[P5]
   delta cE;go_in;go_wp2_with (go_at_call 72;refine Swz (Y7 _ _ _ _ _ _ hr hn) ?_)
   go_ret;exact⟨K8 HV.out.symm,rfl⟩
  .obtain⟨k,a0⟩:∃k:Nat,M6 ps nm=(k:Int):=⟨(M6 ps nm).toNat,oM⟩;have hk:k<ps.length:=oM
   obtain⟨g1,g2⟩:=NT hok hk;have hd:=DR hok;have b1:=EM ps hd (ps[k]).t;have b2:=EM ps hd (ps[k]).e;have hw:=hd ps[k] dC;have HV:Hid (O4 P5 S2 0 ps nm=S2 ps[k] (O4 P5 S2 0 ps (ps[k]).t) (O4 P5 S2 0 ps (ps[k]).e)):=QU hok P5 S2 0 nm hk a0
   have I1:Hid (∀w,G4 w b o ps->Calls prog 37 #[Sx b o ps.length c,Tz (ps[k]).t] w λe w'=>e=.returned (Iz (O4 P5 S2 0 ps (ps[k]).t))/\w'=w):=by
    show _;intro w hr;exact ih _ w hr (by have:=Gx hok hk _ g1;omega)
   have I2:Hid (∀w,G4 w b o ps->Calls prog 37 #[Sx b o ps.length c,Tz (ps[k]).e] w λe w'=>e=.returned (Iz (O4 P5 S2 0 ps (ps[k]).e))/\w'=w):=by
    show _;intro w hr;exact ih _ w hr (by have:=Gx hok hk _ g2;omega)
   obtain⟨c0,c1,c2,c3,c4,c5,c6,c7⟩:=hr.cells k hk;have HA:Hid (M6 ps nm=(k:Int)):=a0
   have H5:∀w,G4 w b o ps->Calls prog 72 #[Sx b o ps.length c,Tz nm] w λe w'=>e=.returned (Iz (k:Int))/\w'=w:=λw hr=>by
    rw[← a0];exact Y7 _ _ _ _ _ _ hr hn
   have HH5:Hid (∀w,G4 w b o ps->Calls prog 72 #[Sx b o ps.length c,Tz nm] w λe w'=>e=.returned (Iz (k:Int))/\w'=w):=H5;clear a0 hf a1 ih hd H5 h0;generalize hx:O4 P5 S2 0 ps (ps[k]).t=x at *;generalize hy:O4 P5 S2 0 ps (ps[k]).e=y at *;clear hx hy;delta cE;go_in;go_wp2_with fail;refine Swz (HH5.out _ hr) ?_;go_wp2_with fail;refine Swz (I1.out _ hr) ?_;go_wp2_with fail;refine Swz (I2.out _ hr) ?_;go_wp2_with fail
   all_goals
    go_ret;exact⟨K8 (by rw[HV.out,S2];omega),rfl⟩
end
end Go.Proofs.YtaffjphkobhagaaGreatDoor
