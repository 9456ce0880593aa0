/- A loop over a function, step by step: what a goroutine does, what it lists. -/
import Derived.Test.YtaffjphkobhagaaGreatDoorJ21
import Derived.RangeFuncRecord
namespace Go.Proofs.YtaffjphkobhagaaGreatDoor
open Go.Conc
variable{es:Array Event}{ops:Array Oper}{args lb:Array Value}{c:Frame}{fn:Func}{gf:FuncId}{todo:List Item}{r:Loop}{i:Nat}{o:Oper}{f:Operand}
def DG(l:Nat)(es:Array Event):Prop:=∀e∈es,e.loc=.obj l
theorem Ck{P:Program}{f:FuncId}{l:Nat}(h:DG l es):DG l (seen P f es):=λe he=>h e (mem_seen he)
section
variable {P:Program} {l:Nat} {α β:Type}
def CO(P:Program)(l:Nat)(q:Sem α):Prop:=∀w es,∀e∈q.events P w es,e∈es\/e.loc=.obj l
theorem Z4(a:α):CO P l (Pure.pure a:Sem α):=λ_ _ _ h=>.inl h
theorem FT(k:Halt):CO P l (Sem.halt k:Sem α):=λ_ _ _ h=>.inl h
theorem U3{q:Sem α}{f:α->Sem β}(h:CO P l q)(hf:∀a,CO P l (f a)):CO P l (q >>= f):=λw es e he=>by
 have he:e∈((q.bind f).runT P w es).2:=he;rw[Sem.runT_bind'] at he;have hq:=h w es;unfold Sem.events at hq;generalize q.runT P w es=r at he hq;match r,he,hq with
 | (.ok a w1,e1),he,hq=>exact (hf a w1 e1 e he).elim (hq e) .inr
 | (.halt k w1,e1),he,hq=>exact hq e he
theorem Vt{k:Obj->Sem α}(hk:∀o,CO P l (k o)):CO P l (Sem.getObj l k):=λw es e he=>by
 unfold Sem.events at he;simp only[Sem.runT] at he;split at he
 .exact .inl he
 .rcases hk _ _ _ e he with h|h
  .grind
  .exact .inr h
 .exact .inl he
theorem AdK{o:Obj}{k:Sem α}(hk:CO P l k):CO P l (Sem.setObj l o k):=λw es e he=>by
 unfold Sem.events at he;simp only[Sem.runT] at he;split at he
 .exact .inl he
 .rcases hk _ _ e he with h|h
  .grind
  .exact .inr h
 .exact .inl he
theorem Uj{k:Program->Sem α}(hk:CO P l (k P)):CO P l (Sem.program k):=λw es e he=>hk w es e he
theorem Pe(m:String):CO P l (runtimePanic (.error m):Sem α):=Uj (k:=λp=>goPanic (.iface p.rt.errorString (strVal m))) (FT _)
theorem Jp:CO P l (Instr.getLoop l):=by
 unfold Instr.getLoop;refine U3 (Vt λo=>Z4 o) λo=>?_;cases o<;>first|exact Z4 _|exact FT _
theorem FU(o:Obj):CO P l (setObj l o):=AdK (Z4 ())
theorem Abw:CO P l (getObj l):=Vt λo=>Z4 o
theorem Zl:CO P l (Instr.beginRound l):=by
 unfold Instr.beginRound;refine U3 Jp λr=>U3 (FU _) λ_=>?_;split<;>first|exact Z4 _|exact Pe _
theorem RL:CO P l (Instr.endLoop l):=by
 unfold Instr.endLoop;refine U3 Jp λr=>?_;split
 .exact U3 (Pe _) λ_=>U3 (FU _) λ_=>Z4 _
 .exact U3 (FU _) λ_=>Z4 _
theorem Vu(j:Option Code):CO P l (Instr.endRound l j):=U3 Jp λ_=>U3 (FU _) λ_=>Z4 _
theorem Abx:CO P l (Instr.takeDeferred l):=by
 unfold Instr.takeDeferred;refine U3 Abw λo=>?_;cases o<;>first|exact FT _|skip
 rename_i x;cases x<;>first|exact FT _|exact U3 (FU _) λ_=>Z4 _
theorem Zm(args:Array Value):CO P l (Instr.yield l args):=by
 unfold Instr.yield;refine U3 Jp λr=>?_;split
 .exact U3 (FT _) λ_=>Z4 _
 .exact Z4 _
theorem FV{q:Sem α}(h:CO P l q)(w:World):DG l (q.events P w #[]):=λe he=>(h w #[] e he).elim (λh=>by simp at h) id
end
section
variable {P:Program} {main:Bool} {b:Frame} {a:Act} {k:List Item} {cs:List Frame} {w:World} {l:Nat}
theorem Zn(hb:b.roundOf=some l)(hk:b.kind=.normal)(h:w.heap[l]?=some (.loop r))(hr:r.state=.ready):
  ∃es,stepG P main (G (b.atR a (.beginRound::k)) cs) w=.go (G (b.atR a k) cs) (w.putObj l (.loop {r with state:=.busy})) es/\DG l es:=by
 have a0:=run_beginRound (P:=P) h hr;refine⟨seen P b.fn ((do Instr.beginRound l;pure .skip:Sem Next).events P w #[]),?_,Ck (FV (U3 Zl λ_=>Z4 _) w)⟩;simp[G,stepG,stepG.exec,stepG.apply,Frame.atR,hb,hk,a0,GStep.after,Frame.finish,Result.andThen]
theorem AdL(hb:b.roundOf=some l)(hk:b.kind=.normal)(h:w.heap[l]?=some (.loop r)):
  ∃es,stepG P main (G (b.atR a []) (c::cs)) w=.go (G (c.finish (.bool true)) cs) (w.putObj l (.loop {r with state:=.ready,pending:=none})) es/\DG l es:=by
 have a0:=run_endRound (P:=P) none h;refine⟨seen P b.fn ((Instr.endRound l none).events P w #[]),?_,Ck (FV (Vu none) w)⟩;simp at a0;simp[G,stepG,stepG.exec,Frame.atR,hb,hk,a0,GStep.after,doReturn]
theorem Zo(h:w.heap[l]?=some (.loop r))(hr:r.state≠.busy)(hp:r.pending=none):
  ∃es,stepG P main (G (b.at a (.endRangeFunc l::k)) cs) w=.go (G (b.at a k) cs) (w.putObj l (.loop {r with state:=.exhausted})) es/\DG l es:=by
 have a0:=run_endLoop (P:=P) h hr;refine⟨seen P b.fn ((Instr.endLoop l).events P w #[]),?_,Ck (FV RL w)⟩;simp[G,stepG,stepG.exec,Frame.at,a0,hp,GStep.after]
theorem WN{ds:List Deferred}(h:w.heap[l]?=some (.deferred (some [])))(hd:a.defers={target:=.collected l,args}::ds):
  ∃es,stepG P main (G {b.at a todo with mode:=.returning} cs) w=.go (G {b.at {a with defers:=ds} todo with mode:=.returning} cs) (w.putObj l (.deferred none)) es/\DG l es:=by
 have a0:=run_takeDeferred (P:=P) h;refine⟨seen P b.fn ((Instr.takeDeferred l).events P w #[]),?_,Ck (FV Abx w)⟩;simp[G,stepG,unwind,Frame.at,hd,a0,GStep.after]
theorem WO{rest:List Nat}{x:Operand}{xs:Array Operand}{ats:Array TypeId}{vs:Array Value}{r:Loop}(ho:ops[i]?=some o)(hw:Region.wanted o (yielded ops a.tmps)=true)(hk:b.kind=.normal)
  (hop:o.op=.call {callee:=.value x,args:=xs,argTypes:=ats}) (hx:a.eval x=.func (.yield l) #[] #[]) (hv:xs.map a.eval=vs) (h:w.heap[l]?=some (.loop r)) (hs:vs.size=r.params.size) :
  ∃es,stepG P main (G (b.at a (.inRegion ops (i::rest)::k)) cs) w=.go (G (Frame.round l r.fn ((r.params.zip vs).foldl (λtmps (t,a)=>tmps.setIfInBounds t a) r.tmps) r.assign r.body .normal) (b.at a (.inRegion ops (i::rest)::k)::cs)) w es/\DG l es:=by
 have a0:=run_yield (P:=P) h hs
 have he:execOp a.eval o=Instr.yield l vs:=by
  unfold execOp;rw[hop];simp[resolve,hx,hv,Deferred.ofValue,invoke]
 refine⟨seen P b.fn ((Instr.yield l vs).events P w #[]),?_,Ck (FV (Zm vs) w)⟩;rw[stepG_oper ho hw,he];simp[stepG.apply,a0,G,Frame.at,hk,GStep.after]
theorem WP{ps:Array Tmp}{ag bd:Code}(hx:a.eval f=.func (.func gf) #[] lb)(hf:P.funcs[gf]?=some fn)(hn:(fn.name == "runtime.NumGoroutine")=false)(hb:fn.body.isNone=false)(hk:b.kind=.normal):
  stepG P main (G (b.at a (.code (.rangeFunc f ps ag bd)::k)) cs) w=.go (G (Frame.enter P gf (#[.func (.yield (w.heap.size+1)) #[] #[]]++lb) .normal) (b.at {a with defers:={target:=.collected w.heap.size,args:=#[]}::a.defers} (.inRangeFunc (w.heap.size+1)::k)::cs))
   ((w.alloc (.deferred (some []))).alloc (.loop {state:=.ready,pending:=none,fn:=b.fn,tmps:=a.tmps,params:=ps,assign:=ag,body:=bd,defers:=w.heap.size})) #[]:=by
 have a0:=run_enterLoop_outer (P:=P) (w:=w) b.fn a.tmps ps ag bd;have a2:(Instr.enterLoop b.fn a.tmps ps ag bd none).events P w #[]=#[]:=rfl;have a3:¬fn.name= "runtime.NumGoroutine":=by simpa using hn
 have a4:¬fn.body=none:=by cases hq:fn.body<;>simp_all
 have a5:∀(todo:List Item)(ds:List Deferred),Frame.eval {fn:=b.fn,tmps:=a.tmps,todo,defers:=ds,mode:=.run,kind:=.normal} f=.func (.func gf) #[] lb:=λtodo ds=>by
  rw[← hx];cases f<;>rfl
 have a1:∀(fr:Frame)(v:Value),fr.eval (.const v)=v:=λ_ _=>rfl;simp[G,stepG,stepG.exec,Frame.at,a0,a2,GStep.after,stepG.apply,resolve,a5,a1,Deferred.ofValue,invoke,callFunc,hf,a3,a4,hk,seen_none]
end
end Go.Proofs.YtaffjphkobhagaaGreatDoor
