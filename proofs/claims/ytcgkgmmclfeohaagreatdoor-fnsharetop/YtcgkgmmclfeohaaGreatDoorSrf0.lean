/- A loop over a function, step by step: what a goroutine does, what it lists. -/
import Derived.Test.YtcgkgmmclfeohaaGreatDoorJ28
import Derived.RangeFuncRecord
import Derived.Conc.Walk
namespace Go.Proofs.YtcgkgmmclfeohaaGreatDoor
open Go.Conc
def Ew(l:Nat)(es:Array Event):Prop:=∀e∈es,e.loc=.obj l
theorem DH{P:Program}{f:FuncId}{es:Array Event}{l:Nat}(h:Ew l es):Ew l (seen P f es):=λe he=>h e (mem_seen he)
section
variable {P:Program} {l:Nat} {α β:Type}
def Ep(P:Program)(l:Nat)(q:Sem α):Prop:=∀w es,∀e∈q.events P w es,e∈es∨e.loc=.obj l
theorem BH(a:α):Ep P l (Pure.pure a:Sem α):=λ_ _ _ h=>.inl h
theorem Hh(k:Halt):Ep P l (Sem.halt k:Sem α):=λ_ _ _ h=>.inl h
theorem AV{q:Sem α}{f:α->Sem β}(h:Ep P l q)(hf:∀a,Ep P l (f a)):Ep P l (q >>= f):=λw es e he=>by
 have he:e∈((q.bind f).runT P w es).2:=he;rw[Sem.runT_bind'] at he;have hq:=h w es;unfold Sem.events at hq;generalize q.runT P w es=r at he hq;match r,he,hq with
 | (.ok a w1,e1),he,hq=>exact (hf a w1 e1 e he).elim (hq e) .inr
 | (.halt k w1,e1),he,hq=>exact hq e he
theorem UL{k:Obj->Sem α}(hk:∀o,Ep P l (k o)):Ep P l (Sem.getObj l k):=λw es e he=>by
 unfold Sem.events at he;simp only[Sem.runT] at he;split at he
 ·exact .inl he
 ·rcases hk _ _ _ e he with h|h
  ·rcases Array.mem_push.1 h with h|rfl
   ·exact .inl h
   ·exact .inr rfl
  ·exact .inr h
 ·exact .inl he
theorem Adj{o:Obj}{k:Sem α}(hk:Ep P l k):Ep P l (Sem.setObj l o k):=λw es e he=>by
 unfold Sem.events at he;simp only[Sem.runT] at he;split at he
 ·exact .inl he
 ·rcases hk _ _ e he with h|h
  ·rcases Array.mem_push.1 h with h|rfl
   ·exact .inl h
   ·exact .inr rfl
  ·exact .inr h
 ·exact .inl he
theorem TS{k:Program->Sem α}(hk:Ep P l (k P)):Ep P l (Sem.program k):=λw es e he=>hk w es e he
theorem PL(m:String):Ep P l (runtimePanic (.error m):Sem α):=TS (k:=λp=>goPanic (.iface p.rt.errorString (strVal m))) (Hh _)
theorem JJ:Ep P l (Instr.getLoop l):=by
 unfold Instr.getLoop;refine AV (UL λo=>BH o) λo=>?_;cases o<;>first|exact BH _|exact Hh _
theorem Hi(o:Obj):Ep P l (setObj l o):=Adj (BH ())
theorem AaM:Ep P l (getObj l):=UL λo=>BH o
theorem YK:Ep P l (Instr.beginRound l):=by
 unfold Instr.beginRound;refine AV JJ λr=>AV (Hi _) λ_=>?_;split<;>first|exact BH _|exact PL _
theorem So:Ep P l (Instr.endLoop l):=by
 unfold Instr.endLoop;refine AV JJ λr=>?_;split
 ·exact AV (PL _) λ_=>AV (Hi _) λ_=>BH _
 ·exact AV (Hi _) λ_=>BH _
theorem UM(j:Option Code):Ep P l (Instr.endRound l j):=AV JJ λ_=>AV (Hi _) λ_=>BH _
theorem AaN:Ep P l (Instr.takeDeferred l):=by
 unfold Instr.takeDeferred;refine AV AaM λo=>?_;cases o<;>first|exact Hh _|skip
 rename_i x;cases x<;>first|exact Hh _|exact AV (Hi _) λ_=>BH _
theorem YL(args:Array Value):Ep P l (Instr.yield l args):=by
 unfold Instr.yield;refine AV JJ λr=>?_;split
 ·exact AV (Hh _) λ_=>BH _
 ·exact BH _
theorem Hj{q:Sem α}(h:Ep P l q)(w:World):Ew l (q.events P w #[]):=λe he=>(h w #[] e he).elim (λh=>by simp at h) id
end
section
variable {P:Program} {main:Bool} {b:Frame} {a:Act} {k:List Item} {cs:List Frame} {w:World} {l:Nat}
theorem OK{x y:Code}:stepG P main (G (b.atR a (.code (.seq x y)::k)) cs) w=.go (G (b.atR a (.code x::.code y::k)) cs) w #[]:=by simp[G,stepG,stepG.exec,Frame.atR]
theorem Ff{id:Nat}{ops:Array Oper}:stepG P main (G (b.atR a (.code (.region id ops false)::k)) cs) w=.go (G (b.atR a (.inRegion ops (List.range ops.size)::k)) cs) w #[]:=by simp[G,stepG,stepG.exec,Frame.atR]
theorem CH{ops:Array Oper}:stepG P main (G (b.atR a (.inRegion ops []::k)) cs) w=.go (G (b.atR a k) cs) w #[]:=by simp[G,stepG,stepG.exec,Frame.atR]
theorem PM{id:Nat}{c:Code}:stepG P main (G (b.atR a (.code (.block id c)::k)) cs) w=.go (G (b.atR a (.code c::.inBlock id::k)) cs) w #[]:=by simp[G,stepG,stepG.exec,Frame.atR]
theorem TT{id:Nat}:stepG P main (G (b.atR a (.inBlock id::k)) cs) w=.go (G (b.atR a k) cs) w #[]:=by simp[G,stepG,stepG.exec,Frame.atR]
theorem AaO:stepG P main (G (b.atR a (.code .skip::k)) cs) w=.go (G (b.atR a k) cs) w #[]:=by simp[G,stepG,stepG.exec,Frame.atR]
theorem Sq{c:Operand}{x y:Code}{t:Bool}(h:a.eval c=.bool t):stepG P main (G (b.atR a (.code (.cond c x y)::k)) cs) w=.go (G (b.atR a (.code (if t then x else y)::k)) cs) w #[]:=by
 have he:=Frame.eval_atR b a (.code (.cond c x y)::k);simp only[Frame.atR] at he;simp[G,stepG,stepG.exec,Frame.atR,he,h]
theorem AaP{ops:Array Oper}{i:Nat}{rest:List Nat}{o:Oper}(ho:ops[i]?=some o)(hw:Region.wanted o (yielded ops a.tmps)=true)(hd:∀c,o.op≠.defer c):
  stepG P main (G (b.atR a (.inRegion ops (i::rest)::k)) cs) w=stepG.apply P true (b.atR a (.inRegion ops (i::rest)::k)) cs none (execOp a.eval o) w:=by
 have he:=Frame.eval_atR b a (.inRegion ops (i::rest)::k);simp only[Frame.atR] at he;simp only[G,stepG,stepG.exec,stepG.oper,Frame.oper?,Frame.atR,ho,Option.map_some,Option.getD_some,hw,if_true,he];cases b.roundOf with
 | none=>rfl
 | some l =>
  cases hop:o.op<;>first|rfl|exact absurd hop (hd _)
theorem Nl{ops:Array Oper}{i:Nat}{rest:List Nat}{o:Oper}(ho:ops[i]?=some o)(v:Value):(b.atR a (.inRegion ops (i::rest)::k)).finish v=b.atR (a.put o.dst v) (.inRegion ops rest::k):=by
 simp only[Frame.finish,Frame.atR,ho,Option.bind_some];cases o.dst<;>simp[Act.put]
theorem U4{ops:Array Oper}{i:Nat}{rest:List Nat}{o:Oper}{K:Goroutine->World->Array Event->Prop}
  (ho:ops[i]?=some o) (hw:Region.wanted o (yielded ops a.tmps)=true) (hk:b.kind≠.early) (hd:∀c,o.op≠.defer c)
  (h:∀K':Act->World->Prop,(∀a' w',K (G (b.atR a' (.inRegion ops rest::k)) cs) w' (listed P b.fn a o w)->K' a' w')->uponK o a K' ((execOp a.eval o).run P w)) :
  (stepG P main (G (b.atR a (.inRegion ops (i::rest)::k)) cs) w).goes K:=by
 have:=h (λa' w'=>K (G (b.atR a' (.inRegion ops rest::k)) cs) w' (listed P b.fn a o w)) (λ_ _ x=>x);have a0:(b.kind==CallKind.early)=false:=by simpa using hk
 generalize hr:(execOp a.eval o).run P w=r at this;rw[AaP ho hw hd];match r,this with
 | .ok (.value v) w',h =>
  have hf:=Nl (b:=b) (a:=a) (k:=k) (rest:=rest) ho v;simp only[uponK_value] at h;rw[← hf] at h;simpa [stepG.apply,hr,G,Frame.atR,a0,GStep.after,listed,GStep.goes] using h
 | .ok .skip w',h =>
  have hf:=Nl (b:=b) (a:=a) (k:=k) (rest:=rest) ho undef;simp only[uponK_skip] at h;rw[← hf] at h;simpa [stepG.apply,hr,G,Frame.atR,a0,GStep.after,listed,GStep.goes] using h
theorem PN(hb:b.roundOf=some l)(hk:b.kind=.normal){r:Loop}(h:w.heap[l]?=some (.loop r))(hr:r.state=.ready):
  ∃es,stepG P main (G (b.atR a (.beginRound::k)) cs) w=.go (G (b.atR a k) cs) (w.putObj l (.loop {r with state:=.busy})) es/\Ew l es:=by
 have a0:=run_beginRound (P:=P) h hr;refine⟨seen P b.fn ((do Instr.beginRound l;pure .skip:Sem Next).events P w #[]),?_,DH (Hj (AV YK λ_=>BH _) w)⟩;simp[G,stepG,stepG.exec,stepG.apply,Frame.atR,hb,hk,a0,GStep.after,Frame.finish,Result.andThen]
theorem Adk(hb:b.roundOf=some l)(hk:b.kind=.normal){r:Loop}(h:w.heap[l]?=some (.loop r)){c:Frame}:
  ∃es,stepG P main (G (b.atR a []) (c::cs)) w=.go (G (c.finish (.bool true)) cs) (w.putObj l (.loop {r with state:=.ready,pending:=none})) es/\Ew l es:=by
 have a0:=run_endRound (P:=P) none h;refine⟨seen P b.fn ((Instr.endRound l none).events P w #[]),?_,DH (Hj (UM none) w)⟩;simp at a0;simp[G,stepG,stepG.exec,Frame.atR,hb,hk,a0,GStep.after,doReturn]
theorem YM{r:Loop}(h:w.heap[l]?=some (.loop r))(hr:r.state≠.busy)(hp:r.pending=none):
  ∃es,stepG P main (G (b.at a (.endRangeFunc l::k)) cs) w=.go (G (b.at a k) cs) (w.putObj l (.loop {r with state:=.exhausted})) es/\Ew l es:=by
 have a0:=run_endLoop (P:=P) h hr;refine⟨seen P b.fn ((Instr.endLoop l).events P w #[]),?_,DH (Hj So w)⟩;simp[G,stepG,stepG.exec,Frame.at,a0,hp,GStep.after]
theorem Nm{todo:List Item}{ds:List Deferred}{args:Array Value}(h:w.heap[l]?=some (.deferred (some [])))(hd:a.defers={target:=.collected l,args}::ds):
  ∃es,stepG P main (G {b.at a todo with mode:=.returning} cs) w=.go (G {b.at {a with defers:=ds} todo with mode:=.returning} cs) (w.putObj l (.deferred none)) es/\Ew l es:=by
 have a0:=run_takeDeferred (P:=P) h;refine⟨seen P b.fn ((Instr.takeDeferred l).events P w #[]),?_,DH (Hj AaN w)⟩;simp[G,stepG,unwind,Frame.at,hd,a0,GStep.after]
theorem Nn{ops:Array Oper}{i:Nat}{rest:List Nat}{o:Oper}{x:Operand}{xs:Array Operand}{ats:Array TypeId}{vs:Array Value}{r:Loop}(ho:ops[i]?=some o)(hw:Region.wanted o (yielded ops a.tmps)=true)(hk:b.kind=.normal)
  (hop:o.op=.call {callee:=.value x,args:=xs,argTypes:=ats}) (hx:a.eval x=.func (.yield l) #[] #[]) (hv:xs.map a.eval=vs) (h:w.heap[l]?=some (.loop r)) (hs:vs.size=r.params.size) :
  ∃es,stepG P main (G (b.at a (.inRegion ops (i::rest)::k)) cs) w=.go (G (Frame.round l r.fn ((r.params.zip vs).foldl (λtmps (t,a)=>tmps.setIfInBounds t a) r.tmps) r.assign r.body .normal) (b.at a (.inRegion ops (i::rest)::k)::cs)) w es/\Ew l es:=by
 have a0:=run_yield (P:=P) h hs
 have he:execOp a.eval o=Instr.yield l vs:=by
  unfold execOp;rw[hop];simp[resolve,hx,hv,Deferred.ofValue,invoke]
 refine⟨seen P b.fn ((Instr.yield l vs).events P w #[]),?_,DH (Hj (YL vs) w)⟩;rw[stepG_oper ho hw,he];simp[stepG.apply,a0,G,Frame.at,hk,GStep.after]
theorem WB{f:Operand}{ps:Array Tmp}{ag bd:Code}{gf:FuncId}{lb:Array Value}{fn:Func}(hx:a.eval f=.func (.func gf) #[] lb)(hf:P.funcs[gf]?=some fn)(hn:(fn.name == "runtime.NumGoroutine")=false)(hb:fn.body.isNone=false)(hk:b.kind=.normal):
  stepG P main (G (b.at a (.code (.rangeFunc f ps ag bd)::k)) cs) w=.go (G (Frame.enter P gf (#[.func (.yield (w.heap.size+1)) #[] #[]]++lb) .normal) (b.at {a with defers:={target:=.collected w.heap.size,args:=#[]}::a.defers} (.inRangeFunc (w.heap.size+1)::k)::cs))
   ((w.alloc (.deferred (some []))).alloc (.loop {state:=.ready,pending:=none,fn:=b.fn,tmps:=a.tmps,params:=ps,assign:=ag,body:=bd,defers:=w.heap.size})) #[]:=by
 have a0:=run_enterLoop_outer (P:=P) (w:=w) b.fn a.tmps ps ag bd;have a2:(Instr.enterLoop b.fn a.tmps ps ag bd none).events P w #[]=#[]:=rfl;have a3:¬fn.name= "runtime.NumGoroutine":=by simpa using hn
 have a4:¬fn.body=none:=by cases hq:fn.body<;>simp_all
 have a5:∀(todo:List Item)(ds:List Deferred),Frame.eval {fn:=b.fn,tmps:=a.tmps,todo,defers:=ds,mode:=.run,kind:=.normal} f=.func (.func gf) #[] lb:=λtodo ds=>by
  rw[← hx];cases f<;>rfl
 have a1:∀(fr:Frame)(v:Value),fr.eval (.const v)=v:=λ_ _=>rfl;simp[G,stepG,stepG.exec,Frame.at,a0,a2,GStep.after,stepG.apply,resolve,a5,a1,Deferred.ofValue,invoke,callFunc,hf,a3,a4,hk,seen_none]
end
end Go.Proofs.YtcgkgmmclfeohaaGreatDoor
