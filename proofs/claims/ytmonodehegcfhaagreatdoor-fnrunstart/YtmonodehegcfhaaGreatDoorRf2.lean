/- A loop over a function whose body may return, and whose function may end by itself. -/
import Derived.Test.YtmonodehegcfhaaGreatDoorRf
namespace Go.Proofs.YtmonodehegcfhaaGreatDoor
open Go Go.RowKit
variable {F:Fence} {m:Nat} {P:Program}
def TO(l:Nat)(r:Loop)(R:Ending->World->Prop):Exit->Act->World->Prop
 | .normal,_,W=>W.heap[l]?=some (.loop {r with state:=.busy})/\R (.returned (.bool true)) (W.putObj l (.loop {r with state:=.ready,pending:=none}))
 | .ret,_,W=>W.heap[l]?=some (.loop {r with state:=.busy})/\R (.returned (.bool false)) (W.putObj l (.loop {r with state:=.done,pending:=some .ret}))
 | _,_,_=>False
theorem Qm{l:Nat}{r:Loop}{args:Array Value}{W:World}{R:Ending->World->Prop}{ag bd:Code}{ps:Array Tmp}{tm:Array Value}(hl:W.heap[l]?=some (.loop r))(hr:r.state=.ready)
  (ha:r.assign=ag) (hb:r.body=bd) (hp:r.params=ps) (ht:r.tmps=tm) (hs:args.size=ps.size) (hF:F.fn r.fn)
  (h:ag.wpIn (F.inRound l) m P (Exit.then (λa₁ W₁=>W₁.heap[l]?=some (.loop r)/\bd.wpIn (F.inRound l) m P (TO l r R) a₁ (W₁.putObj l (.loop {r with state:=.busy}))) (λ_ _ _=>False))
   {tmps:=(ps.zip args).foldl (λt (p,v)=>t.setIfInBounds p v) tm,defers:=[]} W) :
  YieldAt F m P l args W R:=by
 subst ha hb hp ht;refine⟨r.fn,_,r.assign,r.body,run_yield hl hs,roundIn_of_wpIn hF (wpIn_mono h ?_)⟩;rintro e a W1 hq;cases e with
 | normal =>
  obtain⟨h1,h2⟩:=hq;refine⟨_,run_beginRound h1 hr,wpIn_mono h2 ?_⟩;rintro e a W3 hq;cases e with
  | normal=>obtain⟨h1,h2⟩:=hq;exact⟨_,_,run_endRound none h1,h2⟩
  | ret=>obtain⟨h1,h2⟩:=hq;exact⟨_,_,run_endRound (some .ret) h1,h2⟩
  | exit id=>exact hq.elim
  | goto t=>exact hq.elim
  | panic c=>exact hq.elim
  | outgrown=>exact hq.elim
 | exit id=>exact hq.elim
 | ret=>exact hq.elim
 | goto t=>exact hq.elim
 | panic c=>exact hq.elim
 | outgrown=>exact hq.elim
theorem Qn{g:Operand}{ps:Array Tmp}{assign body:Code}{Q:Exit->Act->World->Prop}{a:Act}{w:World}
  (hro:F.round=none) (h1:1<=m) {gf:Nat} {lb:Array Value} (hg:a.eval g=.func (.func gf) #[] lb) (hFg:F.fn gf) (eg:∀args w,(callFunc gf args).run P w=.ok (.enter gf args) w)
  (h:∀(fn:FuncId)(lp:Loop),F.fn fn->lp=RX a w fn ps assign body->CallsIn F (m-1) P gf (#[.func (.yield (w.heap.size+1)) #[] #[]]++lb)
   ((w.alloc (.deferred (some []))).alloc (.loop lp)) λe W=>(∃v,e=.returned v)/\
    ((W.heap[w.heap.size+1]?=some (.loop {lp with state:=.done,pending:=some .ret})/\
     (Code.ret).wpIn F m P Q {a with defers:={target:=.collected w.heap.size,args:=#[]}::a.defers} (W.putObj (w.heap.size+1) (.loop {lp with state:=.exhausted,pending:=some .ret})))∨
      (W.heap[w.heap.size+1]?=some (.loop lp)/\Q .normal {a with defers:={target:=.collected w.heap.size,args:=#[]}::a.defers} (W.putObj (w.heap.size+1) (.loop {lp with state:=.exhausted,pending:=none}))))) :
  (Code.rangeFunc g ps assign body).wpIn F m P Q a w:=by
 refine wpIn_rangeFunc ?_;intro fn hfn;rw[hro];have h':=h fn _ hfn rfl;obtain⟨lp,a0⟩:∃lp,RX a w fn ps assign body=lp:=⟨_,rfl⟩;rw[a0] at h';obtain⟨W1,a2⟩:∃W1,(w.alloc (.deferred (some []))).alloc (.loop lp)=W1:=⟨_,rfl⟩;rw[a2] at h'
 have he:(Instr.enterLoop fn a.tmps ps assign body none).run P w=.ok (w.heap.size+1,[{target:=.collected w.heap.size,args:=#[]}]) W1:=by
  rw[← a2,← a0];exact run_enterLoop_outer _ _ _ _ _
 refine⟨w.heap.size+1,[{target:=.collected w.heap.size,args:=#[]}],W1,{target:=.fn (.func gf) lb,args:=#[.func (.yield (w.heap.size+1)) #[] #[]]},W1,gf,
  #[.func (.yield (w.heap.size+1)) #[] #[]]++lb,W1,he,?_,?_,?_,λ_=>h1,?_⟩
 ·simp only[resolve,hg];simp[go_sem]
 ·intro f' hf';simp[Target.leads] at hf';subst hf';exact hFg
 ·simp[invoke,go_sem,eg]
 ·refine h'.mono ?_;rintro e W ⟨⟨v,rfl⟩,⟨hl,hw⟩|⟨hl,hw⟩⟩
  ·exact⟨some .ret,_,run_endLoop hl (by simp),hw⟩
  ·have a1:lp.state=.ready/\lp.pending=none:=by rw[← a0];exact⟨rfl,rfl⟩
   refine⟨none,_,by rw[← a1.2];exact run_endLoop hl (by rw[a1.1];simp),?_⟩;have e:({lp with state:=.exhausted}:Loop)={lp with state:=.exhausted,pending:=none}:=by rw[← a1.2]
   rw[e];exact hw
end Go.Proofs.YtmonodehegcfhaaGreatDoor
