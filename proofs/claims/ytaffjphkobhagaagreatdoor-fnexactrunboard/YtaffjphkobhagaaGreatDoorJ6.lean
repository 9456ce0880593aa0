/- What the row's list gives: the table of the ends' names; a world for the witness. -/
import Derived.Test.YtaffjphkobhagaaGreatDoorJ4
import Derived.Test.YtaffjphkobhagaaGreatDoorJ5
namespace Go.Proofs.YtaffjphkobhagaaGreatDoor
open Proofs.Tryz
variable{es:Array Event}{gs:Array Goroutine}{ops:Array Oper}{args:Array Value}{x:Ba}{e:Event}{c fe fr fr':Frame}{f fn:FuncId}{Stop:Goroutine->World->Prop}{bs:List Ba}{all l ss:List BA}{bu bw cs cs' cu cw seg:List Frame}{B' b g i k m n o:Nat}{q:Nat->Nat}{a:Option Addr}{t:Trace}{v x0 x1 x2 x3 x4 x5 x6 x7:Value}{W W1 u u' ue w w' w0:World}{R:World->Value->World->Prop}
section
open Go.ChangeShapes Go.WideShapes Go.ChangeAt Go.RowKit
theorem gNr:prog.globalNamed "loop.example/maltrun/impl.recEndNames"=some 0:=sI
theorem AfM:(prog.globals[0]?).map (·.type)=some 103:=sI
theorem ZY:prog.cellsOf 103=3:=sI
def ZZ:Array Value:=#[.string ⟨#[103,111,111,100]⟩,.string ⟨#[115,97,118,101,100]⟩,.string ⟨#[115,99,114,97,112,112,101,100]⟩]
theorem SO(h:laidMet prog [("loop.example/maltrun/impl.recEndNames",Rows.laid_loop_example_maltrun_impl_recEndNames)] W):W.var? prog "loop.example/maltrun/impl.recEndNames"=some ZZ:=by
 obtain⟨ps,⟨g,t,cs,a0,p,q,hg,ht,a1,hd,_,_⟩,_⟩:=h;obtain rfl:=A5 (gNr.symm.trans hg);obtain rfl:=A5 (AfM.symm.trans ht);rw[a1];congr 1
 obtain⟨l⟩:=cs;cases a0 with
 | zero=>simp[DataW.trod] at hd
 | succ a0 =>
  simp only[DataW.trod,underlying103,ZY,AM] at hd;split at hd
  .rename_i hl
   obtain⟨c0,c1,c2,rfl⟩:∃c0 c1 c2,l=[c0,c1,c2]:=by
    match l,hl with
    | [a,b,c],_=>exact⟨a,b,c,rfl⟩
   have e:List.range 3=[0,1,2]:=rfl;rw[e] at hd;simp only[B6,List.mapM_cons,List.mapM_nil,Option.bind_eq_bind,Option.bind_eq_some_iff,Option.pure_def,Option.some.injEq] at hd;obtain⟨xs,⟨y0,h0,_,⟨y1,h1,_,⟨y2,h2,_,rfl,rfl⟩,rfl⟩,rfl⟩,hx⟩:=hd;obtain⟨n0,rfl,rfl,_⟩:=L8 h0;obtain⟨n1,rfl,rfl,_⟩:=L8 h1;obtain⟨n2,rfl,rfl,_⟩:=L8 h2;simp[Rows.laid_loop_example_maltrun_impl_recEndNames] at hx;obtain⟨⟨e0,e1,e2⟩,_⟩:=hx;rw[Jw e0,Jw e1,Jw e2];rfl
  .cases hd
theorem F6.of_laid(h:laidMet prog [("loop.example/maltrun/impl.recEndNames",Rows.laid_loop_example_maltrun_impl_recEndNames)] W):F6 W:=by
 have hv:=SO h;have hc:=λi=>World.var?_cell gNr hv i;refine⟨hc 0,hc 1,hc 2,?_⟩;rcases Nat.lt_or_ge 0 W.heap.size with h'|h'
 .exact h'
 .unfold World.var? at hv;rw[gNr] at hv;simp only[Option.bind_some] at hv;rw[Array.getElem?_eq_none h'] at hv;cases hv
end
section
open Go.Conc
section
variable {P:Program} {X:Nat->Prop} {s:FZs} {L:List Nat}
theorem OU{id:Nat}:∀{k l:List Item},(∀i∈k,O8 P s L i)->exitTo id k=some l->∀i∈l,O8 P s L i
 | [],l,_,h=>by cases h
 | x::k,l,hk,h=>by
  have ih:=λhh=>OU (id:=id) (k:=k) (l:=l) (λi hi=>hk i (by simp[hi])) hh;cases x<;>simp only[exitTo] at h<;>first|exact ih h|skip
  split at h
  .simp_all
  .exact ih h
theorem Abm(h:(ops.all λo=>Cf P s L o)=true):∀o∈ops,Cf P s L o=true:=by
 intro o ho;obtain⟨i,hi,rfl⟩:=Array.mem_iff_getElem.1 ho;exact Array.all_eq_true.1 h i hi
theorem Vf(h:(ops.all λo=>Cf P s L o)=true){l:List Nat}:O8 P s L (.inRegion ops l):=λ_ _ o ho=>Abm h o (Array.mem_of_getElem? ho)
theorem YW{a:Item}{k:List Item}(ha:O8 P s L a)(hk:∀i∈k,O8 P s L i):∀i∈a::k,O8 P s L i:=λi hx=>(List.mem_cons.1 hx).elim (λe=>e ▸ ha) (hk i)
theorem YX{a b:Item}{k:List Item}(ha:O8 P s L a)(hb:O8 P s L b)(hk:∀i∈k,O8 P s L i):∀i∈a::b::k,O8 P s L i:=YW ha (YW hb hk)
theorem TU[UX s X](S:I6 P s)(h:M8 P s fr)(hm:fr.mode=.run)(hs:J0 X n w u):
  Cq P X s n cu cw w u (stepG P true (G fr cu) u) (stepG P true (G fr cw) w):=by
 have hr:=h.round
 have a0:∀{fr':Frame},M8 P s fr'->(∀cs x,stepG P true (G fr cs) x=.go (G fr' cs) x #[])->Cq P X s n cu cw w u (stepG P true (G fr cu) u) (stepG P true (G fr cw) w):=λ{fr'} hf e=>by
  rw[e,e];exact⟨λ_=>.inr ⟨fr',[],u,w,#[],rfl,rfl,hf,dC,⟨n,On.refl hs⟩,dC⟩,λ_ _ _ _ _=>.inr ⟨fr',[],u,w,#[],rfl,rfl,hf,dC,On.refl hs,dC⟩⟩
 have a8:(∃o x es,stepG P true (G fr cu) u=.ended o x es)->Cq P X s n cu cw w u (stepG P true (G fr cu) u) (stepG P true (G fr cw) w):=λh=>⟨λ_=>.inl h,λ_ _ _ _ _=>.inl h⟩;have ht:=h.todo;cases hto:fr.todo with
 | nil=>exact a0 (NY h .returning) (λcs x=>by simp[stepG,stepG.exec,G,hm,hto,hr])
 | cons it k =>
  rw[hto] at ht;have hk:∀i∈k,O8 P s (s.l fr.fn) i:=λi hi=>ht i (by simp[hi]);have hi:O8 P s (s.l fr.fn) it:=ht it dC;have a7:∀(l:List Item),(∀i∈l,O8 P s (s.l fr.fn) i)->(∀cs x,stepG P true (G fr cs) x=.go (G {fr with todo:=l} cs) x #[])->Cq P X s n cu cw w u (stepG P true (G fr cu) u) (stepG P true (G fr cw) w):=λl hl e=>a0 (Ve h hl) e;cases it with
  | inBlock id=>exact a7 k hk (λcs x=>by simp[stepG,stepG.exec,G,hm,hto])
  | inScope b=>exact a7 k hk (λcs x=>by simp[stepG,stepG.exec,G,hm,hto])
  | inLoop b=>exact a7 (.code b::.inLoop b::k) (YX hi hi hk) (λcs x=>by simp[stepG,stepG.exec,G,hm,hto])
  | inRegion ops l =>
   cases l with
   | nil=>exact a7 k hk (λcs x=>by simp[stepG,stepG.exec,G,hm,hto])
   | cons i rest =>
    have b0:(∀cs x,stepG P true (G fr cs) x=.go (G (fr.finish undef) cs) x #[])->Cq P X s n cu cw w u (stepG P true (G fr cu) u) (stepG P true (G fr cw) w):=λe=>a0 (Gz h _ (OT _)) e;cases ho:ops[i]? with
    | none=>exact b0 (λcs x=>by simp[stepG,stepG.exec,G,hm,hto,ho])
    | some o =>
     cases hw:Region.wanted o (yielded ops fr.tmps) with
     | false=>exact b0 (λcs x=>by simp[stepG,stepG.exec,G,hm,hto,ho,hw])
     | true =>
      have b1:Cf P s (s.l fr.fn) o=true:=hi i dC o ho;obtain⟨q1,q2,q3,q4⟩:=Qk (X:=X) S fr h.slots o b1;have q0:=(Qk (X:=X0) S fr h.slots o b1).1
      have fv:∀v,(∀x,o.dst=some x->x∈s.l fr.fn->fnV s v)->Gy s fr v:=λv hv ops' i' rest' k' o' x' ht' ho' hd' hx'=>by
       simp_all
      have e:∀cs x,stepG P true (G fr cs) x=stepG.apply P true fr cs none (execOp fr.eval o) x:=λcs x=>by
       simp[stepG,stepG.exec,G,hm,hto,ho,hw,stepG.oper,Frame.oper?,hr]
      rw[e,e];exact PO S h hto q1 q0 q2 (λw es v w' es' hh=>fv v (q3 w es v w' es' hh)) (λw es f args w' es' hh v=>fv v λx hx hl=>absurd hl (Vd (q4 w es f args w' es' hh) hx)) hs
  | code c =>
   have hc:M7 P s (s.l fr.fn) c=true:=hi;cases c with
   | skip=>exact a7 k hk (λcs x=>by simp[stepG,stepG.exec,G,hm,hto])
   | label l=>exact a7 k hk (λcs x=>by simp[stepG,stepG.exec,G,hm,hto])
   | seq a b =>
    simp only[M7,Bool.and_eq_true] at hc;exact a7 (.code a::.code b::k) (YX hc.1 hc.2 hk) (λcs x=>by simp[stepG,stepG.exec,G,hm,hto])
   | block id b=>exact a7 (.code b::.inBlock id::k) (YX hc trivial hk) (λcs x=>by simp[stepG,stepG.exec,G,hm,hto])
   | loop b=>exact a7 (.code b::.inLoop b::k) (YX hc hc hk) (λcs x=>by simp[stepG,stepG.exec,G,hm,hto])
   | scope b=>exact a7 (.code b::.inScope b::k) (YX hc hc hk) (λcs x=>by simp[stepG,stepG.exec,G,hm,hto])
   | cond c a b =>
    simp only[M7,Bool.and_eq_true] at hc;cases hv:fr.eval c with
    | bool t =>
     exact a7 (.code (if t then a else b)::k) (YW (by cases t<;>simp[O8,hc.1,hc.2]) hk) (λcs x=>by simp only[stepG,stepG.exec,G,hm,hto,hv])
    | _=>exact a8 ⟨_,_,_,by simp only[stepG,stepG.exec,G,hm,hto,hv];rfl⟩
   | ret=>exact a0 (NY h .returning) (λcs x=>by simp[stepG,stepG.exec,G,hm,hto,hr])
   | exit id =>
    cases hx:exitTo id k with
    | some l=>exact a7 l (OU hk hx) (λcs x=>by simp[stepG,stepG.exec,G,hm,hto,hx])
    | none=>exact a8 ⟨.stuck "exit, goto: no such block or label" (Frame.pos P fr),u,#[],by simp[stepG,stepG.exec,G,hm,hto,hx,hr]⟩
   | region id ops d =>
    cases d with
    | false=>exact a7 (.inRegion ops (List.range ops.size)::k) (YW (Vf hc) hk) (λcs x=>by simp[stepG,stepG.exec,G,hm,hto])
    | true =>
     have e:∀cs x,stepG P true (G fr cs) x=.go (G {fr with todo:=.inRegion ops (Region.schedule (P.follows .mixedOrders) ops (x.tape x.drawn (.order fr.fn id)))::k} cs) {x with drawn:=x.drawn+1} #[]:=λcs x=>by
      simp[stepG,stepG.exec,G,hm,hto,choose,Sem.run,Question.forced,Question.cut]
     have hl:∀x:World,M8 P s {fr with todo:=.inRegion ops (Region.schedule (P.follows .mixedOrders) ops (x.tape x.drawn (.order fr.fn id)))::k}:=λx=>Ve h (YW (Vf hc) hk)
     have a9:∀m,J0 X (m+1) w u->(∃o x es,stepG P true (G fr cu) u=.ended o x es)\/∃fr' new u' w' es,stepG P true (G fr cu) u=.go (G fr' (new++cu)) u' es/\stepG P true (G fr cw) w=.go (G fr' (new++cw)) w' es/\M8 P s fr'/\(∀c∈new,FK P s c)/\On X (m+1) w u w' u'/\∀e∈es,V7 X e:=λm hs=>by
      have e0:u.tape u.drawn (.order fr.fn id)=w.tape w.drawn (.order fr.fn id):=hs.tape 0 _ oM;have b2:=hl w;rw[e,e,e0];exact .inr ⟨_,[],_,_,#[],rfl,rfl,b2,dC,⟨rfl,rfl,1,oM,rfl,rfl,hs.draw⟩,dC⟩
     constructor
     .intro hf;rcases a9 0 (hf 1) with h1|⟨fr',new,u',w',es,a1,a2,a3,a4,a5,a6⟩
      .exact .inl h1
      .grind
     .intro g1 w1 e1 hst hd;have e1:=hst;rw[e] at e1;cases e1
      cases n with
      | zero=>simp only at hd;omega
      | succ m=>exact a9 m hs
   | rangeFunc=>cases hc
   | goto=>cases hc
   | refuse m=>exact a8 ⟨_,_,_,by simp only[stepG,stepG.exec,G,hm,hto];rfl⟩
  | _=>exact hi.elim
theorem EC(fn:Func)(tmps:Array Value):Sound P X (results fn tmps):=by
 unfold results;refine Sound.bind (YR (λr=>?_) _) (λ_=>Sound.pure' _);split
 .exact Sound.pure' _
 .exact Sound.bind (s_addr _) (λ_=>s_loadVar _ _)
theorem TV(_S:I6 P s)(h:M8 P s fr)(hc:FK P s c)(hm:fr.mode=.returning)(hs:J0 X n w u):
  Cq P X s n cu cw w u (stepG P true (G fr (c::cu)) u) (stepG P true (G fr (c::cw)) w):=by
 obtain⟨fn,hf⟩:=h.fn
 have a0:∀m,QK X m w u #[] ((results fn fr.tmps).runT P w #[]) ((results fn fr.tmps).runT P u #[])->(∃o x es,stepG P true (G fr (c::cu)) u=.ended o x es)\/∃fr' new u' w' es,stepG P true (G fr (c::cu)) u=.go (G fr' (new++cu)) u' es/\stepG P true (G fr (c::cw)) w=.go (G fr' (new++cw)) w' es/\M8 P s fr'/\(∀c∈new,FK P s c)/\On X m w u w' u'/\∀e∈es,V7 X e:=λm ha=>by
  generalize hu:(results fn fr.tmps).runT P u #[]=ru at ha;simp only[stepG,G,hm,unwind,h.defers,hf,hu,doReturn,h.kind];match ru,hu,ha with
  | (.ok v u1,eu),hu,⟨hev,w1,hw,hon⟩ =>
   refine .inr ⟨c.finish v,[],u1,w1,_,rfl,by simp only[hw,GStep.after];rfl,Gz hc.ok v (hc.any v),dC,hon,λe hx=>?_⟩;rw[Array.append_empty] at hx;exact (hev e (mem_seen hx)).elim (λhx=>by simp at hx) id
  | (.halt k u1,eu),hu,_=>cases k<;>exact .inl ⟨_,_,_,rfl⟩
 constructor
 .intro hfu;rcases a0 _ (EC (P:=P) (X:=X) fn fr.tmps (Ik ((results fn fr.tmps).runT P u #[]).1) w u #[] (hfu _) (.inr (Nat.le_add_left _ _))) with h1|⟨fr',new,u',w',es,a1,a2,a3,a4,a5,a6⟩
  .exact .inl h1
  .grind
 .intro g1 w1 e1 hst hd;refine a0 n (EC (P:=P) (X:=X) fn fr.tmps n w u #[] hs (.inl ?_));generalize hu:(results fn fr.tmps).runT P w #[]=ru at hst ⊢
  simp only[stepG,G,hm,unwind,h.defers,hf,hu,doReturn,h.kind] at hst;match ru,hst with
  | (.ok v u1,eu),hst=>simp only[GStep.after] at hst;cases hst;exact hd
  | (.halt k u1,eu),hst=>cases k<;>(simp only[GStep.after] at hst;cases hst)
theorem TW(_S:I6 P s){ch:List PanicEntry}(h:M8 P s fr)(hc:FK P s c)(hm:fr.mode=.panicking ch)(hs:J0 X n w u):
  Cq P X s n cu cw w u (stepG P true (G fr (c::cu)) u) (stepG P true (G fr (c::cw)) w):=by
 obtain⟨fn,hf⟩:=h.fn;have a0:fr.catches P=false:=by unfold Frame.catches;rw[hf]
 simp only[stepG,G,hm,unwind,h.defers,a0,Bool.false_eq_true,if_false];exact⟨λ_=>.inr ⟨c.raise ch,[],u,w,_,rfl,rfl,LU hc.ok ch,dC,⟨n,On.refl hs⟩,dC⟩,λ_ _ _ _ _=>.inr ⟨c.raise ch,[],u,w,_,rfl,rfl,LU hc.ok ch,dC,On.refl hs,dC⟩⟩
end
section
variable {P:Program} {X:Nat->Prop} {s:FZs}
def KX(P:Program)(X:Nat->Prop)(s:FZs)(bu bw:List Frame)(su sw:GStep)(Q:World->World->Prop):Prop :=
 (∃o x es,su=.ended o x es)\/∃fr' seg' u' w' es,su=.go (G fr' (seg'++bu)) u' es/\sw=.go (G fr' (seg'++bw)) w' es/\M8 P s fr'/\(∀c∈seg',FK P s c)/\Q w' u'/\∀e∈es,V7 X e
def GA(fr:Frame)(seg:List Frame):Prop:=fr.mode=.run\/seg≠[]
theorem GQ[UX s X](S:I6 P s)(h:M8 P s fr)(hr:∀c∈seg,FK P s c)(hg:GA fr seg)(hs:J0 X n w u):
  (M4 X w u->KX P X s bu bw (stepG P true (G fr (seg++bu)) u) (stepG P true (G fr (seg++bw)) w) (λw' u'=>∃m,On X m w u w' u'))/\
  (∀g1 w1 e1,stepG P true (G fr (seg++bw)) w=.go g1 w1 e1->w1.drawn<=w.drawn+n->KX P X s bu bw (stepG P true (G fr (seg++bu)) u) (stepG P true (G fr (seg++bw)) w) (λw' u'=>On X n w u w' u')):=by
 have a0:∀{t:List Frame} {su sw:GStep},(∀c∈t,FK P s c)->Cq P X s n (t++bu) (t++bw) w u su sw->
   (M4 X w u->KX P X s bu bw su sw (λw' u'=>∃m,On X m w u w' u'))/\(∀g1 w1 e1,sw=.go g1 w1 e1->w1.drawn<=w.drawn+n->KX P X s bu bw su sw (λw' u'=>On X n w u w' u')):=λ{t su sw} ht hc=>by
  have a7:∀{new:List Frame},(∀c∈new,FK P s c)->∀c∈new++t,FK P s c:=λhn c hx=>(C8.1 hx).elim (hn c) (ht c);constructor
  .intro hf;rcases hc.1 hf with h1|⟨fr',new,u',w',es,a1,a2,a3,a4,a5,a6⟩
   .exact .inl h1
   .exact .inr ⟨fr',new++t,u',w',es,by rw[a1,List.append_assoc],by rw[a2,List.append_assoc],a3,a7 a4,a5,a6⟩
  .intro g1 w1 e1 hst hd;rcases hc.2 g1 w1 e1 hst hd with h1|⟨fr',new,u',w',es,a1,a2,a3,a4,a5,a6⟩
   .exact .inl h1
   .exact .inr ⟨fr',new++t,u',w',es,by rw[a1,List.append_assoc],by rw[a2,List.append_assoc],a3,a7 a4,a5,a6⟩
 cases hm:fr.mode with
 | run=>exact a0 hr (TU S h hm hs)
 | returning =>
  cases seg with
  | nil=>exact (hg.elim (λhg=>by rw[hm] at hg;cases hg) λhg=>absurd rfl hg)
  | cons c t=>exact a0 (λx hx=>hr x (by simp[hx])) (TV S h (hr c dC) hm (cu:=t++bu) (cw:=t++bw) hs)
 | panicking ch =>
  cases seg with
  | nil=>exact (hg.elim (λhg=>by rw[hm] at hg;cases hg) λhg=>absurd rfl hg)
  | cons c t=>exact a0 (λx hx=>hr x (by simp[hx])) (TW S h (hr c dC) hm (cu:=t++bu) (cw:=t++bw) hs)
open Classical in
noncomputable def Ay(X:Nat->Prop)(i:Nat)(o:Obj):Obj:=if X i then (match o with | .cells _ e f=>.cells #[] e f|o=>o) else o
noncomputable def pz(X:Nat->Prop)(w:World):World:={w with heap:=w.heap.mapIdx (Ay X)}
noncomputable def F7(X:Nat->Prop)(w:World)(τ:Nat->Question->Nat)(d:Nat):World:={pz X w with tape:=τ,drawn:=d}
structure Aq (X:Nat->Prop) (w:World):Prop where
 old:∀b,X b->b<w.heap.size
 cov:∀b,X b->∃c e,w.heap[b]?=some (Obj.cells c e (0,0))
 pend:∀(b:Nat)(c:Array Value)(t:TypeId),w.heap[b]?=some (Obj.pending c t)->gN<=b
theorem Iq(w:World)(b:Nat):(pz X w).heap[b]?=(w.heap[b]?).map (Ay X b):=by simp[pz]
theorem FM(h:Aq X w){τ:Nat->Question->Nat}{d:Nat}(ht:∀i q,i<n->τ (d+i) q=w.tape (w.drawn+i) q):J0 X n w (F7 X w τ d):=by
 refine⟨by simp[F7,pz],h.old,λb hb=>?_,λb hb=>?_,h.pend,rfl,rfl,ht⟩
 .show (pz X w).heap[b]?=_
  rw[Iq];cases w.heap[b]? with
  | none=>rfl
  | some o=>simp[Ay,hb]
 .obtain⟨c,e,hw⟩:=h.cov b hb;refine⟨c,e,hw,?_⟩;show (pz X w).heap[b]?=_
  rw[Iq,hw];simp[Ay,hb]
theorem J0.base(h:J0 X n w u):Aq X w:=⟨h.old,λb hb=>by obtain⟨c,e,hw,_⟩:=h.cov b hb;exact⟨c,e,hw⟩,h.pend⟩
theorem J0.eq_pz(h:J0 X n w u):u=F7 X w u.tape u.drawn:=by
 have hh:u.heap=(pz X w).heap:=by
  apply Array.ext_getElem?
  intro b;rw[Iq];by_cases hb:X b
  .obtain⟨c,e,hw,hu⟩:=h.cov b hb;rw[hu,hw];simp[Ay,hb]
  .rw[h.same b hb];cases w.heap[b]? with
   | none=>rfl
   | some o=>simp[Ay,hb]
 cases u
 simp only[F7,pz] at hh ⊢
 have h1:=h.os;have h2:=h.output;simp only at h1 h2;subst hh h1 h2;rfl
theorem On.base(h:On X n w u w' u'):Aq X w':=by
 obtain⟨_,_,_,_,hs⟩:=h.drew;exact J0.base hs
end
section
variable {P:Program} {X:Nat->Prop} {s:FZs}
theorem Dp(h:stepG P true (G fr cs) u=.go (G fr' cs') u' es):step P (lone fr cs u)=.next (lone fr' cs' u') :=
 step_lone_go (by
  have e:stepG P true {frame:=fr,callers:=cs,status:=.running,dying:=none} u=.go (G fr' cs') u' es:=h;rw[e];rfl)
theorem Fd{o:Outcome}(h:stepG P true (G fr cs) u=.ended o u' es):step P (lone fr cs u)=.ended o u' :=
 step_lone_ended (by
  have e:stepG P true {frame:=fr,callers:=cs,status:=.running,dying:=none} u=.ended o u' es:=h;rw[e];rfl)
theorem Cg(h:lone fr cs u=lone fr' cs' u'):fr=fr'/\cs=cs'/\u=u':=by
 simp only[lone,Machine.mk.injEq,Array.mk.injEq,List.cons.injEq,Goroutine.mk.injEq] at h;exact⟨h.2.1.1.1,h.2.1.1.2.1,h.1⟩
def c0(P:Program):Frame:={fn:=P.funcs.size,tmps:=#[],todo:=[.code (.refuse "")],defers:=[{target:=.nil,args:=#[]}],mode:=.run,kind:=.normal}
theorem Kh(_S:I6 P s)(h:M8 P s fr)(hm:¬GA fr []):∀{N:Nat},runN P N (lone fr [c0 P] u)=.next (lone fe [c0 P] ue)->N=0
 | 0,_=>rfl
 | N+1,hr=>by
  exfalso
  obtain⟨fn,hf⟩:=h.fn;have hcat:fr.catches P=false:=by unfold Frame.catches;rw[hf]
  have dead:∀(c:Frame)(x:World),(c=(c0 P)\/∃ch,c=(c0 P).raise ch)->∀M,runN P M (lone c [] x)≠.next (lone fe [c0 P] ue):=λc x hc M hM=>by
   have hend:∃o y es,stepG P true (G c []) x=.ended o y es:=by
    rcases hc with rfl|⟨ch,rfl⟩
    .exact⟨_,_,_,by simp only[stepG,stepG.exec,G,c0];rfl⟩
    .exact⟨_,_,_,by simp only[stepG,G,c0,Frame.raise,unwind,callDeferred];rfl⟩
   obtain⟨o,y,es,he⟩:=hend;cases M with
   | zero=>simp only[runN,Stepped.next.injEq] at hM;have:=(Cg hM).2.1;cases this
   | succ M=>simp only[runN,Fd he] at hM;cases hM
  simp only[runN] at hr;cases hmo:fr.mode with
  | run=>exact hm (.inl hmo)
  | panicking ch =>
   have e:stepG P true (G fr [c0 P]) u=.go (G ((c0 P).raise ch) []) u #[]:=by
    simp[stepG,G,hmo,unwind,h.defers,hcat]
   rw[Dp e] at hr;exact dead _ _ (.inr ⟨ch,rfl⟩) N hr
  | returning =>
   generalize hu:(results fn fr.tmps).runT P u #[]=ru;match ru,hu with
   | (.ok v u1,eu),hu =>
    have e:stepG P true (G fr [c0 P]) u=.go (G (c0 P) []) u1 (seen P fr.fn eu ++ #[]):=by
     simp only[stepG,G,hmo,unwind,h.defers,hf,hu,doReturn,h.kind,GStep.after];rfl
    rw[Dp e] at hr;exact dead _ _ (.inl rfl) N hr
   | (.halt k u1,eu),hu =>
    have e:∃o y es,stepG P true (G fr [c0 P]) u=.ended o y es:=by
     simp only[stepG,G,hmo,unwind,h.defers,hf,hu];cases k<;>exact⟨_,_,_,rfl⟩
    obtain⟨o,y,es,e⟩:=e;rw[Fd e] at hr;cases hr
theorem M4.symm{v:World}(h:M4 (λ_=>False) u v):M4 (λ_=>False) v u:=λn =>
 ⟨(h n).size.symm,λ_ h=>h.elim,λb hb=>((h n).same b hb).symm,λ_ h=>h.elim,(h n).pendU,(h n).os.symm,(h n).output.symm,λi q hi=>((h n).tape i q hi).symm⟩
theorem M4.trans{v x:World}(h:M4 (λ_=>False) u v)(k:M4 (λ_=>False) v x):M4 (λ_=>False) u x:=λn =>
 ⟨(k n).size.trans (h n).size,λ_ h=>h.elim,λb hb=>((k n).same b hb).trans ((h n).same b hb),λ_ h=>h.elim,(h n).pend,(k n).os.trans (h n).os,(k n).output.trans (h n).output,λi q hi=>((k n).tape i q hi).trans ((h n).tape i q hi)⟩
theorem shift(S:I6 P s):∀(N:Nat) {fr fe:Frame} {seg:List Frame} {u v ue:World},M8 P s fr->(∀c∈seg,FK P s c)->M4 (λ_=>False) u v->runN P N (lone fr (seg++[c0 P]) u)=.next (lone fe [c0 P] ue)->
  ∃ve,runN P N (lone fr (seg++[c0 P]) v)=.next (lone fe [c0 P] ve)/\M4 (λ_=>False) ue ve
 | 0,fr,fe,seg,u,v,ue,h,hr,hf,hrun=>by
  simp only[runN,Stepped.next.injEq] at hrun;obtain⟨e1,e2,e3⟩:=Cg hrun;subst e1 e3;exact⟨v,by simp only[runN,e2],hf⟩
 | N+1,fr,fe,seg,u,v,ue,h,hr,hf,hrun=>by
  by_cases hg:GA fr seg
  .have hf':=hf.symm;rcases (GQ S (bu:=[c0 P]) (bw:=[c0 P]) h hr hg (hf' 0)).1 hf' with⟨o,x,es,e⟩|⟨fr',seg',u',v',es,e1,e2,a3,a4,⟨m,a5⟩,_⟩
   .simp only[runN,Fd e] at hrun;cases hrun
   .simp only[runN,Dp e1] at hrun;obtain⟨ve,q1,q2⟩:=shift S N a3 a4 (hf'.on a5).symm hrun;exact⟨ve,by simp only[runN,Dp e2];exact q1,q2⟩
  .have hseg:seg=[]:=by
    cases seg with
    | nil=>rfl
    | cons c t=>exact absurd (.inr dC) hg
   subst hseg;have:=Kh S h hg hrun;omega
end
section
variable {P:Program} {X:Nat->Prop} {s:FZs} {E:Frame->Prop} {F:Frame->World->Prop}
def K(P:Program)(X:Nat->Prop)(E:Frame->Prop)(F:Frame->World->Prop)(fr:Frame)(seg:List Frame)(w:World):Prop :=
 ∀τ d,∃N fe ue,runN P N (lone fr (seg++[c0 P]) (F7 X w τ d))=.next (lone fe [c0 P] ue)/\E fe/\F fe ue
abbrev Vg (fr:Frame):Prop:=fr.mode=.returning
structure St (P:Program) (X:Nat->Prop) (s:FZs) (E:Frame->Prop) (F:Frame->World->Prop) (fr:Frame) (seg:List Frame) (w:World):Prop where
 top:M8 P s fr
 rest:∀c∈seg,FK P s c
 base:Aq X w
 ends:K P X E F fr seg w
theorem Aq.at(h:Aq X w)(d:Nat):Aq X (w.at d):=⟨h.old,h.cov,h.pend⟩
theorem K.next(h:K P X E F fr seg w)(hg:seg=[]->¬E fr)(τ:Nat->Question->Nat)(d:Nat):
  ∃m,step P (lone fr (seg++[c0 P]) (F7 X w τ d))=.next m/\∃N fe ue,runN P N m=.next (lone fe [c0 P] ue)/\E fe/\F fe ue:=by
 obtain⟨N,fe,ue,hr,hm,hF⟩:=h τ d;cases N with
 | zero =>
  exfalso
  simp only[runN,Stepped.next.injEq] at hr;obtain⟨e1,e2,_⟩:=Cg hr
  have a0:seg=[]:=by
   simp_all
  exact hg a0 (e1 ▸ hm)
 | succ N =>
  simp only[runN] at hr;cases hs:step P (lone fr (seg++[c0 P]) (F7 X w τ d)) with
  | next m=>rw[hs] at hr;exact⟨m,rfl,N,fe,ue,hr,hm,hF⟩
  | ended o x=>rw[hs] at hr;cases hr
theorem Vh[UX s X](S:I6 P s)(hF:∀fe u v,M4 (λ_=>False) u v->F fe u->F fe v)(h:St P X s E F fr seg w)(hg:GA fr seg)(hE:seg=[]->¬E fr)(bw:List Frame)(d:Nat):
  ∃fr' seg' w' es k,stepG P true (G fr (seg++bw)) (w.at d)=.go (G fr' (seg'++bw)) w' es/\(∀e∈es,V7 X e)/\St P X s E F fr' seg' w'/\w'.tape=w.tape/\w'.drawn=d+k/\
   ∀τ d0,(∀i q,i<k->τ (d0+i) q=w.tape (d+i) q)->step P (lone fr (seg++[c0 P]) (F7 X w τ d0))=.next (lone fr' (seg'++[c0 P]) (F7 X w' τ (d0+k))):=by
 have hb:=h.base.at d;have a7:M4 X (w.at d) (F7 X w w.tape d):=λn=>FM hb (λi q _=>rfl)
 have a8:∀τ d0,¬∃o x es,stepG P true (G fr (seg++[c0 P])) (F7 X w τ d0)=.ended o x es:=λτ d0 ⟨o,x,es,e⟩=>by
  obtain⟨m,hm,_⟩:=h.ends.next hE τ d0;rw[Fd e] at hm;cases hm
 rcases (GQ S (bu:=[c0 P]) (bw:=bw) h.top h.rest hg (a7 0)).1 a7 with e|⟨fr',seg',u',w',es,a1,a2,a3,a4,⟨m,a5⟩,a6⟩
 .simp_all
 obtain⟨k,_,dw,_,a9⟩:=a5.drew
 have a0:∀τ d0,(∀i q,i<k->τ (d0+i) q=w.tape (d+i) q)->step P (lone fr (seg++[c0 P]) (F7 X w τ d0))=.next (lone fr' (seg'++[c0 P]) (F7 X w' τ (d0+k))):=λτ d0 ht=>by
  have hs:J0 X k (w.at d) (F7 X w τ d0):=FM hb ht;rcases (GQ S (bu:=[c0 P]) (bw:=bw) h.top h.rest hg hs).2 _ _ _ a2 (by rw[dw];exact A3 _) with e|⟨fr2,seg2,u2,w2,es2,b1,b2,_,_,b5,_⟩
  .simp_all
  rw[a2] at b2;rw[GStep.go.injEq] at b2;obtain⟨hG,b0,-⟩:=b2;subst b0;have h1:fr'=fr2:=congrArg (·.frame) hG;have h2:seg'++bw=seg2++bw:=congrArg (·.callers) hG;have h2:=List.append_cancel_right h2;subst h1 h2;obtain⟨k2,_,c2,b3,b4⟩:=b5.drew;have hk:k2=k:=oM
  subst hk;rw[Dp b1];have e:=J0.eq_pz b4;rw[b5.tu,b3] at e;rw[e];rfl
 refine⟨fr',seg',w',es,k,a2,a6,⟨a3,a4,(On.base a5),λτ' d'=>?_⟩,a5.tw,dw,a0⟩;have b7:=a0 (λp q=>if p<k then w.tape (d+p) q else τ' (d'+(p-k)) q) 0 (λi q hi=>by simp only[Nat.zero_add,if_pos hi]);obtain⟨m1,e1,N,fe,ue,hr,hm,b6⟩:=h.ends.next hE (λp q=>if p<k then w.tape (d+p) q else τ' (d'+(p-k)) q) 0;rw[b7] at e1;cases e1
 have b8:=(On.base a5);have b9:∀(τ:Nat->Question->Nat)(d:Nat),J0 X 0 w' (F7 X w' τ d):=λτ d=>FM b8 (λi q hi=>oM)
 have c1:M4 (λ_=>False) (F7 X w' (λp q=>if p<k then w.tape (d+p) q else τ' (d'+(p-k)) q) (0+k)) (F7 X w' τ' d'):=λn =>
  ⟨rfl,λ_ h=>h.elim,λ_ _=>rfl,λ_ h=>h.elim,(b9 _ _).pendU,rfl,rfl,λi q _=>by
   show τ' (d'+i) q=(if 0+k+i<k then w.tape (d+(0+k+i)) q else τ' (d'+(0+k+i-k)) q)
   rw[if_neg oM];congr 1
   omega⟩
 obtain⟨ve,q1,q2⟩:=shift S N a3 a4 c1 hr;exact⟨N,fe,ve,q1,hm,hF _ _ _ q2 b6⟩
end
inductive Run (P:Program) (X:Nat->Prop) (Stop:Goroutine->World->Prop):Goroutine->World->Prop
 | stop {g:Goroutine} {w:World} (h:∀d,Stop g (w.at d)):Run P X Stop g w
 | step {g:Goroutine} {w:World} (hr:g.status=.running) (g':Nat->Goroutine) (w':Nat->World) (es:Nat->Array Event) (hs:∀d,stepG P true g (w.at d)=.go (g' d) (w' d) (es d)) (hf:∀d,∀e∈es d,V7 X e) (h:∀d,Run P X Stop (g' d) (w' d)):Run P X Stop g w
section
variable {P:Program} {X:Nat->Prop} {s:FZs} {E:Frame->Prop} {F:Frame->World->Prop}
def Left(P:Program)(X:Nat->Prop)(s:FZs)(F:Frame->World->Prop)(bw:List Frame)(g:Goroutine)(w:World):Prop :=
 ∃fe,g=G fe bw/\fe.mode=.returning/\M8 P s fe/\Aq X w/\∀τ d,F fe (F7 X w τ d)
theorem AdA(S:I6 P s)(h:St P X s Vg F fr seg w)(hg:¬GA fr seg)(bw:List Frame)(d:Nat):Left P X s F bw (G fr (seg++bw)) (w.at d):=by
 have a0:seg=[]:=by
  cases seg with
  | nil=>rfl
  | cons c t=>exact absurd (.inr dC) hg
 subst a0
 have a1:∀τ d,fr.mode=.returning/\F fr (F7 X w τ d):=λτ d=>by
  obtain⟨N,fe,ue,hr,hm,hF⟩:=h.ends τ d;have hN:=Kh S h.top hg hr;subst hN;simp only[runN,List.nil_append,Stepped.next.injEq] at hr;obtain⟨e1,_,e3⟩:=Cg hr;subst e1 e3;exact⟨hm,hF⟩
 exact⟨fr,rfl,(a1 (λ_ _=>0) 0).1,h.top,h.base.at d,λτ d=>(a1 τ d).2⟩
def Bad(P:Program)(X:Nat->Prop)(s:FZs)(F:Frame->World->Prop)(bw:List Frame)(x:Frame×List Frame×World):Prop :=
 St P X s Vg F x.1 x.2.1 x.2.2/\¬Run P X (Left P X s F bw) (G x.1 (x.2.1++bw)) x.2.2
theorem Abn[UX s X](S:I6 P s)(hF:∀fe u v,M4 (λ_=>False) u v->F fe u->F fe v){x:Frame×List Frame×World}(h:Bad P X s F bw x):
  (x.2.1=[]->¬Vg x.1)/\∃(d k:Nat)(y:Frame×List Frame×World),Bad P X s F bw y/\y.2.2.tape=x.2.2.tape/\
   ∀τ d0,(∀i q,i<k->τ (d0+i) q=x.2.2.tape (d+i) q)->step P (lone x.1 (x.2.1++[c0 P]) (F7 X x.2.2 τ d0))=.next (lone y.1 (y.2.1++[c0 P]) (F7 X y.2.2 τ (d0+k))):=by
 obtain⟨a0,hn⟩:=h;have hg:GA x.1 x.2.1:=Classical.byContradiction λhg=>hn (.stop λd=>AdA S a0 hg bw d);refine⟨λe h=>hg.elim (λhm=>by rw[h] at hm;cases hm) (λhh=>hh e),Classical.byContradiction λhno=>hn ?_⟩;have hs:=λd=>Vh S hF a0 hg (λe h=>hg.elim (λhm=>by rw[h] at hm;cases hm) (λhh=>hh e)) bw d;let fr':=λd=>Classical.choose (hs d)
 let seg':=λd=>Classical.choose (Classical.choose_spec (hs d))
 let w':=λd=>Classical.choose (Classical.choose_spec (Classical.choose_spec (hs d)))
 let es:=λd=>Classical.choose (Classical.choose_spec (Classical.choose_spec (Classical.choose_spec (hs d))))
 have sp:∀d,∃k,stepG P true (G x.1 (x.2.1++bw)) (x.2.2.at d)=.go (G (fr' d) (seg' d++bw)) (w' d) (es d)/\(∀e∈es d,V7 X e)/\St P X s Vg F (fr' d) (seg' d) (w' d)/\(w' d).tape=x.2.2.tape/\(w' d).drawn=d+k/\
   ∀τ d0,(∀i q,i<k->τ (d0+i) q=x.2.2.tape (d+i) q)->step P (lone x.1 (x.2.1++[c0 P]) (F7 X x.2.2 τ d0))=.next (lone (fr' d) (seg' d++[c0 P]) (F7 X (w' d) τ (d0+k))) :=
  λd=>Classical.choose_spec (Classical.choose_spec (Classical.choose_spec (Classical.choose_spec (hs d))))
 refine .step rfl (λd=>G (fr' d) (seg' d++bw)) w' es (λd=>(sp d).choose_spec.1) (λd=>(sp d).choose_spec.2.1) (λd=>?_);refine Classical.byContradiction λhr=>hno ?_;obtain⟨k,_,_,a3,a4,_,a6⟩:=sp d;exact⟨d,k,(fr' d,seg' d,w' d),⟨a3,hr⟩,a4,a6⟩
theorem Rg{B0:Frame×List Frame×World->Prop}(nxt:∀x,B0 x->(x.2.1=[]->¬E x.1)/\∃(d k:Nat)(y:Frame×List Frame×World),B0 y/\y.2.2.tape=x.2.2.tape/\
   ∀τ d0,(∀i q,i<k->τ (d0+i) q=x.2.2.tape (d+i) q)->step P (lone x.1 (x.2.1++[c0 P]) (F7 X x.2.2 τ d0))=.next (lone y.1 (y.2.1++[c0 P]) (F7 X y.2.2 τ (d0+k))))
  {fr:Frame} {seg:List Frame} {w:World} (hb:B0 (fr,seg,w)) (hk:K P X E F fr seg w):False:=by
 let B:={x:Frame×List Frame×World // B0 x}
 have nx:∀b:B,∃(d k:Nat)(y:B),y.1.2.2.tape=b.1.2.2.tape/\∀τ d0,(∀i q,i<k->τ (d0+i) q=b.1.2.2.tape (d+i) q)->step P (lone b.1.1 (b.1.2.1++[c0 P]) (F7 X b.1.2.2 τ d0))=.next (lone y.1.1 (y.1.2.1++[c0 P]) (F7 X y.1.2.2 τ (d0+k))):=λb=>by
  obtain⟨_,d,k,y,h1,h2,h3⟩:=nxt b.1 b.2;exact⟨d,k,⟨y,h1⟩,h2,h3⟩
 let dd:=λb:B=>Classical.choose (nx b)
 let kk:=λb:B=>Classical.choose (Classical.choose_spec (nx b))
 let yy:=λb:B=>Classical.choose (Classical.choose_spec (Classical.choose_spec (nx b)))
 have sp:∀b:B,(yy b).1.2.2.tape=b.1.2.2.tape/\∀τ d0,(∀i q,i<kk b->τ (d0+i) q=b.1.2.2.tape (dd b+i) q)->step P (lone b.1.1 (b.1.2.1++[c0 P]) (F7 X b.1.2.2 τ d0))=.next (lone (yy b).1.1 ((yy b).1.2.1++[c0 P]) (F7 X (yy b).1.2.2 τ (d0+kk b))) :=
  λb=>Classical.choose_spec (Classical.choose_spec (Classical.choose_spec (nx b)))
 let f:Nat->B:=λi=>Nat.rec (⟨(fr,seg,w),hb⟩:B) (λ_ b=>yy b) i
 have f0:f 0=⟨(fr,seg,w),hb⟩:=rfl;have fs:∀i,f (i+1)=yy (f i):=λi=>rfl;let c:Nat->Nat:=λi=>Nat.rec (0:Nat) (λi a=>a+kk (f i)) i
 have cs:∀i,c (i+1)=c i+kk (f i):=λi=>rfl
 have tp:∀i,(f i).1.2.2.tape=w.tape:=λi=>by
  induction i with
  | zero=>rfl
  | succ i ih=>rw[fs,(sp (f i)).1,ih]
 have cm:∀i j,i<=j->c i<=c j:=λi j hij=>by
  induction hij with
  | refl=>exact A3 _
  | step _ ih=>rw[cs];exact B4 ih (Nat.le_add_right _ _)
 let τ:Nat->Question->Nat:=λp q=>open Classical in if hx:∃ij:Nat×Nat,ij.2<kk (f ij.1)/\p=c ij.1+ij.2 then w.tape (dd (f hx.choose.1)+hx.choose.2) q else 0
 have hτ:∀i j q,j<kk (f i)->τ (c i+j) q=w.tape (dd (f i)+j) q:=λi j q hj=>by
  have hx:∃ij:Nat×Nat,ij.2<kk (f ij.1)/\c i+j=c ij.1+ij.2:=⟨(i,j),hj,rfl⟩;have e:τ (c i+j) q=w.tape (dd (f hx.choose.1)+hx.choose.2) q:=dif_pos hx;rw[e];obtain⟨h1,h2⟩:=hx.choose_spec
  have hi:hx.choose.1=i:=by
   rcases Nat.lt_trichotomy hx.choose.1 i with hl|hl|hl
   .have:=cm _ _ hl;rw[Nat.succ_eq_add_one,cs] at this;omega
   .exact hl
   .have:=cm _ _ hl;rw[Nat.succ_eq_add_one,cs] at this;omega
  have a2:hx.choose.2=j:=by rw[hi] at h2;omega
  rw[hi,a2]
 have a0:∀i,runN P i (lone fr (seg++[c0 P]) (F7 X w τ 0))=.next (lone (f i).1.1 ((f i).1.2.1++[c0 P]) (F7 X (f i).1.2.2 τ (c i))):=λi=>by
  induction i with
  | zero=>rfl
  | succ i ih =>
   rw[runN_add,ih];simp only[runN];rw[(sp (f i)).2 τ (c i) (λj q hj=>by rw[tp];exact hτ i j q hj)]
 obtain⟨N,fe,ue,hr,hm,_⟩:=hk τ 0;rw[a0 N,Stepped.next.injEq] at hr;obtain⟨e1,e2,_⟩:=Cg hr;have hg:=(nxt (f N).1 (f N).2).1
 have a1:(f N).1.2.1=[]:=by
  cases hs:(f N).1.2.1 with
  | nil=>rfl
  | cons a t=>rw[hs] at e2;have:=congrArg List.length e2;simp at this
 exact hg a1 (e1 ▸ hm)
theorem YY[UX s X](S:I6 P s)(hF:∀fe u v,M4 (λ_=>False) u v->F fe u->F fe v)(bw:List Frame)(h:St P X s Vg F fr seg w):Run P X (Left P X s F bw) (G fr (seg++bw)) w :=
 Classical.byContradiction λhn=>Rg (B0:=Bad P X s F bw) (λ_ hx=>Abn S hF hx) ⟨h,hn⟩ h.ends
end
end
section
open Go.Conc
open Go.ConcN (sumTo upd sumTo_upd upd_ne upd_same)
section
variable {P:Program} {X:Nat->Prop} {Shun:Loc->Prop} {B:Nat}
theorem Abo(h:V7 X e):∃B,(MemAct.ofEvent e).low B:=by
 obtain⟨l,wr,sy⟩:=e;cases l with
 | cell a=>exact⟨a.block+1,Nat.lt_succ_self _⟩
 | obj r=>exact⟨r+1,by cases wr<;>cases sy<;>exact Nat.lt_succ_self _⟩
 | mark m=>cases m<;>first|exact⟨0,trivial⟩|exact (h:False).elim
 | output=>exact⟨0,by cases wr<;>cases sy<;>trivial⟩
 | _=>exact (h:False).elim
theorem Abp(hX:∀l,Shun l->∃a,l=.cell a/\X a.block)(h:V7 X e)(hl:(MemAct.ofEvent e).low B):EvL Shun B e:=by
 obtain⟨l,wr,sy⟩:=e;cases l with
 | cell a =>
  refine⟨λx hx hs=>?_,dC,dC,hl⟩;obtain⟨a',e,ha⟩:=hX _ hs;simp only[MemAct.ofEvent,MemAct.touch?,Option.some.injEq] at hx;subst hx;cases e
  exact absurd ha h
 | obj r =>
  refine⟨λx hx hs=>?_,dC,dC,hl⟩;obtain⟨a',e,ha⟩:=hX _ hs;cases wr<;>cases sy<;>simp[MemAct.ofEvent,MemAct.touch?] at hx<;>(subst hx;cases e)
 | mark m=>cases m<;>first|exact (h:False).elim|exact⟨λx hx=>by simp[MemAct.ofEvent,MemAct.touch?] at hx,dC,dC,hl⟩
 | output =>
  refine⟨λx hx hs=>?_,dC,dC,hl⟩;obtain⟨a',e,ha⟩:=hX _ hs;cases wr<;>cases sy<;>simp[MemAct.ofEvent,MemAct.touch?] at hx<;>(subst hx;cases e)
 | _=>exact (h:False).elim
theorem OW(hX:∀l,Shun l->∃a,l=.cell a/\X a.block)(es:Array Event)(h:∀e∈es,V7 X e)(B:Nat):∃B',B<=B'/\∀e∈es,EvL Shun B' e:=by
 have a0:∀l:List Event,(∀e∈l,V7 X e)->∃B',B<=B'/\∀e∈l,(MemAct.ofEvent e).low B':=λl=>by
  induction l with
  | nil=>exact λ_=>⟨B,A3 _,dC⟩
  | cons x l ih =>
   intro hl;obtain⟨b1,h1,h2⟩:=ih (λe he=>hl e (by simp[he]));obtain⟨b2,h3⟩:=Abo (hl x dC);refine⟨max b1 b2,B4 h1 (Nat.le_max_left _ _),λe he=>?_⟩;rcases List.mem_cons.1 he with rfl|he
   .exact MemAct.low_mono (Nat.le_max_right _ _) h3
   .exact MemAct.low_mono (Nat.le_max_left _ _) (h2 e he)
 obtain⟨B',h1,h2⟩:=a0 es.toList (λe he=>h e (by simpa using he));exact⟨B',h1,λe he=>Abp hX (h e he) (h2 e (by simpa using he))⟩
structure Fr (Shun:Loc->Prop) (B:Nat) (t:Trace):Prop where
 past:Past Shun B t
 known:∀i a,touchAt t i=some a->Knows t 0 i\/(Shun a.loc/\a.kind=.atomic)
theorem Fr.mono(h:Fr Shun B t)(hB:B<=B'):Fr Shun B' t:=⟨h.past.mono hB,h.known⟩
theorem Fr.app{u:Trace}(h:Fr Shun B t)(hp:Past Shun B' (t++u))(hu:∀op∈u,op.g=0\/op.act.touch?=none):Fr Shun B' (t++u):=by
 refine⟨hp,λi a ha=>?_⟩;obtain⟨z,hz,a0⟩:=touch_of ha;rcases getElem?_append_cases hz with⟨_,hz'⟩|⟨_,hzu⟩
 .exact (h.known i a (by rw[touchAt_of hz'];exact a0)).imp (·.app u) id
 .rcases hu z hzu with h0|h0
  .have:=knows_own hz;rw[h0] at this;exact .inl this
  .simp_all
theorem Fr.own(h:Fr Shun B t){pos:String}(hes:∀e∈es,EvL Shun B e):Fr Shun B (t++MemOp.ofEvents 0 fn pos es) :=
 h.app (h.past.own hes) λop hop=>by obtain⟨e,_,rfl⟩:=Go.Conc.mem_ofEvents hop;exact .inl rfl
theorem Fr.mute(h:Fr Shun B t)(hg:g≠0){pos:String}(hm:∀e∈es,e.mute=true):Fr Shun B (t++MemOp.ofEvents g fn pos es) :=
 h.app (h.past.mute hg hm) λop hop=>by obtain⟨e,he,rfl⟩:=Go.Conc.mem_ofEvents hop;exact .inr (touch_mute (hm e he))
theorem Afm:Fr (λ_=>False) 0 #[]:=⟨past_nil,λi a ha=>by simp[touchAt,Trace.act?] at ha⟩
theorem Run.at{g:Goroutine}(h:Run P X Stop g w)(d:Nat):Run P X Stop g (w.at d):=by
 cases h with
 | stop h=>exact .stop h
 | step hr g' w' es hs hf h=>exact .step hr g' w' es hs hf h
theorem GB{pos:String}:∀op∈MemOp.ofEvents g fn pos es,op.g=g:=λop hop=>by obtain⟨e,_,rfl⟩:=Go.Conc.mem_ofEvents hop;rfl
theorem Fe{a:Goroutine}(h0:gs[0]?=some a)(hr:a.status=.running)(hL:Leavers P t gs q)(hP:Fr Shun B t)(w:World)(sl:Option (Nat×Nat)):
  ∃d sl',(∀g' w' es B',stepG P true a (w.at d)=.go g' w' es->(∀e∈es,EvL Shun B' e)->B<=B'->∃gs' t',runNT P 1 (crowd gs w sl) t=(.next (crowd gs' w' sl'),t')/\gs'.size=gs.size/\gs'[0]?=some g'/\Leavers P t' gs' q/\Fr Shun B' t')\/
   ∃gs' t' q',runNT P 1 (crowd gs w sl) t=(.next (crowd gs' (w.at d) sl'),t')/\gs'.size=gs.size/\gs'[0]?=some a/\Leavers P t' gs' q'/\Fr Shun B t'/\sumTo gs.size q'<sumTo gs.size q:=by
 have a1:0<gs.size:=(D1.1 h0).1
 have a5:∀g∈gs,awake g:=λg hg=>by
  obtain⟨i,hi⟩:=Array.mem_iff_getElem?.1 hg;cases i with
  | zero=>rw[h0] at hi;cases hi;exact awake_of (.inl hr)
  | succ i=>exact awake_of ((hL.old (i+1) g oM hi).status.elim .inl λx=>.inr (.inr x))
 obtain⟨i,g,d,sl',hi,hg,a2⟩:=crowd_pick (P:=P) (w:=w) (sl:=sl) a5 ⟨0,a,h0,hr⟩;have a3:i<gs.size:=(D1.1 hi).1
 have a0:∀(g':Goroutine)(w':World)(es:Array Event)(j:Nat)(x:Goroutine),j≠i->((gs.map (woken P g g' w')).setIfInBounds i g')[j]?=some x->∃y,gs[j]?=some y/\x=woken P g g' w' y:=λg' w' es j x hj hx=>by
  grind
 refine⟨d,sl',?_⟩;cases i with
 | zero =>
  rw[h0] at hi;cases hi
  refine .inl λg' w' es B' hs hev hB=>?_;refine⟨_,_,by simp only[runNT,a2,runT_crowd_go (P:=P) (sl:=sl') (i:=0) h0 (show stepG P (0==0) a (w.at d)=_ from hs)];rfl,dC,by simp[a1],⟨λj x hj hx=>?_,λj hj=>?_⟩,(hP.mono hB).own hev⟩
  .obtain⟨y,hy,rfl⟩:=a0 g' w' es j x oM hx;have hq:=hL.old j y hj hy;rw[woken_quitsD hq,Deaf_other t (g':=0) oM _ GB];exact hq
  .rw[Deaf_other t (g':=0) (by simp at hj;omega) _ GB];exact hL.above j (by simpa using hj)
 | succ i =>
  refine .inr ?_;have hq:=hL.old (i+1) g oM hi;cases hqi:q (i+1) with
  | zero=>rw[hqi] at hq;rw[hq.1] at hg;cases hg
  | succ k =>
   rw[hqi] at hq;rcases hq with⟨hf,_⟩|⟨_,g',es,hm,hstp,hq'⟩
   .simp_all
   have a6:sumTo gs.size (upd q (i+1) k)+(k+1)=sumTo gs.size q+k:=by
    have:=sumTo_upd q k id a3;simpa [hqi] using this
   refine⟨_,_,upd q (i+1) k,by simp only[runNT,a2,runT_crowd_go (P:=P) (sl:=sl') (i:=i+1) hi (show stepG P (i+1==0) g (w.at d)=_ from hstp (w.at d))];rfl,dC,?_,⟨λj x hj hx=>?_,λj hj=>?_⟩,hP.mute oM hm,oM⟩
   .rw[Array.getElem?_setIfInBounds_ne oM,Array.getElem?_map,h0];simp[woken_run hr]
   .by_cases hji:j=i+1
    .subst hji;rw[Array.getElem?_setIfInBounds_self_of_lt (by simpa using a3)] at hx;cases hx
     rw[upd_same,Deaf_own];exact hq'
    .obtain⟨y,hy,rfl⟩:=a0 g' (w.at d) es j x hji hx;have a4:=hL.old j y hj hy;rw[woken_quitsD a4,upd_ne q k hji,Deaf_other t (g':=i+1) oM _ GB];exact a4
   .rw[Deaf_other t (g':=i+1) (by simp at hj;omega) _ GB];exact hL.above j (by simpa using hj)
theorem WB(hX:∀l,Shun l->∃a,l=.cell a/\X a.block){a:Goroutine}(h:Run P X Stop a w):
  ∀(M:Nat)(gs:Array Goroutine)(d:Nat)(sl:Option (Nat×Nat)) (t:Trace) (q:Nat->Nat) (B:Nat),sumTo gs.size q<=M->gs[0]?=some a->Leavers P t gs q->Fr Shun B t->
   ∃N gs' a' w' sl' t' q' B',runNT P N (crowd gs (w.at d) sl) t=(.next (crowd gs' w' sl'),t')/\gs'.size=gs.size/\gs'[0]?=some a'/\Stop a' w'/\Leavers P t' gs' q'/\Fr Shun B' t'/\B<=B':=by
 induction h with
 | stop h=>exact λM gs d sl t q B _ h0 hL hP=>⟨0,gs,_,_,sl,t,q,B,rfl,rfl,h0,h d,hL,hP,A3 _⟩
 | @step g w hr g' w' es hs hf _ ih =>
  intro M;induction M with
  | zero =>
   intro gs d sl t q B hM h0 hL hP;obtain⟨d',sl',h1|⟨a0,t1,q1,_,_,_,_,_,a8⟩⟩:=Fe h0 hr hL hP (w.at d) sl
   .obtain⟨B',hB,a7⟩:=OW hX (es d') (hf d') B;obtain⟨a0,t1,r1,z1,a1,L1,P1⟩:=h1 _ _ _ B' (hs d') a7 hB;obtain⟨N,a3,a2,w2,a4,t2,q2,B2,r2,z2,b2,a5,L2,P2,a6⟩:=ih d' (sumTo a0.size q) a0 (w' d').drawn sl' t1 q B' (A3 _) a1 L1 P1;exact⟨1+N,a3,a2,w2,a4,t2,q2,B2,by rw[runNT_add,r1];exact r2,z2.trans z1,b2,a5,L2,P2,B4 hB a6⟩
   .omega
  | succ M ihM =>
   intro gs d sl t q B hM h0 hL hP;obtain⟨d',sl',h1|⟨a0,t1,q1,r1,z1,a1,L1,P1,a8⟩⟩:=Fe h0 hr hL hP (w.at d) sl
   .obtain⟨B',hB,a7⟩:=OW hX (es d') (hf d') B;obtain⟨a0,t1,r1,z1,a1,L1,P1⟩:=h1 _ _ _ B' (hs d') a7 hB;obtain⟨N,a3,a2,w2,a4,t2,q2,B2,r2,z2,b2,a5,L2,P2,a6⟩:=ih d' (sumTo a0.size q) a0 (w' d').drawn sl' t1 q B' (A3 _) a1 L1 P1;exact⟨1+N,a3,a2,w2,a4,t2,q2,B2,by rw[runNT_add,r1];exact r2,z2.trans z1,b2,a5,L2,P2,B4 hB a6⟩
   .obtain⟨N,a3,a2,w2,a4,t2,q2,B2,r2,z2,b2,a5,L2,P2,a6⟩:=ihM a0 d' sl' t1 q1 B (by rw[z1];omega) a1 L1 P1;exact⟨1+N,a3,a2,w2,a4,t2,q2,B2,by rw[runNT_add,r1];exact r2,z2.trans z1,b2,a5,L2,P2,a6⟩
end
end
section
open Go.Conc
section
variable {P:Program} {X:Nat->Prop} {s:FZs}
def Rh(P:Program)(X:Nat->Prop)(w:World)(R:World->Value->World->Prop)(fe:Frame)(ue:World):Prop :=
 ∃τ d u0 v,R (F7 X w τ d) v u0/\fe.leaving P u0 (.returned v)/\M4 (λ_=>False) u0 ue
theorem YZ(fe:Frame)(u v:World)(h:M4 (λ_=>False) u v)(k:Rh P X w R fe u):Rh P X w R fe v:=by
 obtain⟨τ,d,u0,x,h1,h2,h3⟩:=k;exact⟨τ,d,u0,x,h1,h2,h3.trans h⟩
theorem WC(S:I6 P s):∀(N:Nat),M8 P s fr->(∀c∈seg,FK P s c)->M4 (λ_=>False) u u->runN P N (lone fr (seg++[c0 P]) u)=.next (lone fe [c0 P] ue)->M4 (λ_=>False) ue ue:=λN h hr hf hrun=>by
 obtain⟨ve,q1,q2⟩:=shift S N h hr hf hrun;rw[hrun,Stepped.next.injEq] at q1;obtain⟨_,_,e⟩:=Cg q1;rw[← e] at q2;exact q2
theorem OX[UX s X](S:I6 P s)(hf:s f=true)(hbf:((P.funcs[f]?).bind (·.body)).isSome=true)(ha:FL s f args)(hb:Aq X w)
  (hc:∀τ d,Calls P f args (F7 X w τ d) λe u'=>∃v,e=.returned v/\R (F7 X w τ d) v u') (bw:List Frame) :
  Run P X (Left P X s (Rh P X w R) bw) (G (Frame.enter P f args .normal) bw) w:=by
 have h0:=Rf (Ad9 S hf hbf w) args ha
 have a0:St P X s Vg (Rh P X w R) (Frame.enter P f args .normal) [] w:=⟨h0,dC,hb,λτ d=>by
  obtain⟨e,u',fr,⟨v,rfl,hR⟩,⟨N,hN⟩,_,hl⟩:=hc τ d [c0 P];have hs:J0 X 0 w (F7 X w τ d):=FM hb (λi q hi=>oM);have a1:M4 (λ_=>False) (F7 X w τ d) (F7 X w τ d):=λn=>⟨rfl,λ_ h=>h.elim,λ_ _=>rfl,λ_ h=>h.elim,hs.pendU,rfl,rfl,λ_ _ _=>rfl⟩;exact⟨N,fr,u',hN,hl.1,τ,d,u',v,hR,hl,WC S N h0 (seg:=[]) dC a1 hN⟩⟩
 exact YY S YZ bw a0
end
end
section
open Go.RowKit
def Ls(w:World)(v:Value)(ss:List BA):Prop :=
 ∃a c,v=.slice a ss.length c/\ss.length<=maxLen/\(∀s∈ss,s.size<=maxLen)/\(0<ss.length->∃b o,a=some ⟨b,o,none⟩/\G0 w b o ss/\b<w.heap.size)
theorem G0.up(h:G0 w g o ss)(hb:Up w w')(hg:g<w.heap.size):G0 w' g o ss :=
 λi s hs=>(hb.cell (p:=⟨g,o+i,none⟩) hg).trans (h i s hs)
theorem G0.cell(h:G0 w g o ss)(hk:k<ss.length):AS w g (o+k) (Tz ss[k]):=h k _ (by rw[A0])
theorem Ls.up(h:Ls w v ss)(hb:Up w w'):Ls w' v ss:=by
 obtain⟨a,c,rfl,h1,h2,h3⟩:=h;refine⟨a,c,rfl,h1,h2,λhp=>?_⟩;obtain⟨b,o,rfl,hS,a0⟩:=h3 hp;exact⟨b,o,rfl,hS.up hb a0,A1 a0 hb.size⟩
theorem Ls.inv{c:Nat}(h:Ls w (Vz a n c) ss):ss.length<=maxLen/\(∀s∈ss,s.size<=maxLen)/\(0<ss.length->∃b o,a=some ⟨b,o,none⟩/\G0 w b o ss/\b<w.heap.size):=by
 obtain⟨a',c',e,h1⟩:=h;obtain⟨rfl,-,rfl⟩:=Value.slice.inj e;exact h1
theorem Ls.drewN(h:Ls w v ss):Ls (w.drewN n) v ss:=h
theorem Ls.nil(w:World)(a)(c:Nat):Ls w (Vz a 0 c) []:=⟨a,c,rfl,dC,λs hs=>by simp at hs,λh=>by simp at h⟩
theorem CF.ls(h:CF w v ss)(hz:∀s∈ss,s.size<=maxLen):Ls w v ss:=by
 rcases h with⟨rfl,rfl⟩|⟨g,c,rfl,hS,hg,h1,h2⟩
 .exact Ls.nil _ _ _
 .exact⟨_,c,rfl,oM,hz,λ_=>⟨g,0,rfl,hS,hg⟩⟩
def GV(w:World)(b o:Nat)(x:Ba):Prop:=∃hv nv,w.rangeAt b o [.string x.nm,hv,nv]/\Ls w hv x.has/\Ls w nv x.nj/\x.nm.size<=maxLen
theorem GV.up(h:GV w b o x)(hb:Up w w')(hlt:b<w.heap.size):GV w' b o x:=by
 obtain⟨hv,nv,hr,h1,h2,h3⟩:=h;exact⟨hv,nv,λj v hv=>(hb.cell (p:=⟨b,o+j,none⟩) hlt).trans (hr j v hv),h1.up hb,h2.up hb,h3⟩
def ER(w:World)(b o:Nat)(bs:List Ba):Prop:=∀(i:Nat)(x:Ba),bs[i]?=some x->GV w b (o+i*3) x
theorem ER.up(h:ER w b o bs)(hb:Up w w')(hlt:b<w.heap.size):ER w' b o bs:=λi x hx=>(h i x hx).up hb hlt
theorem ER.at(h:ER w b o bs)(hk:k<bs.length):GV w b (o+k*3) bs[k]:=h k _ (by rw[A0])
theorem GV.cells(h:GV w b o x):∃a1 c1 a2 c2,AS w b o (Tz x.nm)/\AS w b (o+1) (Vz a1 x.has.length c1)/\AS w b (o+2) (Vz a2 x.nj.length c2)/\
  Ls w (Vz a1 x.has.length c1) x.has/\Ls w (Vz a2 x.nj.length c2) x.nj/\x.nm.size<=maxLen:=by
 obtain⟨hv,nv,hr,h1,h2,h3⟩:=h;obtain⟨a1,c1,rfl,-⟩:=id h1;obtain⟨a2,c2,rfl,-⟩:=id h2;exact⟨a1,c1,a2,c2,hr 0 _ rfl,hr 1 _ rfl,hr 2 _ rfl,h1,h2,h3⟩
def Bs(w:World)(v:Value)(bs:List Ba):Prop:=∃a c,v=.slice a bs.length c/\bs.length<=maxLen/\(0<bs.length->∃b o,a=some ⟨b,o,none⟩/\ER w b o bs/\b<w.heap.size)
theorem Bs.up(h:Bs w v bs)(hb:Up w w'):Bs w' v bs:=by
 obtain⟨a,c,rfl,h1,h3⟩:=h;refine⟨a,c,rfl,h1,λhp=>?_⟩;obtain⟨b,o,rfl,hS,a0⟩:=h3 hp;exact⟨b,o,rfl,hS.up hb a0,A1 a0 hb.size⟩
def Z5(w:World)(v:Value)(b:Bk):Prop:=∃tv bv,v=.agg #[tv,bv]/\Ls w tv b.tg/\Bs w bv b.bs
theorem Z5.up{b:Bk}(h:Z5 w v b)(hb:Up w w'):Z5 w' v b:=by
 obtain⟨tv,bv,rfl,h1,h2⟩:=h;exact⟨tv,bv,rfl,h1.up hb,h2.up hb⟩
theorem Z5.parts{b:Bk}(h:Z5 w v b):∃a1 c1 a2 c2,v=.agg #[Vz a1 b.tg.length c1,Vz a2 b.bs.length c2]/\Ls w (Vz a1 b.tg.length c1) b.tg/\Bs w (Vz a2 b.bs.length c2) b.bs:=by
 obtain⟨tv,bv,rfl,h1,h2⟩:=h;obtain⟨a1,c1,rfl,-⟩:=id h1;obtain⟨a2,c2,rfl,-⟩:=id h2;exact⟨a1,c1,a2,c2,rfl,h1,h2⟩
theorem CB.c2'(h:CB w b [x0,x1]):AS w b 0 x0/\AS w b 1 x1:=h.c2.1
theorem Bs.at{c:Nat}(h:Bs w (Vz a n c) bs):bs.length<=maxLen/\(0<bs.length->∃b o,a=some ⟨b,o,none⟩/\ER w b o bs/\b<w.heap.size):=by
 obtain⟨a',c',e,h1⟩:=h;obtain⟨rfl,-,rfl⟩:=Value.slice.inj e;exact h1
end
section
open Go.Maps
theorem AcY:∀(x y:List UInt8),Op.bytesLess x y=decide (x<y)
 | [],[]=>by simp[Op.bytesLess]
 | _::_,[]=>by simp[Op.bytesLess]
 | [],_::_=>by simp[Op.bytesLess]
 | a::x,b::y=>by
  rw[Op.bytesLess,AcY x y];simp only[List.cons_lt_cons_iff];by_cases h1:a<b<;>by_cases h2:a=b<;>by_cases h3:x<y<;>simp[h2]
theorem Vk(a b):U1 a b=true↔a.toList<b.toList:=by rw[U1,AcY];simp
theorem GC{a b c}(h:U1 a b=true)(k:U1 b c=true):U1 a c=true:=by
 rw[Vk] at *;grind
theorem Cu(a):U1 a a=false:=by
 rw[← Bool.not_eq_true,Vk];grind
theorem DF{l:List BA}(h:Y4 l):∀(d i:Nat)(a b:BA),l[i]?=some a->l[i+1+d]?=some b->U1 a b=true
 | 0,i,a,b,ha,hb=>h i a b (A2.1 hb).1 ha hb
 | d+1,i,a,b,ha,hb=>by
  have hl:i+1+(d+1)<l.length:=(A2.1 hb).1;have hm:l[i+1]?=some l[i+1]:=A0 oM;exact GC (h i a _ oM ha hm) (DF h d _ _ b hm (by rwa[show i+1+1+d=i+1+(d+1) by omega]))
theorem Ir(h:Y4 l){j:Nat}{a:BA}(hi:l[i]?=some a)(hj:l[j]?=some a):i=j:=by
 rcases Nat.lt_trichotomy i j with h1|h1|h1
 .have:=DF h (j-i-1) i a a hi (by rw[show i+1+(j-i-1)=j by omega];exact hj);rw[Cu] at this;cases this
 .exact h1
 .have:=DF h (i-j-1) j a a hj (by rw[show j+1+(i-j-1)=i by omega];exact hi);rw[Cu] at this;cases this
theorem Rs:∀(l m:List BA),(∀(i j:Nat)(a:BA),l[i]?=some a->l[j]?=some a->i=j)->(∀s∈l,s∈m)->l.length<=m.length
 | [],m,_,_=>by simp
 | x::r,m,hd,hs=>by
  have hx:x∈m:=hs x dC;obtain⟨m1,m2,rfl⟩:=List.append_of_mem hx
  have:=Rs r (m1++m2) (λi j a hi hj=>by
   have:=hd (i+1) (j+1) a (by simpa using hi) (by simpa using hj);omega) (λs h=>by
   have h1:=hs s (by simp[h]);rcases C8.1 h1 with h2|h2
   .simp[h2]
   .rcases List.mem_cons.1 h2 with h3|h3
    .subst h3;obtain⟨i,hi,e⟩:=B7 h;have:=hd 0 (i+1) s dC (by simp[A0 hi,e]);omega
    .simp[h3])
  simp at this ⊢;omega
theorem Ff(h:O0 l all):l.length<=all.length:=Rs l all (λ_ _ _ hi hj=>Ir h.2 hi hj) (λ_ hs=>Jj h.1 hs)
def kl(s:BA):Lit:=.string s.data.toList
theorem Zi{a b}(h:kl a=kl b):a=b:=by
 simp[kl] at h;cases a;simp at h;rw[h]
theorem Rt(s):WideAt.IsKeyLit (kl s):=trivial
def AU(bs:List Ba)(k m:Nat)(s:BA)(i:Nat):Prop:=∃x,bs[i]?=some x/\(i<k/\s∈x.has\/i=k/\s∈x.has.take m)
def Q9(D:DataW Unit)(bs:List Ba)(k m:Nat):Prop:=IsMap D/\(∀s,Maps.has D (kl s)=true->∃i,AU bs k m s i)/\(∀s i,AU bs k m s i->Maps.has D (kl s)=true/\∀z,D.atKey (kl s) z=.lit (.int .i64 (i:Int)))
theorem Q9.start(bs:List Ba):Q9 (.map []) bs 0 0:=by
 refine⟨isMap_empty,λs h=>by simp[Maps.has] at h,λs i h=>?_⟩;obtain⟨x,_,h|h⟩:=h
 .omega
 .grind
theorem AU.up{s:BA}(h:AU bs k m s i):AU bs k (m+1) s i:=by
 obtain⟨x,hx,h|⟨h1,h2⟩⟩:=h
 .exact⟨x,hx,.inl h⟩
 .refine⟨x,hx,.inr ⟨h1,?_⟩⟩;rw[List.mem_take_iff_getElem] at h2 ⊢
  obtain⟨j,hj,e⟩:=h2;exact⟨j,oM,e⟩
theorem AU.new(hk:k<bs.length)(hm:m<(bs[k]).has.length):AU bs k (m+1) ((bs[k]).has[m]) k :=
 ⟨bs[k],A0 hk,.inr ⟨rfl,by rw[List.mem_take_iff_getElem];exact⟨m,oM,rfl⟩⟩⟩
theorem AU.split{s:BA}(hk:k<bs.length)(hm:m<(bs[k]).has.length)(h:AU bs k (m+1) s i):AU bs k m s i\/(i=k/\s=(bs[k]).has[m]):=by
 obtain⟨x,hx,h|⟨rfl,h2⟩⟩:=h
 .exact .inl ⟨x,hx,.inl h⟩
 .rw[A0 hk] at hx;obtain rfl:=A5 hx;rw[A7 hm] at h2;rcases C8.1 h2 with h3|h3
  .exact .inl ⟨_,A0 hk,.inr ⟨rfl,h3⟩⟩
  .simp_all
theorem Q9.step{D:DataW Unit}(h:Q9 D bs k m)(hk:k<bs.length)(hm:m<(bs[k]).has.length)(hn:Maps.has D (kl ((bs[k]).has[m]))=false):
  Q9 (D.put (kl ((bs[k]).has[m])) (.lit (.int .i64 (k:Int)))) bs k (m+1):=by
 obtain⟨h1,h2,h3⟩:=h;refine⟨h1.put _ _,λs hs=>?_,λs i hi=>?_⟩
 .by_cases e:kl s=kl ((bs[k]).has[m])
  .obtain rfl:=Zi e;exact⟨k,AU.new hk hm⟩
  .rw[has_put_other e] at hs;obtain⟨i,hi⟩:=h2 s hs;exact⟨i,hi.up⟩
 .rcases hi.split hk hm with h4|⟨rfl,rfl⟩
  .have e:kl s≠kl ((bs[k]).has[m]):=λe=>by
    grind
   exact⟨by rw[has_put_other e];exact (h3 s i h4).1,λz=>by rw[atKey_put_other e];exact (h3 s i h4).2 z⟩
  .exact⟨has_put_same h1 (Rt _) _,λz=>atKey_put_same h1 (Rt _) _ z⟩
theorem AU.next{s:BA}(hk:k<bs.length)(hm:¬m<(bs[k]).has.length):AU bs k m s i↔AU bs (k+1) 0 s i:=by
 constructor
 .rintro⟨x,hx,h|⟨rfl,h2⟩⟩
  .exact⟨x,hx,.inl ⟨oM,h.2⟩⟩
  .exact⟨x,hx,.inl ⟨oM,List.mem_of_mem_take h2⟩⟩
 .rintro⟨x,hx,h|⟨_,h2⟩⟩
  .by_cases e:i=k
   .subst e;rw[A0 hk] at hx;obtain rfl:=A5 hx;exact⟨_,A0 hk,.inr ⟨rfl,by rw[D0 oM];exact h.2⟩⟩
   .exact⟨x,hx,.inl ⟨oM,h.2⟩⟩
  .simp at h2
theorem Q9.next{D:DataW Unit}(h:Q9 D bs k m)(hk:k<bs.length)(hm:¬m<(bs[k]).has.length):Q9 D bs (k+1) 0 :=
 ⟨h.1,λs hs=>by obtain⟨i,hi⟩:=h.2.1 s hs;exact⟨i,(AU.next hk hm).1 hi⟩,λs i hi=>h.2.2 s i ((AU.next hk hm).2 hi)⟩
theorem Q9.twice{D:DataW Unit}(h:Q9 D bs k m)(hk:k<bs.length)(hm:m<(bs[k]).has.length)(hd:Y4 (bs[k]).has)(hn:Maps.has D (kl ((bs[k]).has[m]))=true):¬BT bs:=λha=>by
 obtain⟨i,x,hx,h4|⟨rfl,h4⟩⟩:=h.2.1 _ hn
 .have hi:i<bs.length:=(A2.1 hx).1;have:=ha.at hk h4.1;rw[Az] at this;rw[A0 hi] at hx;obtain rfl:=A5 hx;exact this _ (List.getElem_mem hm) h4.2
 .rw[A0 hk] at hx;obtain rfl:=A5 hx;rw[List.mem_take_iff_getElem] at h4;obtain⟨j,hj,e⟩:=h4;have:=Ir hd (i:=j) (j:=m) (A0 oM) (by rw[e];exact A0 hm);omega
theorem Q9.apart{D:DataW Unit}(h:Q9 D bs k 0)(hk:¬k<bs.length):BT bs:=λi j x y hji hi hx hy=>by
 have li:=(A2.1 hx).1;have lj:=(A2.1 hy).1;rw[Az];intro s h1 h2;have e1:=(h.2.2 s i ⟨x,hx,.inl ⟨oM,h1⟩⟩).2 .nil;have e2:=(h.2.2 s j ⟨y,hy,.inl ⟨oM,h2⟩⟩).2 .nil;rw[e1] at e2;simp at e2;omega
end
section
def Ed(p:Ph):List T6:=if p.k=2 then [p.a.toList,p.b.toList] else [p.a.toList]
def Y3(ps:List Ph)(nm:BA):List BA:=O4 (λ_=>[]) (λp a b=>T1 (T1 (Dm p) a) b) [] ps nm
def EX(p:Ph)(a b:List T6):List T6:=uniq (Ed p++a++b)
def MC(_:Int):List T6:=[]
def Io(ps:List Ph)(nm:BA):List T6:=O4 MC EX [] ps nm
theorem Va(p:Ph):(D7 (Dm p)).Pairwise (· < ·)/\∀x,x∈D7 (Dm p)↔x∈Ed p:=by
 unfold Dm Ed;by_cases h:p.k=2
 .rw[if_pos h,if_pos h];obtain⟨h1,h2⟩:=QP [p.a] p.b;refine⟨h2 (by simp[D7]),λx=>?_⟩;rw[h1];simp[D7]
 .rw[if_neg h,if_neg h];exact⟨by simp[D7],λx=>by simp[D7]⟩
theorem YQ(p:Ph)(a b:List BA):D7 (T1 (T1 (Dm p) a) b)=EX p (D7 a) (D7 b):=by
 obtain⟨o1,o2⟩:=Va p;obtain⟨m1,p1⟩:=Ka a (Dm p);obtain⟨m2,p2⟩:=Ka b (T1 (Dm p) a);obtain⟨u1,u2⟩:=Dn (Ed p++D7 a++D7 b);refine EY _ _ (p2 (p1 o1)) u1 λx=>?_;rw[m2,m1,o2];show _↔x∈uniq _
 rw[u2,C8,C8]
theorem DA:∀(ps:List Ph)(nm:BA),D7 (Y3 ps nm)=Io ps nm
 | [],nm=>by unfold Y3 Io O4;split<;>rfl
 | p::rest,nm=>by
  have ih:=DA rest;unfold Y3 Io at *;rw[O4,O4];split
  .rw[YQ,ih,ih]
  .exact ih nm
theorem Kb:∀(ps:List Ph)(nm:BA),(Io ps nm).Pairwise (· < ·)
 | [],nm=>by unfold Io O4;split<;>simp[MC]
 | p::rest,nm=>by
  have ih:=Kb rest;unfold Io at *;rw[O4];split
  .exact (Dn _).1
  .exact ih nm
theorem Kc:∀(ps:List Ph)(nm:BA)(x:T6),x∈Io ps nm->x∈ps.flatMap Ed
 | [],nm,x,h=>by
  unfold Io O4 at h;split at h<;>simp[MC] at h
 | p::rest,nm,x,h=>by
  have ih:=Kc rest;unfold Io at *;rw[O4] at h;rw[List.flatMap_cons,C8];split at h
  .have:=((Dn _).2 x).1 h;rw[C8,C8] at this;rcases this with (h1|h1)|h1
   .exact .inl h1
   .grind
   .grind
  .exact .inr (ih _ x h)
theorem Ee:∀(m l:List T6),l.Nodup->(∀x∈l,x∈m)->l.length<=m.length
 | [],l,_,h=>by
  cases l with
  | nil=>simp
  | cons x r=>have:=h x dC;simp at this
 | a::m,l,hn,h=>by
  have ih:=Ee m (l.erase a) (hn.erase a) (λx hx=>by
   have hx':=(List.Nodup.mem_erase_iff hn).1 hx;rcases List.mem_cons.1 (h x hx'.2) with e|e
   .exact absurd e hx'.1
   .exact e)
  have:=List.length_erase (a:=a) (l:=l);split at this<;>simp only[List.length_cons]<;>omega
theorem OP(ps:List Ph)(nm:BA):(Io ps nm).length<=2*ps.length:=by
 have hn:(Io ps nm).Nodup:=(Kb ps nm).imp λh e=>by subst e;exact My _ h
 have h1:=Ee (ps.flatMap Ed) _ hn (Kc ps nm)
 have h2:∀l:List Ph,(l.flatMap Ed).length<=2*l.length:=by
  intro l;induction l with
  | nil=>simp
  | cons p r ih =>
   rw[List.flatMap_cons,A9,List.length_cons];have:(Ed p).length<=2:=by unfold Ed;split<;>simp
   omega
 exact B4 h1 (h2 ps)
theorem Ip(ps:List Ph)(nm:BA):(Y3 ps nm).length<=2*ps.length:=by
 have:=OP ps nm;rw[← DA] at this;simpa [D7] using this
def Cc(ps:List Ph)(nm:BA):List BA:=if M3 ps=true then Y3 ps nm else []
end
section
open Go.RowKit
theorem CL(s:BA)(w)(hs:s.size<=maxLen):
  cE prog 163 #[Tz s] w (.bool (E4 s&&K1 s==0)):=by
 cases hn:E4 s
 all_goals
  delta cE;go_in;go_wp2_with (first|(refine (H9 _ _ sO).mono ?_;rintro e w' ⟨rfl,rfl⟩)|(refine (S7 _ _).mono ?_;rintro e w' ⟨rfl,rfl⟩))
  go_ret;exact⟨D4 dC,rfl⟩
set_option maxHeartbeats 2000000 in
theorem Jb(nm:BA)(k:Int)(a b:BA)(n wi:Int)(t e:BA)(w:World)(ha:a.size<=maxLen)(hb:b.size<=maxLen):
  Calls prog 164 #[.agg #[Tz nm,Iz k,Tz a,Tz b,Iz n,Iz wi,Tz t,Tz e]] w
   λe w'=>e=.returned (.bool (L4 k a b n wi))/\Up w w':=by
 by_cases h1:k=1
 .subst h1;cases hA:E4 a<;>cases hB:E4 b
  all_goals
   go_in;go_wp2_with (first|(go_at_call 69;refine (H9 _ _ sO).mono ?_;rintro e w' ⟨rfl,rfl⟩)|(go_at_call 31;refine (I5 _ _ _ _).mono ?_;rintro e w' ⟨rfl,rfl⟩))
   go_ret;exact⟨D4 (by simp[L4,hA,hB]),(A4 _ _).alloc (A3 _) _⟩
 by_cases h2:k=2
 .subst h2;cases hA:E4 a<;>cases hB:E4 b<;>cases hE:(a.toList==b.toList)
  all_goals
   go_in;go_wp2_with (first|(go_at_call 69;refine (H9 _ _ sO).mono ?_;rintro e w' ⟨rfl,rfl⟩)|(go_at_call 31;refine (I5 _ _ _ _).mono ?_;rintro e w' ⟨rfl,rfl⟩))
   go_ret;exact⟨D4 (by simp[L4,hA,hB,hE]),(A4 _ _).alloc (A3 _) _⟩
 by_cases h3:k=3
 .subst h3;cases hA:E4 a<;>cases hE:b.toList.isEmpty
  all_goals
   go_in;go_wp2_with (first|(go_at_call 69;refine (H9 _ _ sO).mono ?_;rintro e w' ⟨rfl,rfl⟩)|(go_at_call 31;refine (I5 _ _ _ _).mono ?_;rintro e w' ⟨rfl,rfl⟩))
   go_ret;exact⟨D4 (by simp[L4,hA,hE]),(A4 _ _).alloc (A3 _) _⟩
 by_cases h4:k=4
 .subst h4;cases hA:E4 a<;>cases hE:b.toList.isEmpty
  all_goals
   go_in;go_wp2_with (first|(go_at_call 69;refine (H9 _ _ sO).mono ?_;rintro e w' ⟨rfl,rfl⟩)|(go_at_call 31;refine (I5 _ _ _ _).mono ?_;rintro e w' ⟨rfl,rfl⟩))
   go_ret;exact⟨D4 (by simp[L4,hA,hE]),(A4 _ _).alloc (A3 _) _⟩
 by_cases h5:k=5
 .subst h5;cases hA:E4 a<;>cases hE:b.toList.isEmpty
  all_goals
   go_in;go_wp2_with (first|(go_at_call 69;refine (H9 _ _ sO).mono ?_;rintro e w' ⟨rfl,rfl⟩)|(go_at_call 31;refine (I5 _ _ _ _).mono ?_;rintro e w' ⟨rfl,rfl⟩))
   go_ret;exact⟨D4 (by simp[L4,hA,hE]),(A4 _ _).alloc (A3 _) _⟩
 have hr:Hid (L4 k a b n wi=false):=by show _=_;simp[L4,h1,h2,h3,h4,h5]
 have e1:(k==1)=false:=by simpa using h1
 have e2:(k==2)=false:=by simpa using h2
 have e3:(k==3)=false:=by simpa using h3
 have e4:(k==4)=false:=by simpa using h4
 have e5:(k==5)=false:=by simpa using h5
 clear h1 h2 h3 h4 h5;go_in;go_wp2_with (first|(go_at_call 69;refine (H9 _ _ sO).mono ?_;rintro e w' ⟨rfl,rfl⟩)|(go_at_call 31;refine (I5 _ _ _ _).mono ?_;rintro e w' ⟨rfl,rfl⟩))
 go_ret;exact⟨D4 hr.out.symm,(A4 _ _).alloc (A3 _) _⟩
set_option maxHeartbeats 1000000 in
theorem Q6(nm:BA)(k:Int)(a b:BA)(n wi:Int)(t e:BA)(w:World)(hnm:nm.size<=maxLen)(ha:a.size<=maxLen)(hb:b.size<=maxLen)(ht:t.size<=maxLen)(he:e.size<=maxLen):
  Calls prog 123 #[.agg #[Tz nm,Iz k,Tz a,Tz b,Iz n,Iz wi,Tz t,Tz e]] w
   λe' w'=>e'=.returned (.bool (O7 nm k a b n wi t e))/\Up w w':=by
 cases h1:(E4 nm&&K1 nm==0)
 .go_in;go_wp2_with (go_at_call 163;refine (CL _ _ sO).mono ?_;rintro e w' ⟨rfl,rfl⟩)
  go_ret;exact⟨D4 (by simp[O7,h1]),(A4 _ _).alloc (A3 _) _⟩
 cases h2:U7 wi 1 1000
 .go_in;go_wp2_with (first|(go_at_call 163;refine (CL _ _ sO).mono ?_;rintro e w' ⟨rfl,rfl⟩)|(go_at_call 31;refine (I5 _ _ _ _).mono ?_;rintro e w' ⟨rfl,rfl⟩))
  go_ret;exact⟨D4 (by simp[O7,h2]),(A4 _ _).alloc (A3 _) _⟩
 cases h3:L4 k a b n wi
 .go_in;go_wp2_with (first|(go_at_call 163;refine (CL _ _ sO).mono ?_;rintro e w' ⟨rfl,rfl⟩)|(go_at_call 31;refine (I5 _ _ _ _).mono ?_;rintro e w' ⟨rfl,rfl⟩)|(go_at_call 164;refine (Jb _ _ _ _ _ _ _ _ _ sO sO).mono ?_;rintro e w' ⟨rfl,a0⟩;obtain⟨hc,hf⟩:=E2 a0)|(go_at_call 69;refine (H9 _ _ sO).mono ?_;rintro e w' ⟨rfl,rfl⟩))
  go_ret;exact⟨D4 (by simp[O7,h3]),D3 ((A4 _ _).alloc (A3 _) _) a0⟩
 cases h4:E4 t
 .go_in;go_wp2_with (first|(go_at_call 163;refine (CL _ _ sO).mono ?_;rintro e w' ⟨rfl,rfl⟩)|(go_at_call 31;refine (I5 _ _ _ _).mono ?_;rintro e w' ⟨rfl,rfl⟩)|(go_at_call 164;refine (Jb _ _ _ _ _ _ _ _ _ sO sO).mono ?_;rintro e w' ⟨rfl,a0⟩;obtain⟨hc,hf⟩:=E2 a0)|(go_at_call 69;refine (H9 _ _ sO).mono ?_;rintro e w' ⟨rfl,rfl⟩))
  go_ret;exact⟨D4 (by simp[O7,h4]),D3 ((A4 _ _).alloc (A3 _) _) a0⟩
 .go_in;go_wp2_with (first|(go_at_call 163;refine (CL _ _ sO).mono ?_;rintro e w' ⟨rfl,rfl⟩)|(go_at_call 31;refine (I5 _ _ _ _).mono ?_;rintro e w' ⟨rfl,rfl⟩)|(go_at_call 164;refine (Jb _ _ _ _ _ _ _ _ _ sO sO).mono ?_;rintro e w' ⟨rfl,a0⟩;obtain⟨hc,hf⟩:=E2 a0)|(go_at_call 69;refine (H9 _ _ sO).mono ?_;rintro e w' ⟨rfl,rfl⟩))
  go_ret;exact⟨D4 (by simp[O7,h1,h2,h3,h4]),D3 ((A4 _ _).alloc (A3 _) _) a0⟩
theorem Vb{w1:World}{B:Nat}(hB:B<W1.heap.size)(h:Up W1 w0/\AS w0 B 0 x0/\AS w0 B 1 x1/\AS w0 B 2 x2/\AS w0 B 3 x3/\AS w0 B 4 x4/\AS w0 B 5 x5/\AS w0 B 6 x6/\AS w0 B 7 x7)(hb:Up w0 w1):Up W1 w1/\AS w1 B 0 x0/\AS w1 B 1 x1/\AS w1 B 2 x2/\AS w1 B 3 x3/\AS w1 B 4 x4/\AS w1 B 5 x5/\AS w1 B 6 x6/\AS w1 B 7 x7:=by
 obtain⟨h1,a0,a1,a2,a3,a4,a5,a6,a7⟩:=h;have hl:B<w0.heap.size:=A1 hB h1.size;exact⟨D3 h1 hb,(hb.cell (p:=⟨B,0,none⟩) hl).trans a0,(hb.cell (p:=⟨B,1,none⟩) hl).trans a1,(hb.cell (p:=⟨B,2,none⟩) hl).trans a2,(hb.cell (p:=⟨B,3,none⟩) hl).trans a3,(hb.cell (p:=⟨B,4,none⟩) hl).trans a4,(hb.cell (p:=⟨B,5,none⟩) hl).trans a5,(hb.cell (p:=⟨B,6,none⟩) hl).trans a6,(hb.cell (p:=⟨B,7,none⟩) hl).trans a7⟩
theorem OQ{B:Nat}(h:Up W1 w0/\AS w0 B 0 x0/\AS w0 B 1 x1/\AS w0 B 2 x2/\AS w0 B 3 x3/\AS w0 B 4 x4/\AS w0 B 5 x5/\AS w0 B 6 x6/\AS w0 B 7 x7):Up W1 w0.drew/\w0.drew.cell? ⟨B,0,none⟩=some x0/\w0.drew.cell? ⟨B,1,none⟩=some x1/\w0.drew.cell? ⟨B,2,none⟩=some x2/\w0.drew.cell? ⟨B,3,none⟩=some x3/\w0.drew.cell? ⟨B,4,none⟩=some x4/\w0.drew.cell? ⟨B,5,none⟩=some x5/\w0.drew.cell? ⟨B,6,none⟩=some x6/\w0.drew.cell? ⟨B,7,none⟩=some x7:=by
 obtain⟨h1,a0,a1,a2,a3,a4,a5,a6,a7⟩:=h;exact⟨h1.drew,a0,a1,a2,a3,a4,a5,a6,a7⟩
end
end Go.Proofs.YtaffjphkobhagaaGreatDoor
