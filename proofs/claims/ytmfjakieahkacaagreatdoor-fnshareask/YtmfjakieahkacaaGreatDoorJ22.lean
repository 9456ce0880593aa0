/- Runs carried over, 9: one step of a goroutine whose frames are of functions that call no others than their texts name. -/
import Derived.Test.YtmfjakieahkacaaGreatDoorJ21
import Derived.Conc.CrowdRun
set_option maxHeartbeats 1600000
namespace Go.Proofs.YtmfjakieahkacaaGreatDoor
open Go.Conc
section
variable {P:Program} {X:Nat->Prop} {s:Nat->Bool}
theorem Nl{id:Nat}:∀{k l:List Item},(∀i∈k,U2 P s i)->exitTo id k=some l->∀i∈l,U2 P s i
 | [],l,_,h=>by cases h
 | x::k,l,hk,h=>by
  have ih:=λhh=>Nl (id:=id) (k:=k) (l:=l) (λi hi=>hk i (by simp[hi])) hh;cases x<;>simp only[exitTo] at h<;>first|exact ih h|skip
  split at h
  ·cases h;exact λi hi=>hk i (by simp[hi])
  ·exact ih h
theorem Xq{ops:Array Oper}(h:(ops.all λo=>ER P s o.op)=true):∀o∈ops,ER P s o.op=true:=by
 intro o ho;obtain⟨i,hi,rfl⟩:=Array.mem_iff_getElem.1 ho;exact Array.all_eq_true.1 h i hi
theorem RG{ops:Array Oper}(h:(ops.all λo=>ER P s o.op)=true){l:List Nat}:U2 P s (.inRegion ops l):=λ_ _ o ho=>Xq h o (Array.mem_of_getElem? ho)
theorem Vf{a:Item}{k:List Item}(ha:U2 P s a)(hk:∀i∈k,U2 P s i):∀i∈a::k,U2 P s i:=λi hx=>(List.mem_cons.1 hx).elim (λe=>e ▸ ha) (hk i)
theorem FJ{a b:Item}{k:List Item}(ha:U2 P s a)(hb:U2 P s b)(hk:∀i∈k,U2 P s i):∀i∈a::b::k,U2 P s i:=Vf ha (Vf hb hk)
theorem QY(S:N0 P s){fr:Frame}(h:N8 P s fr)(hm:fr.mode=.run){cu cw:List Frame}{w u:World}{n:Nat}(hs:U7 X n w u):
  Dj P X s n cu cw w u (stepG P true (G fr cu) u) (stepG P true (G fr cw) w):=by
 have hr:=h.round
 have still:∀{fr':Frame},N8 P s fr'->(∀cs x,stepG P true (G fr cs) x=.go (G fr' cs) x #[])->Dj P X s n cu cw w u (stepG P true (G fr cu) u) (stepG P true (G fr cw) w):=λ{fr'} hf e=>by
  rw[e,e];exact⟨λ_=>.inr ⟨fr',[],u,w,#[],rfl,rfl,hf,by simp,⟨n,On.refl hs⟩,by simp⟩,λ_ _ _ _ _=>.inr ⟨fr',[],u,w,#[],rfl,rfl,hf,by simp,On.refl hs,by simp⟩⟩
 have over:(∃o x es,stepG P true (G fr cu) u=.ended o x es)->Dj P X s n cu cw w u (stepG P true (G fr cu) u) (stepG P true (G fr cw) w):=λh=>⟨λ_=>.inl h,λ_ _ _ _ _=>.inl h⟩;have ht:=h.todo;cases hto:fr.todo with
 | nil=>exact still (Jx h .returning) (λcs x=>by simp[stepG,stepG.exec,G,hm,hto,hr])
 | cons it k =>
  rw[hto] at ht;have hk:∀i∈k,U2 P s i:=λi hi=>ht i (by simp[hi]);have hi:U2 P s it:=ht it (by simp);have go1:∀(l:List Item),(∀i∈l,U2 P s i)->(∀cs x,stepG P true (G fr cs) x=.go (G {fr with todo:=l} cs) x #[])->Dj P X s n cu cw w u (stepG P true (G fr cu) u) (stepG P true (G fr cw) w):=λl hl e=>still (RF h hl) e;cases it with
  | inBlock id=>exact go1 k hk (λcs x=>by simp[stepG,stepG.exec,G,hm,hto])
  | inScope b=>exact go1 k hk (λcs x=>by simp[stepG,stepG.exec,G,hm,hto])
  | inLoop b=>exact go1 (.code b::.inLoop b::k) (FJ hi hi hk) (λcs x=>by simp[stepG,stepG.exec,G,hm,hto])
  | inRegion ops l =>
   cases l with
   | nil=>exact go1 k hk (λcs x=>by simp[stepG,stepG.exec,G,hm,hto])
   | cons i rest =>
    have fin:(∀cs x,stepG P true (G fr cs) x=.go (G (fr.finish undef) cs) x #[])->Dj P X s n cu cw w u (stepG P true (G fr cu) u) (stepG P true (G fr cw) w):=λe=>still (Gc h _) e;cases ho:ops[i]? with
    | none=>exact fin (λcs x=>by simp[stepG,stepG.exec,G,hm,hto,ho])
    | some o =>
     cases hw:Region.wanted o (yielded ops fr.tmps) with
     | false=>exact fin (λcs x=>by simp[stepG,stepG.exec,G,hm,hto,ho,hw])
     | true =>
      have hoo:ER P s o.op=true:=hi i (by simp) o ho;obtain⟨q1,q2⟩:=Oc (X:=X) S fr o hoo;have q0:=(Oc (X:=λ_=>False) S fr o hoo).1
      have e:∀cs x,stepG P true (G fr cs) x=stepG.apply P true fr cs none (execOp fr.eval o) x:=λcs x=>by
       simp[stepG,stepG.exec,G,hm,hto,ho,hw,stepG.oper,Frame.oper?,hr]
      rw[e,e];exact NU S h hto q1 q0 q2 hs
  | code c =>
   have hc:N7 P s c=true:=hi;cases c with
   | skip=>exact go1 k hk (λcs x=>by simp[stepG,stepG.exec,G,hm,hto])
   | label l=>exact go1 k hk (λcs x=>by simp[stepG,stepG.exec,G,hm,hto])
   | seq a b =>
    simp only[N7,Bool.and_eq_true] at hc;exact go1 (.code a::.code b::k) (FJ hc.1 hc.2 hk) (λcs x=>by simp[stepG,stepG.exec,G,hm,hto])
   | block id b=>exact go1 (.code b::.inBlock id::k) (FJ hc trivial hk) (λcs x=>by simp[stepG,stepG.exec,G,hm,hto])
   | loop b=>exact go1 (.code b::.inLoop b::k) (FJ hc hc hk) (λcs x=>by simp[stepG,stepG.exec,G,hm,hto])
   | scope b=>exact go1 (.code b::.inScope b::k) (FJ hc hc hk) (λcs x=>by simp[stepG,stepG.exec,G,hm,hto])
   | cond c a b =>
    simp only[N7,Bool.and_eq_true] at hc;cases hv:fr.eval c with
    | bool t =>
     exact go1 (.code (if t then a else b)::k) (Vf (by cases t<;>simp[U2,hc.1,hc.2]) hk) (λcs x=>by simp only[stepG,stepG.exec,G,hm,hto,hv])
    | _=>exact over ⟨_,_,_,by simp only[stepG,stepG.exec,G,hm,hto,hv];rfl⟩
   | ret=>exact still (Jx h .returning) (λcs x=>by simp[stepG,stepG.exec,G,hm,hto,hr])
   | exit id =>
    cases hx:exitTo id k with
    | some l=>exact go1 l (Nl hk hx) (λcs x=>by simp[stepG,stepG.exec,G,hm,hto,hx])
    | none=>exact over ⟨.stuck "exit, goto: no such block or label" (Frame.pos P fr),u,#[],by simp[stepG,stepG.exec,G,hm,hto,hx,hr]⟩
   | region id ops d =>
    cases d with
    | false=>exact go1 (.inRegion ops (List.range ops.size)::k) (Vf (RG hc) hk) (λcs x=>by simp[stepG,stepG.exec,G,hm,hto])
    | true =>
     have e:∀cs x,stepG P true (G fr cs) x=.go (G {fr with todo:=.inRegion ops (Region.schedule (P.follows .mixedOrders) ops (x.tape x.drawn (.order fr.fn id)))::k} cs) {x with drawn:=x.drawn+1} #[]:=λcs x=>by
      simp[stepG,stepG.exec,G,hm,hto,choose,Sem.run,Question.forced,Question.cut]
     have hl:∀x:World,N8 P s {fr with todo:=.inRegion ops (Region.schedule (P.follows .mixedOrders) ops (x.tape x.drawn (.order fr.fn id)))::k}:=λx=>RF h (Vf (RG hc) hk)
     have main:∀m,U7 X (m+1) w u->(∃o x es,stepG P true (G fr cu) u=.ended o x es)∨∃fr' new u' w' es,stepG P true (G fr cu) u=.go (G fr' (new++cu)) u' es/\stepG P true (G fr cw) w=.go (G fr' (new++cw)) w' es/\N8 P s fr'/\(∀c∈new,N8 P s c)/\On X (m+1) w u w' u'/\∀e∈es,Aj X e:=λm hs=>by
      have e0:u.tape u.drawn (.order fr.fn id)=w.tape w.drawn (.order fr.fn id):=hs.tape 0 _ (by omega);have hlw:=hl w;rw[e,e,e0];exact .inr ⟨_,[],_,_,#[],rfl,rfl,hlw,by simp,⟨rfl,rfl,1,by omega,rfl,rfl,hs.draw⟩,by simp⟩
     constructor
     ·intro hf;rcases main 0 (hf 1) with h1|⟨fr',new,u',w',es,a1,a2,a3,a4,a5,a6⟩
      ·exact .inl h1
      ·exact .inr ⟨fr',new,u',w',es,a1,a2,a3,a4,⟨_,a5⟩,a6⟩
     ·intro g1 w1 e1 hst hd;have e1:=hst;rw[e] at e1;cases e1
      cases n with
      | zero=>simp only at hd;omega
      | succ m=>exact main m hs
   | rangeFunc=>cases hc
   | goto=>cases hc
   | refuse=>cases hc
  | _=>exact hi.elim
theorem IZ(fn:Func)(tmps:Array Value):D0 P X (results fn tmps):=by
 unfold results;refine D0.bind (Ux (λr=>?_) _) (λ_=>D0.pure' _);split
 ·exact D0.pure' _
 ·exact D0.bind (G5 _) (λ_=>D8 _ _)
theorem QZ(_S:N0 P s){fr c:Frame}(h:N8 P s fr)(hc:N8 P s c)(hm:fr.mode=.returning){cu cw:List Frame}{w u:World}{n:Nat}(hs:U7 X n w u):
  Dj P X s n cu cw w u (stepG P true (G fr (c::cu)) u) (stepG P true (G fr (c::cw)) w):=by
 obtain⟨fn,hf⟩:=h.fn
 have main:∀m,ON X m w u #[] ((results fn fr.tmps).runT P w #[]) ((results fn fr.tmps).runT P u #[])->(∃o x es,stepG P true (G fr (c::cu)) u=.ended o x es)∨∃fr' new u' w' es,stepG P true (G fr (c::cu)) u=.go (G fr' (new++cu)) u' es/\stepG P true (G fr (c::cw)) w=.go (G fr' (new++cw)) w' es/\N8 P s fr'/\(∀c∈new,N8 P s c)/\On X m w u w' u'/\∀e∈es,Aj X e:=λm ha=>by
  generalize hu:(results fn fr.tmps).runT P u #[]=ru at ha;simp only[stepG,G,hm,unwind,h.defers,hf,hu,doReturn,h.kind];match ru,hu,ha with
  | (.ok v u1,eu),hu,⟨hev,w1,hw,hon⟩ =>
   refine .inr ⟨c.finish v,[],u1,w1,_,rfl,by simp only[hw,GStep.after];rfl,Gc hc v,by simp,hon,λe hx=>?_⟩;rw[Array.append_empty] at hx;exact (hev e (mem_seen hx)).elim (λhx=>by simp at hx) id
  | (.halt k u1,eu),hu,_=>cases k<;>exact .inl ⟨_,_,_,rfl⟩
 constructor
 ·intro hfu;rcases main _ (IZ (P:=P) (X:=X) fn fr.tmps (JR ((results fn fr.tmps).runT P u #[]).1) w u #[] (hfu _) (.inr (Nat.le_add_left _ _))) with h1|⟨fr',new,u',w',es,a1,a2,a3,a4,a5,a6⟩
  ·exact .inl h1
  ·exact .inr ⟨fr',new,u',w',es,a1,a2,a3,a4,⟨_,a5⟩,a6⟩
 ·intro g1 w1 e1 hst hd;refine main n (IZ (P:=P) (X:=X) fn fr.tmps n w u #[] hs (.inl ?_));generalize hu:(results fn fr.tmps).runT P w #[]=ru at hst ⊢
  simp only[stepG,G,hm,unwind,h.defers,hf,hu,doReturn,h.kind] at hst;match ru,hst with
  | (.ok v u1,eu),hst=>simp only[GStep.after] at hst;cases hst;exact hd
  | (.halt k u1,eu),hst=>cases k<;>(simp only[GStep.after] at hst;cases hst)
theorem Ra(_S:N0 P s){fr c:Frame}{ch:List PanicEntry}(h:N8 P s fr)(hc:N8 P s c)(hm:fr.mode=.panicking ch){cu cw:List Frame}{w u:World}{n:Nat}(hs:U7 X n w u):
  Dj P X s n cu cw w u (stepG P true (G fr (c::cu)) u) (stepG P true (G fr (c::cw)) w):=by
 obtain⟨fn,hf⟩:=h.fn;have hcat:fr.catches P=false:=by unfold Frame.catches;rw[hf]
 simp only[stepG,G,hm,unwind,h.defers,hcat,Bool.false_eq_true,if_false];exact⟨λ_=>.inr ⟨c.raise ch,[],u,w,_,rfl,rfl,Kr hc ch,by simp,⟨n,On.refl hs⟩,by simp⟩,λ_ _ _ _ _=>.inr ⟨c.raise ch,[],u,w,_,rfl,rfl,Kr hc ch,by simp,On.refl hs,by simp⟩⟩
end
section
variable {P:Program} {X:Nat->Prop} {s:Nat->Bool}
def Jy(P:Program)(X:Nat->Prop)(s:Nat->Bool)(bu bw:List Frame)(su sw:GStep)(Q:World->World->Prop):Prop :=
 (∃o x es,su=.ended o x es)∨∃fr' seg' u' w' es,su=.go (G fr' (seg'++bu)) u' es/\sw=.go (G fr' (seg'++bw)) w' es/\N8 P s fr'/\(∀c∈seg',N8 P s c)/\Q w' u'/\∀e∈es,Aj X e
def DZ(fr:Frame)(seg:List Frame):Prop:=fr.mode=.run∨seg≠[]
theorem EC(S:N0 P s){fr:Frame}{seg bu bw:List Frame}(h:N8 P s fr)(hr:∀c∈seg,N8 P s c)(hg:DZ fr seg){w u:World}{n:Nat}(hs:U7 X n w u):
  (R4 X w u->Jy P X s bu bw (stepG P true (G fr (seg++bu)) u) (stepG P true (G fr (seg++bw)) w) (λw' u'=>∃m,On X m w u w' u'))/\
  (∀g1 w1 e1,stepG P true (G fr (seg++bw)) w=.go g1 w1 e1->w1.drawn<=w.drawn+n->Jy P X s bu bw (stepG P true (G fr (seg++bu)) u) (stepG P true (G fr (seg++bw)) w) (λw' u'=>On X n w u w' u')):=by
 have lift:∀{t:List Frame} {su sw:GStep},(∀c∈t,N8 P s c)->Dj P X s n (t++bu) (t++bw) w u su sw->
   (R4 X w u->Jy P X s bu bw su sw (λw' u'=>∃m,On X m w u w' u'))/\(∀g1 w1 e1,sw=.go g1 w1 e1->w1.drawn<=w.drawn+n->Jy P X s bu bw su sw (λw' u'=>On X n w u w' u')):=λ{t su sw} ht hc=>by
  have both:∀{new:List Frame},(∀c∈new,N8 P s c)->∀c∈new++t,N8 P s c:=λhn c hx=>(C6.1 hx).elim (hn c) (ht c);constructor
  ·intro hf;rcases hc.1 hf with h1|⟨fr',new,u',w',es,a1,a2,a3,a4,a5,a6⟩
   ·exact .inl h1
   ·exact .inr ⟨fr',new++t,u',w',es,by rw[a1,List.append_assoc],by rw[a2,List.append_assoc],a3,both a4,a5,a6⟩
  ·intro g1 w1 e1 hst hd;rcases hc.2 g1 w1 e1 hst hd with h1|⟨fr',new,u',w',es,a1,a2,a3,a4,a5,a6⟩
   ·exact .inl h1
   ·exact .inr ⟨fr',new++t,u',w',es,by rw[a1,List.append_assoc],by rw[a2,List.append_assoc],a3,both a4,a5,a6⟩
 cases hm:fr.mode with
 | run=>exact lift hr (QY S h hm hs)
 | returning =>
  cases seg with
  | nil=>exact (hg.elim (λhg=>by rw[hm] at hg;cases hg) λhg=>absurd rfl hg)
  | cons c t=>exact lift (λx hx=>hr x (by simp[hx])) (QZ S h (hr c (by simp)) hm (cu:=t++bu) (cw:=t++bw) hs)
 | panicking ch =>
  cases seg with
  | nil=>exact (hg.elim (λhg=>by rw[hm] at hg;cases hg) λhg=>absurd rfl hg)
  | cons c t=>exact lift (λx hx=>hr x (by simp[hx])) (Ra S h (hr c (by simp)) hm (cu:=t++bu) (cw:=t++bw) hs)
open Classical in
noncomputable def BQ(X:Nat->Prop)(i:Nat)(o:Obj):Obj:=if X i then (match o with | .cells _ e f=>.cells #[] e f|o=>o) else o
noncomputable def pz(X:Nat->Prop)(w:World):World:={w with heap:=w.heap.mapIdx (BQ X)}
noncomputable def E0(X:Nat->Prop)(w:World)(τ:Nat->Question->Nat)(d:Nat):World:={pz X w with tape:=τ,drawn:=d}
structure N9 (X:Nat->Prop) (w:World):Prop where
 old:∀b,X b->b<w.heap.size
 cov:∀b,X b->∃c e,w.heap[b]?=some (Obj.cells c e (0,0))
 pend:∀(b:Nat)(c:Array Value)(t:TypeId),w.heap[b]?=some (Obj.pending c t)->gN<=b
theorem Cz(w:World)(b:Nat):(pz X w).heap[b]?=(w.heap[b]?).map (BQ X b):=by simp[pz]
theorem FK{w:World}(h:N9 X w){τ:Nat->Question->Nat}{d n:Nat}(ht:∀i q,i<n->τ (d+i) q=w.tape (w.drawn+i) q):U7 X n w (E0 X w τ d):=by
 refine⟨by simp[E0,pz],h.old,λb hb=>?_,λb hb=>?_,h.pend,rfl,rfl,ht⟩
 ·show (pz X w).heap[b]?=_
  rw[Cz];cases w.heap[b]? with
  | none=>rfl
  | some o=>simp[BQ,hb]
 ·obtain⟨c,e,hw⟩:=h.cov b hb;refine⟨c,e,hw,?_⟩;show (pz X w).heap[b]?=_
  rw[Cz,hw];simp[BQ,hb]
theorem U7.base{n:Nat}{w u:World}(h:U7 X n w u):N9 X w:=⟨h.old,λb hb=>by obtain⟨c,e,hw,_⟩:=h.cov b hb;exact⟨c,e,hw⟩,h.pend⟩
theorem U7.eq_pz{n:Nat}{w u:World}(h:U7 X n w u):u=E0 X w u.tape u.drawn:=by
 have hh:u.heap=(pz X w).heap:=by
  apply Array.ext_getElem?
  intro b;rw[Cz];by_cases hb:X b
  ·obtain⟨c,e,hw,hu⟩:=h.cov b hb;rw[hu,hw];simp[BQ,hb]
  ·rw[h.same b hb];cases w.heap[b]? with
   | none=>rfl
   | some o=>simp[BQ,hb]
 cases u
 simp only[E0,pz] at hh ⊢
 have h1:=h.os;have h2:=h.output;simp only at h1 h2;subst hh h1 h2;rfl
theorem On.base{n:Nat}{w u w' u':World}(h:On X n w u w' u'):N9 X w':=by
 obtain⟨_,_,_,_,hs⟩:=h.drew;exact hs.base
end
section
variable {P:Program} {X:Nat->Prop} {s:Nat->Bool}
theorem BR{fr fr':Frame}{cs cs':List Frame}{u u':World}{es:Array Event}(h:stepG P true (G fr cs) u=.go (G fr' cs') u' es):step P (lone fr cs u)=.next (lone fr' cs' u') :=
 step_lone_go (by
  have e:stepG P true {frame:=fr,callers:=cs,status:=.running,dying:=none} u=.go (G fr' cs') u' es:=h;rw[e];rfl)
theorem Dl{fr:Frame}{cs:List Frame}{u u':World}{o:Outcome}{es:Array Event}(h:stepG P true (G fr cs) u=.ended o u' es):step P (lone fr cs u)=.ended o u' :=
 step_lone_ended (by
  have e:stepG P true {frame:=fr,callers:=cs,status:=.running,dying:=none} u=.ended o u' es:=h;rw[e];rfl)
theorem Y7{fr fr':Frame}{cs cs':List Frame}{u u':World}(h:lone fr cs u=lone fr' cs' u'):fr=fr'/\cs=cs'/\u=u':=by
 simp only[lone,Machine.mk.injEq,Array.mk.injEq,List.cons.injEq,Goroutine.mk.injEq] at h;exact⟨h.2.1.1.1,h.2.1.1.2.1,h.1⟩
def c0(P:Program):Frame:={fn:=P.funcs.size,tmps:=#[],todo:=[.code (.refuse "")],defers:=[{target:=.nil,args:=#[]}],mode:=.run,kind:=.normal}
theorem Dc(_S:N0 P s){fr fe:Frame}(h:N8 P s fr)(hm:¬DZ fr []){u ue:World}:∀{N:Nat},runN P N (lone fr [c0 P] u)=.next (lone fe [c0 P] ue)->N=0
 | 0,_=>rfl
 | N+1,hr=>by
  exfalso
  obtain⟨fn,hf⟩:=h.fn;have hcat:fr.catches P=false:=by unfold Frame.catches;rw[hf]
  have dead:∀(c:Frame)(x:World),(c=(c0 P)∨∃ch,c=(c0 P).raise ch)->∀M,runN P M (lone c [] x)≠.next (lone fe [c0 P] ue):=λc x hc M hM=>by
   have hend:∃o y es,stepG P true (G c []) x=.ended o y es:=by
    rcases hc with rfl|⟨ch,rfl⟩
    ·exact⟨_,_,_,by simp only[stepG,stepG.exec,G,c0];rfl⟩
    ·exact⟨_,_,_,by simp only[stepG,G,c0,Frame.raise,unwind,callDeferred];rfl⟩
   obtain⟨o,y,es,he⟩:=hend;cases M with
   | zero=>simp only[runN,Stepped.next.injEq] at hM;have:=(Y7 hM).2.1;cases this
   | succ M=>simp only[runN,Dl he] at hM;cases hM
  simp only[runN] at hr;cases hmo:fr.mode with
  | run=>exact hm (.inl hmo)
  | panicking ch =>
   have e:stepG P true (G fr [c0 P]) u=.go (G ((c0 P).raise ch) []) u #[]:=by
    simp[stepG,G,hmo,unwind,h.defers,hcat]
   rw[BR e] at hr;exact dead _ _ (.inr ⟨ch,rfl⟩) N hr
  | returning =>
   generalize hu:(results fn fr.tmps).runT P u #[]=ru;match ru,hu with
   | (.ok v u1,eu),hu =>
    have e:stepG P true (G fr [c0 P]) u=.go (G (c0 P) []) u1 (seen P fr.fn eu ++ #[]):=by
     simp only[stepG,G,hmo,unwind,h.defers,hf,hu,doReturn,h.kind,GStep.after];rfl
    rw[BR e] at hr;exact dead _ _ (.inl rfl) N hr
   | (.halt k u1,eu),hu =>
    have e:∃o y es,stepG P true (G fr [c0 P]) u=.ended o y es:=by
     simp only[stepG,G,hmo,unwind,h.defers,hf,hu];cases k<;>exact⟨_,_,_,rfl⟩
    obtain⟨o,y,es,e⟩:=e;rw[Dl e] at hr;cases hr
theorem R4.symm{u v:World}(h:R4 (λ_=>False) u v):R4 (λ_=>False) v u:=λn =>
 ⟨(h n).size.symm,λ_ h=>h.elim,λb hb=>((h n).same b hb).symm,λ_ h=>h.elim,(h n).pendU,(h n).os.symm,(h n).output.symm,λi q hi=>((h n).tape i q hi).symm⟩
theorem R4.trans{u v x:World}(h:R4 (λ_=>False) u v)(k:R4 (λ_=>False) v x):R4 (λ_=>False) u x:=λn =>
 ⟨(k n).size.trans (h n).size,λ_ h=>h.elim,λb hb=>((k n).same b hb).trans ((h n).same b hb),λ_ h=>h.elim,(h n).pend,(k n).os.trans (h n).os,(k n).output.trans (h n).output,λi q hi=>((k n).tape i q hi).trans ((h n).tape i q hi)⟩
theorem shift(S:N0 P s):∀(N:Nat) {fr fe:Frame} {seg:List Frame} {u v ue:World},N8 P s fr->(∀c∈seg,N8 P s c)->R4 (λ_=>False) u v->runN P N (lone fr (seg++[c0 P]) u)=.next (lone fe [c0 P] ue)->
  ∃ve,runN P N (lone fr (seg++[c0 P]) v)=.next (lone fe [c0 P] ve)/\R4 (λ_=>False) ue ve
 | 0,fr,fe,seg,u,v,ue,h,hr,hf,hrun=>by
  simp only[runN,Stepped.next.injEq] at hrun;obtain⟨e1,e2,e3⟩:=Y7 hrun;subst e1 e3;exact⟨v,by simp only[runN,e2],hf⟩
 | N+1,fr,fe,seg,u,v,ue,h,hr,hf,hrun=>by
  by_cases hg:DZ fr seg
  ·have hf':=hf.symm;rcases (EC S (bu:=[c0 P]) (bw:=[c0 P]) h hr hg (hf' 0)).1 hf' with⟨o,x,es,e⟩|⟨fr',seg',u',v',es,e1,e2,a3,a4,⟨m,a5⟩,_⟩
   ·simp only[runN,Dl e] at hrun;cases hrun
   ·simp only[runN,BR e1] at hrun;obtain⟨ve,q1,q2⟩:=shift S N a3 a4 (hf'.on a5).symm hrun;exact⟨ve,by simp only[runN,BR e2];exact q1,q2⟩
  ·have hseg:seg=[]:=by
    cases seg with
    | nil=>rfl
    | cons c t=>exact absurd (.inr (by simp)) hg
   subst hseg;have:=Dc S h hg hrun;omega
end
section
variable {P:Program} {X:Nat->Prop} {s:Nat->Bool} {E:Frame->Prop} {F:Frame->World->Prop}
def K(P:Program)(X:Nat->Prop)(E:Frame->Prop)(F:Frame->World->Prop)(fr:Frame)(seg:List Frame)(w:World):Prop :=
 ∀τ d,∃N fe ue,runN P N (lone fr (seg++[c0 P]) (E0 X w τ d))=.next (lone fe [c0 P] ue)/\E fe/\F fe ue
abbrev Nm (fr:Frame):Prop:=fr.mode=.returning
structure St (P:Program) (X:Nat->Prop) (s:Nat->Bool) (E:Frame->Prop) (F:Frame->World->Prop) (fr:Frame) (seg:List Frame) (w:World):Prop where
 top:N8 P s fr
 rest:∀c∈seg,N8 P s c
 base:N9 X w
 ends:K P X E F fr seg w
theorem N9.at{w:World}(h:N9 X w)(d:Nat):N9 X (w.at d):=⟨h.old,h.cov,h.pend⟩
theorem K.next{fr:Frame}{seg:List Frame}{w:World}(h:K P X E F fr seg w)(hg:seg=[]->¬E fr)(τ:Nat->Question->Nat)(d:Nat):
  ∃m,step P (lone fr (seg++[c0 P]) (E0 X w τ d))=.next m/\∃N fe ue,runN P N m=.next (lone fe [c0 P] ue)/\E fe/\F fe ue:=by
 obtain⟨N,fe,ue,hr,hm,hF⟩:=h τ d;cases N with
 | zero =>
  exfalso
  simp only[runN,Stepped.next.injEq] at hr;obtain⟨e1,e2,_⟩:=Y7 hr
  have hseg:seg=[]:=by
   cases seg with
   | nil=>rfl
   | cons c t=>have:=congrArg List.length e2;simp at this
  exact hg hseg (e1 ▸ hm)
 | succ N =>
  simp only[runN] at hr;cases hs:step P (lone fr (seg++[c0 P]) (E0 X w τ d)) with
  | next m=>rw[hs] at hr;exact⟨m,rfl,N,fe,ue,hr,hm,hF⟩
  | ended o x=>rw[hs] at hr;cases hr
theorem Mh(S:N0 P s)(hF:∀fe u v,R4 (λ_=>False) u v->F fe u->F fe v){fr:Frame}{seg:List Frame}{w:World}(h:St P X s E F fr seg w)(hg:DZ fr seg)(hE:seg=[]->¬E fr)(bw:List Frame)(d:Nat):
  ∃fr' seg' w' es k,stepG P true (G fr (seg++bw)) (w.at d)=.go (G fr' (seg'++bw)) w' es/\(∀e∈es,Aj X e)/\St P X s E F fr' seg' w'/\w'.tape=w.tape/\w'.drawn=d+k/\
   ∀τ d0,(∀i q,i<k->τ (d0+i) q=w.tape (d+i) q)->step P (lone fr (seg++[c0 P]) (E0 X w τ d0))=.next (lone fr' (seg'++[c0 P]) (E0 X w' τ (d0+k))):=by
 have hb:=h.base.at d;have hfull:R4 X (w.at d) (E0 X w w.tape d):=λn=>FK hb (λi q _=>rfl)
 have noend:∀τ d0,¬∃o x es,stepG P true (G fr (seg++[c0 P])) (E0 X w τ d0)=.ended o x es:=λτ d0 ⟨o,x,es,e⟩=>by
  obtain⟨m,hm,_⟩:=h.ends.next hE τ d0;rw[Dl e] at hm;cases hm
 rcases (EC S (bu:=[c0 P]) (bw:=bw) h.top h.rest hg (hfull 0)).1 hfull with e|⟨fr',seg',u',w',es,a1,a2,a3,a4,⟨m,a5⟩,a6⟩
 ·exact absurd e (noend _ _)
 obtain⟨k,_,dw,_,hsim⟩:=a5.drew
 have clause:∀τ d0,(∀i q,i<k->τ (d0+i) q=w.tape (d+i) q)->step P (lone fr (seg++[c0 P]) (E0 X w τ d0))=.next (lone fr' (seg'++[c0 P]) (E0 X w' τ (d0+k))):=λτ d0 ht=>by
  have hs:U7 X k (w.at d) (E0 X w τ d0):=FK hb ht;rcases (EC S (bu:=[c0 P]) (bw:=bw) h.top h.rest hg hs).2 _ _ _ a2 (by rw[dw];exact A3 _) with e|⟨fr2,seg2,u2,w2,es2,b1,b2,_,_,b5,_⟩
  ·exact absurd e (noend _ _)
  rw[a2] at b2;rw[GStep.go.injEq] at b2;obtain⟨hG,hw2,-⟩:=b2;subst hw2;have h1:fr'=fr2:=congrArg (·.frame) hG;have h2:seg'++bw=seg2++bw:=congrArg (·.callers) hG;have h2:=List.append_cancel_right h2;subst h1 h2;obtain⟨k2,_,dw2,du2,hs2⟩:=b5.drew;have hk:k2=k:=by omega
  subst hk;rw[BR b1];have e:=hs2.eq_pz;rw[b5.tu,du2] at e;rw[e];rfl
 refine⟨fr',seg',w',es,k,a2,a6,⟨a3,a4,a5.base,λτ' d'=>?_⟩,a5.tw,dw,clause⟩;have hst:=clause (λp q=>if p<k then w.tape (d+p) q else τ' (d'+(p-k)) q) 0 (λi q hi=>by simp only[Nat.zero_add,if_pos hi]);obtain⟨m1,e1,N,fe,ue,hr,hm,hFe⟩:=h.ends.next hE (λp q=>if p<k then w.tape (d+p) q else τ' (d'+(p-k)) q) 0;rw[hst] at e1;cases e1
 have hb':=a5.base;have hs':∀(τ:Nat->Question->Nat)(d:Nat),U7 X 0 w' (E0 X w' τ d):=λτ d=>FK hb' (λi q hi=>by omega)
 have hfu:R4 (λ_=>False) (E0 X w' (λp q=>if p<k then w.tape (d+p) q else τ' (d'+(p-k)) q) (0+k)) (E0 X w' τ' d'):=λn =>
  ⟨rfl,λ_ h=>h.elim,λ_ _=>rfl,λ_ h=>h.elim,(hs' _ _).pendU,rfl,rfl,λi q _=>by
   show τ' (d'+i) q=(if 0+k+i<k then w.tape (d+(0+k+i)) q else τ' (d'+(0+k+i-k)) q)
   rw[if_neg (by omega)];congr 1
   omega⟩
 obtain⟨ve,q1,q2⟩:=shift S N a3 a4 hfu hr;exact⟨N,fe,ve,q1,hm,hF _ _ _ q2 hFe⟩
end
inductive AU (P:Program) (X:Nat->Prop) (Stop:Goroutine->World->Prop):Goroutine->World->Prop
 | stop {g:Goroutine} {w:World} (h:∀d,Stop g (w.at d)):AU P X Stop g w
 | step {g:Goroutine} {w:World} (hr:g.status=.running) (g':Nat->Goroutine) (w':Nat->World) (es:Nat->Array Event) (hs:∀d,stepG P true g (w.at d)=.go (g' d) (w' d) (es d)) (hf:∀d,∀e∈es d,Aj X e) (h:∀d,AU P X Stop (g' d) (w' d)):AU P X Stop g w
section
variable {P:Program} {X:Nat->Prop} {s:Nat->Bool} {E:Frame->Prop} {F:Frame->World->Prop}
def Left(P:Program)(X:Nat->Prop)(s:Nat->Bool)(F:Frame->World->Prop)(bw:List Frame)(g:Goroutine)(w:World):Prop :=
 ∃fe,g=G fe bw/\fe.mode=.returning/\N8 P s fe/\N9 X w/\∀τ d,F fe (E0 X w τ d)
theorem ZF(S:N0 P s){fr:Frame}{seg:List Frame}{w:World}(h:St P X s Nm F fr seg w)(hg:¬DZ fr seg)(bw:List Frame)(d:Nat):Left P X s F bw (G fr (seg++bw)) (w.at d):=by
 have hseg:seg=[]:=by
  cases seg with
  | nil=>rfl
  | cons c t=>exact absurd (.inr (by simp)) hg
 subst hseg
 have key:∀τ d,fr.mode=.returning/\F fr (E0 X w τ d):=λτ d=>by
  obtain⟨N,fe,ue,hr,hm,hF⟩:=h.ends τ d;have hN:=Dc S h.top hg hr;subst hN;simp only[runN,List.nil_append,Stepped.next.injEq] at hr;obtain⟨e1,_,e3⟩:=Y7 hr;subst e1 e3;exact⟨hm,hF⟩
 exact⟨fr,rfl,(key (λ_ _=>0) 0).1,h.top,h.base.at d,λτ d=>(key τ d).2⟩
def Bad(P:Program)(X:Nat->Prop)(s:Nat->Bool)(F:Frame->World->Prop)(bw:List Frame)(x:Frame×List Frame×World):Prop :=
 St P X s Nm F x.1 x.2.1 x.2.2/\¬AU P X (Left P X s F bw) (G x.1 (x.2.1++bw)) x.2.2
theorem Xr(S:N0 P s)(hF:∀fe u v,R4 (λ_=>False) u v->F fe u->F fe v){bw:List Frame}{x:Frame×List Frame×World}(h:Bad P X s F bw x):
  (x.2.1=[]->¬Nm x.1)/\∃(d k:Nat)(y:Frame×List Frame×World),Bad P X s F bw y/\y.2.2.tape=x.2.2.tape/\
   ∀τ d0,(∀i q,i<k->τ (d0+i) q=x.2.2.tape (d+i) q)->step P (lone x.1 (x.2.1++[c0 P]) (E0 X x.2.2 τ d0))=.next (lone y.1 (y.2.1++[c0 P]) (E0 X y.2.2 τ (d0+k))):=by
 obtain⟨hst,hn⟩:=h;have hg:DZ x.1 x.2.1:=Classical.byContradiction λhg=>hn (.stop λd=>ZF S hst hg bw d);refine⟨λe h=>hg.elim (λhm=>by rw[h] at hm;cases hm) (λhh=>hh e),Classical.byContradiction λhno=>hn ?_⟩;have hs:=λd=>Mh S hF hst hg (λe h=>hg.elim (λhm=>by rw[h] at hm;cases hm) (λhh=>hh e)) bw d;let fr':=λd=>Classical.choose (hs d)
 let seg':=λd=>Classical.choose (Classical.choose_spec (hs d))
 let w':=λd=>Classical.choose (Classical.choose_spec (Classical.choose_spec (hs d)))
 let es:=λd=>Classical.choose (Classical.choose_spec (Classical.choose_spec (Classical.choose_spec (hs d))))
 have sp:∀d,∃k,stepG P true (G x.1 (x.2.1++bw)) (x.2.2.at d)=.go (G (fr' d) (seg' d++bw)) (w' d) (es d)/\(∀e∈es d,Aj X e)/\St P X s Nm F (fr' d) (seg' d) (w' d)/\(w' d).tape=x.2.2.tape/\(w' d).drawn=d+k/\
   ∀τ d0,(∀i q,i<k->τ (d0+i) q=x.2.2.tape (d+i) q)->step P (lone x.1 (x.2.1++[c0 P]) (E0 X x.2.2 τ d0))=.next (lone (fr' d) (seg' d++[c0 P]) (E0 X (w' d) τ (d0+k))) :=
  λd=>Classical.choose_spec (Classical.choose_spec (Classical.choose_spec (Classical.choose_spec (hs d))))
 refine .step rfl (λd=>G (fr' d) (seg' d++bw)) w' es (λd=>(sp d).choose_spec.1) (λd=>(sp d).choose_spec.2.1) (λd=>?_);refine Classical.byContradiction λhr=>hno ?_;obtain⟨k,_,_,a3,a4,_,a6⟩:=sp d;exact⟨d,k,(fr' d,seg' d,w' d),⟨a3,hr⟩,a4,a6⟩
theorem Ks{B0:Frame×List Frame×World->Prop}(nxt:∀x,B0 x->(x.2.1=[]->¬E x.1)/\∃(d k:Nat)(y:Frame×List Frame×World),B0 y/\y.2.2.tape=x.2.2.tape/\
   ∀τ d0,(∀i q,i<k->τ (d0+i) q=x.2.2.tape (d+i) q)->step P (lone x.1 (x.2.1++[c0 P]) (E0 X x.2.2 τ d0))=.next (lone y.1 (y.2.1++[c0 P]) (E0 X y.2.2 τ (d0+k))))
  {fr:Frame} {seg:List Frame} {w:World} (hb:B0 (fr,seg,w)) (hk:K P X E F fr seg w):False:=by
 let B:={x:Frame×List Frame×World // B0 x}
 have nx:∀b:B,∃(d k:Nat)(y:B),y.1.2.2.tape=b.1.2.2.tape/\∀τ d0,(∀i q,i<k->τ (d0+i) q=b.1.2.2.tape (d+i) q)->step P (lone b.1.1 (b.1.2.1++[c0 P]) (E0 X b.1.2.2 τ d0))=.next (lone y.1.1 (y.1.2.1++[c0 P]) (E0 X y.1.2.2 τ (d0+k))):=λb=>by
  obtain⟨_,d,k,y,h1,h2,h3⟩:=nxt b.1 b.2;exact⟨d,k,⟨y,h1⟩,h2,h3⟩
 let dd:=λb:B=>Classical.choose (nx b)
 let kk:=λb:B=>Classical.choose (Classical.choose_spec (nx b))
 let yy:=λb:B=>Classical.choose (Classical.choose_spec (Classical.choose_spec (nx b)))
 have sp:∀b:B,(yy b).1.2.2.tape=b.1.2.2.tape/\∀τ d0,(∀i q,i<kk b->τ (d0+i) q=b.1.2.2.tape (dd b+i) q)->step P (lone b.1.1 (b.1.2.1++[c0 P]) (E0 X b.1.2.2 τ d0))=.next (lone (yy b).1.1 ((yy b).1.2.1++[c0 P]) (E0 X (yy b).1.2.2 τ (d0+kk b))) :=
  λb=>Classical.choose_spec (Classical.choose_spec (Classical.choose_spec (nx b)))
 let f:Nat->B:=λi=>Nat.rec (⟨(fr,seg,w),hb⟩:B) (λ_ b=>yy b) i
 have f0:f 0=⟨(fr,seg,w),hb⟩:=rfl;have fs:∀i,f (i+1)=yy (f i):=λi=>rfl;let c:Nat->Nat:=λi=>Nat.rec (0:Nat) (λi a=>a+kk (f i)) i
 have cs:∀i,c (i+1)=c i+kk (f i):=λi=>rfl
 have tp:∀i,(f i).1.2.2.tape=w.tape:=λi=>by
  induction i with
  | zero=>rfl
  | succ i ih=>rw[fs,(sp (f i)).1,ih]
 have cm:∀i j,i<=j->c i<=c j:=λi j hij=>by
  induction hij with
  | refl=>exact A3 _
  | step _ ih=>rw[cs];exact B3 ih (Nat.le_add_right _ _)
 let τ:Nat->Question->Nat:=λp q=>open Classical in if hx:∃ij:Nat×Nat,ij.2<kk (f ij.1)/\p=c ij.1+ij.2 then w.tape (dd (f hx.choose.1)+hx.choose.2) q else 0
 have hτ:∀i j q,j<kk (f i)->τ (c i+j) q=w.tape (dd (f i)+j) q:=λi j q hj=>by
  have hx:∃ij:Nat×Nat,ij.2<kk (f ij.1)/\c i+j=c ij.1+ij.2:=⟨(i,j),hj,rfl⟩;have e:τ (c i+j) q=w.tape (dd (f hx.choose.1)+hx.choose.2) q:=dif_pos hx;rw[e];obtain⟨h1,h2⟩:=hx.choose_spec
  have hi:hx.choose.1=i:=by
   rcases Nat.lt_trichotomy hx.choose.1 i with hl|hl|hl
   ·have:=cm _ _ hl;rw[Nat.succ_eq_add_one,cs] at this;omega
   ·exact hl
   ·have:=cm _ _ hl;rw[Nat.succ_eq_add_one,cs] at this;omega
  have hj':hx.choose.2=j:=by rw[hi] at h2;omega
  rw[hi,hj']
 have runs:∀i,runN P i (lone fr (seg++[c0 P]) (E0 X w τ 0))=.next (lone (f i).1.1 ((f i).1.2.1++[c0 P]) (E0 X (f i).1.2.2 τ (c i))):=λi=>by
  induction i with
  | zero=>rfl
  | succ i ih =>
   rw[runN_add,ih];simp only[runN];rw[(sp (f i)).2 τ (c i) (λj q hj=>by rw[tp];exact hτ i j q hj)]
 obtain⟨N,fe,ue,hr,hm,_⟩:=hk τ 0;rw[runs N,Stepped.next.injEq] at hr;obtain⟨e1,e2,_⟩:=Y7 hr;have hg:=(nxt (f N).1 (f N).2).1
 have hseg:(f N).1.2.1=[]:=by
  cases hs:(f N).1.2.1 with
  | nil=>rfl
  | cons a t=>rw[hs] at e2;have:=congrArg List.length e2;simp at this
 exact hg hseg (e1 ▸ hm)
theorem Nn(S:N0 P s)(hF:∀fe u v,R4 (λ_=>False) u v->F fe u->F fe v)(bw:List Frame){fr:Frame}{seg:List Frame}{w:World}(h:St P X s Nm F fr seg w):AU P X (Left P X s F bw) (G fr (seg++bw)) w :=
 Classical.byContradiction λhn=>Ks (B0:=Bad P X s F bw) (λ_ hx=>Xr S hF hx) ⟨h,hn⟩ h.ends
end
end Go.Proofs.YtmfjakieahkacaaGreatDoor
namespace Go.Proofs.YtmfjakieahkacaaGreatDoor
open Go.Conc
open Go.ConcN (sumTo upd sumTo_upd upd_ne upd_same)
section
variable {P:Program} {X:Nat->Prop} {Shun:Loc->Prop} {B:Nat}
theorem Xs{e:Event}(h:Aj X e):∃B,(MemAct.ofEvent e).low B:=by
 obtain⟨l,wr,sy⟩:=e;cases l with
 | cell a=>exact⟨a.block+1,Nat.lt_succ_self _⟩
 | obj r=>exact⟨r+1,by cases wr<;>cases sy<;>exact Nat.lt_succ_self _⟩
 | mark m=>cases m<;>first|exact⟨0,trivial⟩|exact (h:False).elim
 | output=>exact⟨0,by cases wr<;>cases sy<;>trivial⟩
 | _=>exact (h:False).elim
theorem Xt(hX:∀l,Shun l->∃a,l=.cell a/\X a.block){e:Event}(h:Aj X e)(hl:(MemAct.ofEvent e).low B):EvL Shun B e:=by
 obtain⟨l,wr,sy⟩:=e;cases l with
 | cell a =>
  refine⟨λx hx hs=>?_,by simp,by simp,hl⟩;obtain⟨a',e,ha⟩:=hX _ hs;simp only[MemAct.ofEvent,MemAct.touch?,Option.some.injEq] at hx;subst hx;cases e
  exact absurd ha h
 | obj r =>
  refine⟨λx hx hs=>?_,by simp,by simp,hl⟩;obtain⟨a',e,ha⟩:=hX _ hs;cases wr<;>cases sy<;>simp[MemAct.ofEvent,MemAct.touch?] at hx<;>(subst hx;cases e)
 | mark m=>cases m<;>first|exact (h:False).elim|exact⟨λx hx=>by simp[MemAct.ofEvent,MemAct.touch?] at hx,by simp,by simp,hl⟩
 | output =>
  refine⟨λx hx hs=>?_,by simp,by simp,hl⟩;obtain⟨a',e,ha⟩:=hX _ hs;cases wr<;>cases sy<;>simp[MemAct.ofEvent,MemAct.touch?] at hx<;>(subst hx;cases e)
 | _=>exact (h:False).elim
theorem Np(hX:∀l,Shun l->∃a,l=.cell a/\X a.block)(es:Array Event)(h:∀e∈es,Aj X e)(B:Nat):∃B',B<=B'/\∀e∈es,EvL Shun B' e:=by
 have key:∀l:List Event,(∀e∈l,Aj X e)->∃B',B<=B'/\∀e∈l,(MemAct.ofEvent e).low B':=λl=>by
  induction l with
  | nil=>exact λ_=>⟨B,A3 _,by simp⟩
  | cons x l ih =>
   intro hl;obtain⟨b1,h1,h2⟩:=ih (λe he=>hl e (by simp[he]));obtain⟨b2,h3⟩:=Xs (hl x (by simp));refine⟨max b1 b2,B3 h1 (Nat.le_max_left _ _),λe he=>?_⟩;rcases List.mem_cons.1 he with rfl|he
   ·exact MemAct.low_mono (Nat.le_max_right _ _) h3
   ·exact MemAct.low_mono (Nat.le_max_left _ _) (h2 e he)
 obtain⟨B',h1,h2⟩:=key es.toList (λe he=>h e (by simpa using he));exact⟨B',h1,λe he=>Xt hX (h e he) (h2 e (by simpa using he))⟩
structure Fr (Shun:Loc->Prop) (B:Nat) (t:Trace):Prop where
 past:Past Shun B t
 known:∀i a,touchAt t i=some a->Knows t 0 i∨(Shun a.loc/\a.kind=.atomic)
theorem Fr.mono{B':Nat}{t:Trace}(h:Fr Shun B t)(hB:B<=B'):Fr Shun B' t:=⟨h.past.mono hB,h.known⟩
theorem Fr.app{B':Nat}{t u:Trace}(h:Fr Shun B t)(hp:Past Shun B' (t++u))(hu:∀op∈u,op.g=0∨op.act.touch?=none):Fr Shun B' (t++u):=by
 refine⟨hp,λi a ha=>?_⟩;obtain⟨z,hz,hza⟩:=touch_of ha;rcases getElem?_append_cases hz with⟨_,hz'⟩|⟨_,hzu⟩
 ·exact (h.known i a (by rw[touchAt_of hz'];exact hza)).imp (·.app u) id
 ·rcases hu z hzu with h0|h0
  ·have:=knows_own hz;rw[h0] at this;exact .inl this
  ·rw[h0] at hza;cases hza
theorem Fr.own{t:Trace}(h:Fr Shun B t){fn:FuncId}{pos:String}{es:Array Event}(hes:∀e∈es,EvL Shun B e):Fr Shun B (t++MemOp.ofEvents 0 fn pos es) :=
 h.app (h.past.own hes) λop hop=>by obtain⟨e,_,rfl⟩:=Go.Conc.mem_ofEvents hop;exact .inl rfl
theorem Fr.mute{t:Trace}(h:Fr Shun B t){g:Nat}(hg:g≠0){fn:FuncId}{pos:String}{es:Array Event}(hm:∀e∈es,e.mute=true):Fr Shun B (t++MemOp.ofEvents g fn pos es) :=
 h.app (h.past.mute hg hm) λop hop=>by obtain⟨e,he,rfl⟩:=Go.Conc.mem_ofEvents hop;exact .inr (touch_mute (hm e he))
theorem AaM:Fr (λ_=>False) 0 #[]:=⟨past_nil,λi a ha=>by simp[touchAt,Trace.act?] at ha⟩
theorem AU.at{Stop:Goroutine->World->Prop}{g:Goroutine}{w:World}(h:AU P X Stop g w)(d:Nat):AU P X Stop g (w.at d):=by
 cases h with
 | stop h=>exact .stop h
 | step hr g' w' es hs hf h=>exact .step hr g' w' es hs hf h
theorem Od{g:Nat}{fn:FuncId}{pos:String}{es:Array Event}:∀op∈MemOp.ofEvents g fn pos es,op.g=g:=λop hop=>by obtain⟨e,_,rfl⟩:=Go.Conc.mem_ofEvents hop;rfl
theorem Fi{gs:Array Goroutine}{a:Goroutine}{t:Trace}{q:Nat->Nat}(h0:gs[0]?=some a)(hr:a.status=.running)(hL:Leavers P t gs q)(hP:Fr Shun B t)(w:World)(sl:Option (Nat×Nat)):
  ∃d sl',(∀g' w' es B',stepG P true a (w.at d)=.go g' w' es->(∀e∈es,EvL Shun B' e)->B<=B'->∃gs' t',runNT P 1 (crowd gs w sl) t=(.next (crowd gs' w' sl'),t')/\gs'.size=gs.size/\gs'[0]?=some g'/\Leavers P t' gs' q/\Fr Shun B' t')∨
   ∃gs' t' q',runNT P 1 (crowd gs w sl) t=(.next (crowd gs' (w.at d) sl'),t')/\gs'.size=gs.size/\gs'[0]?=some a/\Leavers P t' gs' q'/\Fr Shun B t'/\sumTo gs.size q'<sumTo gs.size q:=by
 have h0lt:0<gs.size:=(C9.1 h0).1
 have haw:∀g∈gs,awake g:=λg hg=>by
  obtain⟨i,hi⟩:=Array.mem_iff_getElem?.1 hg;cases i with
  | zero=>rw[h0] at hi;cases hi;exact awake_of (.inl hr)
  | succ i=>exact awake_of ((hL.old (i+1) g (by omega) hi).status.elim .inl λx=>.inr (.inr x))
 obtain⟨i,g,d,sl',hi,hg,hst⟩:=crowd_pick (P:=P) (w:=w) (sl:=sl) haw ⟨0,a,h0,hr⟩;have ilt:i<gs.size:=(C9.1 hi).1
 have others:∀(g':Goroutine)(w':World)(es:Array Event)(j:Nat)(x:Goroutine),j≠i->((gs.map (woken P g g' w')).setIfInBounds i g')[j]?=some x->∃y,gs[j]?=some y/\x=woken P g g' w' y:=λg' w' es j x hj hx=>by
  rw[Array.getElem?_setIfInBounds_ne (Ne.symm hj),Array.getElem?_map] at hx;obtain⟨y,hy,e⟩:=B6.1 hx;exact⟨y,hy,e.symm⟩
 refine⟨d,sl',?_⟩;cases i with
 | zero =>
  rw[h0] at hi;cases hi
  refine .inl λg' w' es B' hs hev hB=>?_;refine⟨_,_,by simp only[runNT,hst,runT_crowd_go (P:=P) (sl:=sl') (i:=0) h0 (show stepG P (0==0) a (w.at d)=_ from hs)];rfl,by simp,by simp[h0lt],⟨λj x hj hx=>?_,λj hj=>?_⟩,(hP.mono hB).own hev⟩
  ·obtain⟨y,hy,rfl⟩:=others g' w' es j x (by omega) hx;have hq:=hL.old j y hj hy;rw[woken_quitsD hq,Deaf_other t (g':=0) (by omega) _ Od];exact hq
  ·rw[Deaf_other t (g':=0) (by simp at hj;omega) _ Od];exact hL.above j (by simpa using hj)
 | succ i =>
  refine .inr ?_;have hq:=hL.old (i+1) g (by omega) hi;cases hqi:q (i+1) with
  | zero=>rw[hqi] at hq;rw[hq.1] at hg;cases hg
  | succ k =>
   rw[hqi] at hq;rcases hq with⟨hf,_⟩|⟨_,g',es,hm,hstp,hq'⟩
   ·rw[hf] at hg;cases hg
   have hsum:sumTo gs.size (upd q (i+1) k)+(k+1)=sumTo gs.size q+k:=by
    have:=sumTo_upd q k id ilt;simpa [hqi] using this
   refine⟨_,_,upd q (i+1) k,by simp only[runNT,hst,runT_crowd_go (P:=P) (sl:=sl') (i:=i+1) hi (show stepG P (i+1==0) g (w.at d)=_ from hstp (w.at d))];rfl,by simp,?_,⟨λj x hj hx=>?_,λj hj=>?_⟩,hP.mute (by omega) hm,by omega⟩
   ·rw[Array.getElem?_setIfInBounds_ne (by omega),Array.getElem?_map,h0];simp[woken_run hr]
   ·by_cases hji:j=i+1
    ·subst hji;rw[Array.getElem?_setIfInBounds_self_of_lt (by simpa using ilt)] at hx;cases hx
     rw[upd_same,Deaf_own];exact hq'
    ·obtain⟨y,hy,rfl⟩:=others g' (w.at d) es j x hji hx;have hqj:=hL.old j y hj hy;rw[woken_quitsD hqj,upd_ne q k hji,Deaf_other t (g':=i+1) (by omega) _ Od];exact hqj
   ·rw[Deaf_other t (g':=i+1) (by simp at hj;omega) _ Od];exact hL.above j (by simpa using hj)
theorem Tk{Stop:Goroutine->World->Prop}(hX:∀l,Shun l->∃a,l=.cell a/\X a.block){a:Goroutine}{w:World}(h:AU P X Stop a w):
  ∀(M:Nat)(gs:Array Goroutine)(d:Nat)(sl:Option (Nat×Nat)) (t:Trace) (q:Nat->Nat) (B:Nat),sumTo gs.size q<=M->gs[0]?=some a->Leavers P t gs q->Fr Shun B t->
   ∃N gs' a' w' sl' t' q' B',runNT P N (crowd gs (w.at d) sl) t=(.next (crowd gs' w' sl'),t')/\gs'.size=gs.size/\gs'[0]?=some a'/\Stop a' w'/\Leavers P t' gs' q'/\Fr Shun B' t'/\B<=B':=by
 induction h with
 | stop h=>exact λM gs d sl t q B _ h0 hL hP=>⟨0,gs,_,_,sl,t,q,B,rfl,rfl,h0,h d,hL,hP,A3 _⟩
 | @step g w hr g' w' es hs hf _ ih =>
  intro M;induction M with
  | zero =>
   intro gs d sl t q B hM h0 hL hP;obtain⟨d',sl',h1|⟨gs1,t1,q1,_,_,_,_,_,hlt⟩⟩:=Fi h0 hr hL hP (w.at d) sl
   ·obtain⟨B',hB,hev⟩:=Np hX (es d') (hf d') B;obtain⟨gs1,t1,r1,z1,a1,L1,P1⟩:=h1 _ _ _ B' (hs d') hev hB;obtain⟨N,gs2,a2,w2,sl2,t2,q2,B2,r2,z2,b2,st2,L2,P2,hB2⟩:=ih d' (sumTo gs1.size q) gs1 (w' d').drawn sl' t1 q B' (A3 _) a1 L1 P1;exact⟨1+N,gs2,a2,w2,sl2,t2,q2,B2,by rw[runNT_add,r1];exact r2,z2.trans z1,b2,st2,L2,P2,B3 hB hB2⟩
   ·omega
  | succ M ihM =>
   intro gs d sl t q B hM h0 hL hP;obtain⟨d',sl',h1|⟨gs1,t1,q1,r1,z1,a1,L1,P1,hlt⟩⟩:=Fi h0 hr hL hP (w.at d) sl
   ·obtain⟨B',hB,hev⟩:=Np hX (es d') (hf d') B;obtain⟨gs1,t1,r1,z1,a1,L1,P1⟩:=h1 _ _ _ B' (hs d') hev hB;obtain⟨N,gs2,a2,w2,sl2,t2,q2,B2,r2,z2,b2,st2,L2,P2,hB2⟩:=ih d' (sumTo gs1.size q) gs1 (w' d').drawn sl' t1 q B' (A3 _) a1 L1 P1;exact⟨1+N,gs2,a2,w2,sl2,t2,q2,B2,by rw[runNT_add,r1];exact r2,z2.trans z1,b2,st2,L2,P2,B3 hB hB2⟩
   ·obtain⟨N,gs2,a2,w2,sl2,t2,q2,B2,r2,z2,b2,st2,L2,P2,hB2⟩:=ihM gs1 d' sl' t1 q1 B (by rw[z1];omega) a1 L1 P1;exact⟨1+N,gs2,a2,w2,sl2,t2,q2,B2,by rw[runNT_add,r1];exact r2,z2.trans z1,b2,st2,L2,P2,hB2⟩
end
end Go.Proofs.YtmfjakieahkacaaGreatDoor
namespace Go.Proofs.YtmfjakieahkacaaGreatDoor
open Go.Conc Go.ConcN
open Go.ConcR (KK wgBlock WgAt stA smA rd wr mk Payload DC0 g_of_ofEvents ofEvent_mk)
instance payZ:Payload:=⟨3⟩
structure K7 where
 P:Program
 ty:TypeId
 tS:TypeId
 Wg:Nat
 S:Nat
 Low:Nat
 m0:Nat
 n:Nat
 bit:Nat->Nat
 Shun:Loc->Prop
 t0:Trace
def K7.Sh(p:K7)(l:Loc):Prop:=p.Shun l∨ShN p.Wg l∨ShN p.S l
structure K7.Ok (p:K7):Prop where
 wg:p.Wg<p.Low
 s:p.S<p.Low
 ne:p.Wg≠p.S
 m0:1<=p.m0
 shun:∀l,p.Shun l->∃a,l=.cell a/\a.block<p.Low/\a.block≠p.Wg/\a.block≠p.S
 n:p.n<2147483648
 bits:sumTo p.n p.bit<4294967296
theorem K7.Ok.low{p:K7}(o:p.Ok){a:Addr}(h:p.Sh (.cell a)):a.block<p.Low:=by
 rcases h with h|⟨b,e,hb⟩|⟨b,e,hb⟩
 ·obtain⟨b,e,hb,_⟩:=o.shun _ h;cases e;exact hb
 ·cases e;rw[hb];exact o.wg
 ·cases e;rw[hb];exact o.s
def RH(p:K7)(ow:Nat->Nat)(h g:Nat)(x:Touch):Prop :=
 ((ShN p.Wg x.loc∨ShN p.S x.loc)/\x.kind≠.plain/\(x.kind=.said->g=0))∨
 (x.kind=.plain/\∃a,x.loc=.cell a/\¬p.Sh x.loc/\((a.block<p.Low/\x.write=false)∨(p.Low<=a.block/\a.block<h/\ow a.block=g)))
def Yy(p:K7)(t:Trace)(ow:Nat->Nat)(h N i:Nat)(op:MemOp)(x:Touch):Prop :=
 (op.g=0∨(p.m0<=op.g/\op.g<N))/\(((ShN p.Wg x.loc∨ShN p.S x.loc)/\x.kind≠.plain/\(x.kind=.said->op.g=0))∨(x.kind=.plain/\∃a,x.loc=.cell a/\¬p.Sh x.loc/\((a.block<p.Low/\x.write=false)∨(p.Low<=a.block/\a.block<h/\Knows t (ow a.block) i))))
structure TI (p:K7) (t:Trace) (ow:Nat->Nat) (h N:Nat):Prop where
 pre:∃u,t=p.t0++u
 nr:∀said,¬Race said t
 k0:∀k,(k=0∨(p.m0<=k/\k<N))->∀i a,i<p.t0.size->touchAt t i=some a->¬p.Shun a.loc->Knows t k i
 inn:∀i op x,p.t0.size<=i->t[i]?=some op->op.act.touch?=some x->Yy p t ow h N i op x
theorem Yy.app{p:K7}{t:Trace}{ow:Nat->Nat}{h N i:Nat}{op:MemOp}{x:Touch}(u:Trace)(k:Yy p t ow h N i op x):Yy p (t++u) ow h N i op x :=
 ⟨k.1,k.2.imp id λ⟨h1,a,h2,h3,h4⟩=>⟨h1,a,h2,h3,h4.imp id λ⟨h5,h6,h7⟩=>⟨h5,h6,h7.app u⟩⟩⟩
theorem TI.app{p:K7}{t u:Trace}{ow:Nat->Nat}{h N g:Nat}(o:p.Ok)(k:TI p t ow h N)(hg:∀op∈u,op.g=g)
  (hu:∀op∈u,∀x,op.act.touch?=some x->(g=0∨(p.m0<=g/\g<N))/\RH p ow h g x):TI p (t++u) ow h N:=by
 obtain⟨u0,e0⟩:=k.pre;have hT0:p.t0.size<=t.size:=by rw[e0];simp
 have old:∀{i:Nat} {a:Touch},i<p.t0.size->touchAt (t++u) i=some a->touchAt t i=some a:=λ{i a} hi ha=>by
  obtain⟨z,hz,hza⟩:=touch_of ha;rcases getElem?_append_cases hz with⟨_,hz'⟩|⟨hi',_⟩
  ·rw[touchAt_of hz'];exact hza
  ·omega
 refine⟨⟨u0++u,by rw[e0,Array.append_assoc]⟩,λsaid=>?_,λk' hk i a hi ha hs=>(k.k0 k' hk i a hi (old hi ha) hs).app u,λi op x hi ho hx=>?_⟩
 ·refine noRace_append (k.nr said) hg (λi a ha op hop b hb hc=>?_);obtain⟨hgg,h1|⟨hpl,ad,hl,hns,hcase⟩⟩:=hu op hop b hb
  ·have hns:¬p.Shun a.loc:=λhs=>by
    obtain⟨ad,e,_,h2,h3⟩:=o.shun _ hs;rw[hc.1] at e;rcases h1.1 with⟨b',e',hb'⟩|⟨b',e',hb'⟩<;>(rw[e] at e';cases e';omega)
   rcases Nat.lt_or_ge i p.t0.size with hi|hi
   ·exact k.k0 g hgg i a hi ha hns
   ·obtain⟨z,hz,hza⟩:=touch_of ha;rcases (k.inn i z a hi hz hza).2 with⟨_,h2,h3⟩|⟨_,ad,hl,hns',_⟩
    ·obtain⟨_,_,_,hcase⟩:=hc;rcases hcase with x|x|⟨_,x,y⟩
     ·exact absurd x h2
     ·exact absurd x h1.2.1
     ·have:=knows_own hz;rw[h3 x] at this;rw[h1.2.2 y];exact this
    ·exact absurd (.inr (by rw[hc.1];exact h1.1)) hns'
  ·have hal:a.loc=.cell ad:=hc.1.trans hl;have hna:¬p.Sh a.loc:=by rw[hc.1];exact hns
   rcases Nat.lt_or_ge i p.t0.size with hi|hi
   ·exact k.k0 g hgg i a hi ha λhs=>hna (.inl hs)
   ·obtain⟨z,hz,hza⟩:=touch_of ha;rcases (k.inn i z a hi hz hza).2 with hs|⟨_,ad',hl',_,hcase'⟩
    ·exact absurd (.inr hs.1) hna
    ·rw[hal] at hl';cases hl'
     rcases hcase with⟨hlo,hrd⟩|⟨hlo,_,how⟩
     ·rcases hcase' with⟨_,hrd'⟩|⟨hlo',_⟩
      ·exact absurd hc.2.2.1 (by simp[hrd,hrd'])
      ·omega
     ·rcases hcase' with⟨hlo',_⟩|⟨_,_,hk⟩
      ·omega
      ·rw[how] at hk;exact hk
 ·rcases getElem?_append_cases ho with⟨_,ho'⟩|⟨_,hou⟩
  ·exact (k.inn i op x hi ho' hx).app u
  ·obtain⟨hgg,hok⟩:=hu op hou x hx;have hop:=hg op hou;refine⟨by rw[hop];exact hgg,?_⟩;rcases hok with h1|⟨hpl,ad,hl,hns,hcase⟩
   ·exact .inl ⟨h1.1,h1.2.1,λe=>hop.trans (h1.2.2 e)⟩
   ·refine .inr ⟨hpl,ad,hl,hns,hcase.imp id λ⟨h1,h2,h3⟩=>⟨h1,h2,?_⟩⟩;have:=knows_own ho;rw[hop] at this;rw[h3];exact this
theorem TI.fresh{p:K7}{t:Trace}{ow:Nat->Nat}{h N:Nat}(g:Nat)(k:TI p t ow h N):TI p t (upd ow h g) (h+1) N :=
 ⟨k.pre,k.nr,k.k0,λi op x hi ho hx=>by
  obtain⟨h1,h2⟩:=k.inn i op x hi ho hx;refine⟨h1,h2.imp id λ⟨h3,a,h4,h5,h6⟩=>⟨h3,a,h4,h5,h6.imp id λ⟨h7,h8,h9⟩=>⟨h7,by omega,?_⟩⟩⟩;rw[upd_ne ow g (by omega)];exact h9⟩
theorem TI.fork{p:K7}{t:Trace}{ow ow':Nat->Nat}{h N:Nat}(k:TI p t ow h N)(hm:p.m0<=N)(hN:1<=N){x y:MemOp}(hx:x.g=0/\x.act=.go N)(hy:y.g=N/\y.act=.start)(h0:Deaf t 0=0)(hk:Deaf t N=0)
  (how:∀b,ow' b=ow b∨(ow b=0/\ow' b=N)):TI p (t ++ #[x,y]) ow' h (N+1):=by
 obtain⟨u0,e0⟩:=k.pre;have hT0:p.t0.size<=t.size:=by rw[e0];simp
 have hnt:∀op∈#[x,y],∀b,op.act.touch?=some b->False:=by
  intro op hop b hb;simp only[List.mem_toArray,List.mem_cons,List.not_mem_nil,or_false] at hop;rcases hop with rfl|rfl
  ·rw[hx.2] at hb;cases hb
  ·rw[hy.2] at hb;cases hb
 have old:∀{i:Nat} {z:MemOp} {a:Touch},(t ++ #[x,y])[i]?=some z->z.act.touch?=some a->t[i]?=some z:=λ{i z a} hz hza=>by
  rcases getElem?_append_cases hz with⟨_,hz'⟩|⟨_,hzu⟩
  ·exact hz'
  ·exact (hnt z hzu a hza).elim
 refine⟨⟨u0 ++ #[x,y],by rw[e0,Array.append_assoc]⟩,λsaid=>?_,λk' hk' i a hi ha hs=>?_,λi op z hi ho hz=>?_⟩
 ·have e:t ++ #[x,y]=(t ++ #[x]) ++ #[y]:=by apply Array.ext';simp
  rw[e]
  refine noRace_append (g:=N) (noRace_append (g:=0) (k.nr said) (λop hop=>by simp at hop;rw[hop];exact hx.1) (λi a _ op hop b hb _=>(hnt op (by simp at hop ⊢;exact .inl hop) b hb).elim))
   (λop hop=>by simp at hop;rw[hop];exact hy.1) (λi a _ op hop b hb _=>(hnt op (by simp at hop ⊢;exact .inr hop) b hb).elim)
 ·obtain⟨z,hz,hza⟩:=touch_of ha;have ha':touchAt t i=some a:=by rw[touchAt_of (old hz hza)];exact hza
  by_cases e:k'=N
  ·subst e;exact fork_knows hx hy h0 hk (k.k0 0 (.inl rfl) i a hi ha' hs)
  ·exact (k.k0 k' (by omega) i a hi ha' hs).app _
 ·obtain⟨h1,h2⟩:=k.inn i op z hi (old ho hz) hz;refine⟨h1.imp id λh=>⟨h.1,by omega⟩,h2.imp id λ⟨h3,a,h4,h5,h6⟩=>⟨h3,a,h4,h5,h6.imp id λ⟨h7,h8,h9⟩=>⟨h7,h8,?_⟩⟩⟩;rcases how a.block with e|⟨e1,e2⟩
  ·rw[e];exact h9.app _
  ·rw[e1] at h9;rw[e2];exact fork_knows hx hy h0 hk h9
theorem TI.start{p:K7}{B h N:Nat}(hf:Fr p.Shun B p.t0)(hN:N<=p.m0):TI p p.t0 (λ_=>0) h N:=by
 refine⟨⟨#[],by simp⟩,hf.past.clean,λk hk i a hi ha hs=>?_,λi op x hi ho _=>?_⟩
 ·have e:k=0:=by omega
  subst e;exact (hf.known i a ha).elim id λh=>absurd h.1 hs
 ·have:=lt_size_of_getElem? ho;omega
def Jz(p:K7)(t:Trace):Prop:=∀i,p.t0.size<=i->t.act? i≠some (.mark (.release (stA p.Wg)))
theorem Jz.app{p:K7}{t u:Trace}(h:Jz p t)(hu:∀op∈u,op.act≠.mark (.release (stA p.Wg))):Jz p (t++u):=by
 intro i hi e;obtain⟨op,ho,hoa⟩:=B6.1 e;rcases getElem?_append_cases ho with⟨_,ho'⟩|⟨_,hou⟩
 ·exact h i hi (by rw[act?_of ho',hoa])
 ·exact hu op hou hoa
theorem Xu(x:MemAct):∃B,x.low B:=by
 cases x with
 | access e =>
  obtain⟨l,wr,sy⟩:=e;cases l with
  | cell a=>exact⟨a.block+1,Nat.lt_succ_self _⟩
  | obj r=>exact⟨r+1,Nat.lt_succ_self _⟩
  | _=>exact⟨0,trivial⟩
 | mark m=>cases m<;>first|exact⟨0,trivial⟩|exact⟨_,Nat.lt_succ_self _⟩
 | go _|start=>exact⟨0,trivial⟩
 | send _ _|sendDone _ _|recv _ _ _|recvDone _ _|close _|recvClosed _=>exact⟨_,Nat.lt_succ_self _⟩
theorem ZG(B:Nat)(t:Trace):∃B',B<=B'/\∀op∈t,op.act.low B':=by
 have key:∀l:List MemOp,∃B',B<=B'/\∀op∈l,op.act.low B':=λl=>by
  induction l with
  | nil=>exact⟨B,A3 _,by simp⟩
  | cons x l ih =>
   obtain⟨b1,h1,h2⟩:=ih;obtain⟨b2,h3⟩:=Xu x.act;refine⟨max b1 b2,B3 h1 (Nat.le_max_left _ _),λe he=>?_⟩;rcases List.mem_cons.1 he with rfl|he
   ·exact MemAct.low_mono (Nat.le_max_right _ _) h3
   ·exact MemAct.low_mono (Nat.le_max_left _ _) (h2 e he)
 obtain⟨B',h1,h2⟩:=key t.toList;exact⟨B',h1,λop hop=>h2 op (by simpa using hop)⟩
theorem TI.close{p:K7}{t:Trace}{ow:Nat->Nat}{h N B:Nat}(o:p.Ok)(k:TI p t ow h N)(hf:Fr p.Shun B p.t0)(hn:Jz p t)(hd:Deaf t 0=0)
  (rel:∀g,p.m0<=g->g<N->∃r,RelBy (stA p.Wg) t g r/\p.t0.size<=r) {y:MemOp} (hy0:y.g=0) (hya:y.act=.mark (.acquire (stA p.Wg))):∃B',B<=B'/\Fr p.Sh B' (t ++ #[y]):=by
 obtain⟨u0,e0⟩:=k.pre;have hT0:p.t0.size<=t.size:=by rw[e0];simp
 have hlast:(t ++ #[y])[t.size]?=some y:=by rw[Array.getElem?_append_right (A3 _)];simp
 have hq:(t ++ #[y]).act? t.size=some (.mark (.acquire (stA p.Wg))):=by rw[act?_of hlast,hya]
 have hqg:(t ++ #[y]).g? t.size=some 0:=by simp[Trace.g?,hy0]
 have hqh:(t ++ #[y]).heard t.size:=⟨0,hqg,by rw[deaf_old (A3 _)];exact hd⟩;have hn':Jz p (t ++ #[y]):=hn.app λop hop=>by simp at hop;subst hop;rw[hya];simp
 have hnt:∀b,y.act.touch?=some b->False:=λb hb=>by rw[hya] at hb;cases hb
 have old:∀{i:Nat} {z:MemOp} {a:Touch},(t ++ #[y])[i]?=some z->z.act.touch?=some a->t[i]?=some z:=λ{i z a} hz hza=>by
  rcases getElem?_append_cases hz with⟨_,hz'⟩|⟨_,hzu⟩
  ·exact hz'
  ·simp at hzu;subst hzu;exact (hnt a hza).elim
 have wk:∀{i g:Nat} {x:Touch},(t ++ #[y]).g? i=some g->touchAt (t ++ #[y]) i=some x->p.m0<=g->g<N->(∃r,HappensBefore (t ++ #[y]) i t.size/\i<=r)∨¬(t ++ #[y]).counts i:=λ{i g x} hgi hx h1 h2=>by
  obtain⟨r,hr,hrT⟩:=rel g h1 h2;obtain⟨z,hz,hza⟩:=touch_of hx;have hz':=old hz hza;have hi:=lt_size_of_getElem? hz';have hrs:r<t.size:=lt_of_act? hr.act;have edge:HappensBefore (t ++ #[y]) r t.size:=.single (.inr ⟨.marked hrs (.inr (by rw[act?_old hrs];exact hr.act)) hq (λk hk _=>hn' k (by omega)),(heard_old hrs).2 hr.heard,hqh⟩);rcases Nat.lt_trichotomy i r with hlt|rfl|hgt
  ·exact .inl ⟨r,.trans (.single (.inl ⟨hlt,g,hgi,by rw[g?_old hrs];exact hr.g⟩)) edge,by omega⟩
  ·exact .inl ⟨i,edge,A3 _⟩
  ·refine .inr ?_;rw[counts_old hi];exact hr.after i hgt (by rw[← g?_old (u:=#[y]) hi];exact hgi)
 have known:∀i a,touchAt (t ++ #[y]) i=some a->Knows (t ++ #[y]) 0 i∨(p.Sh a.loc/\a.kind=.atomic):=λi a ha=>by
  obtain⟨z,hz,hza⟩:=touch_of ha;have hz':=old hz hza;rcases Nat.lt_or_ge i p.t0.size with hi|hi
  ·have hz0:p.t0[i]?=some z:=by rw[e0,getElem?_append_old hi] at hz';exact hz'
   rcases hf.known i a (by rw[touchAt_of hz0];exact hza) with h1|h1
   ·refine .inl ?_;rw[e0,Array.append_assoc];exact h1.app _
   ·exact .inr ⟨.inl h1.1,h1.2⟩
  ·obtain⟨hg,hin⟩:=k.inn i z a hi hz' hza;rcases hg with hg|⟨hg1,hg2⟩
   ·have:=knows_own hz;rw[hg] at this;exact .inl this
   ·rcases wk (g:=z.g) (by unfold Trace.g?;rw[hz];rfl) ha hg1 hg2 with⟨_,hb,_⟩|hc
    ·exact .inl ⟨t.size,y,hlast,hy0,.inr hb⟩
    ·have hat:p.Sh a.loc->a.kind=.atomic:=λhs=>by
      by_cases e:a.kind=.atomic
      ·exact e
      ·refine absurd ⟨a,by simpa [touchAt] using ha,?_,.inl e⟩ hc;rcases hs with hs|⟨_,e1,_⟩|⟨_,e1,_⟩
       ·obtain⟨_,e1,_⟩:=o.shun _ hs;rw[e1];rfl
       ·rw[e1];rfl
       ·rw[e1];rfl
     rcases hin with hs|⟨hp,ad,hl,_⟩
     ·exact .inr ⟨.inr hs.1,hat (.inr hs.1)⟩
     ·exact absurd ⟨a,by simpa [touchAt] using ha,by rw[hl];rfl,.inl (by rw[hp];simp)⟩ hc
 obtain⟨B',hB,hlow⟩:=ZG B (t ++ #[y]);refine⟨B',hB,⟨λsaid=>noRace_append (g:=0) (k.nr said) (λop hop=>by simp at hop;subst hop;exact hy0) (λi a _ op hop b hb _=>by simp at hop;subst hop;exact (hnt b hb).elim),λi a ha _=>known i a ha,λi g hgi hne hc=>?_,?_,hlow⟩,known⟩
 ·obtain⟨x,hx,hmem,hk⟩:=hc;have hx':touchAt (t ++ #[y]) i=some x:=by simpa [touchAt] using hx
  obtain⟨z,hz,hza⟩:=touch_of hx';have hz':=old hz hza;have hzg:z.g=g:=by unfold Trace.g? at hgi;rw[hz] at hgi;exact A5 hgi
  rcases Nat.lt_or_ge i p.t0.size with hi|hi
  ·have e1:t ++ #[y]=p.t0++(u0 ++ #[y]):=by rw[e0,Array.append_assoc]
   rw[e1] at hgi hx hk ⊢
   obtain⟨j,hj,hb⟩:=hf.past.over i g (by rw[← g?_old (u:=u0 ++ #[y]) hi];exact hgi) hne ((counts_old hi).1 ⟨x,hx,hmem,hk⟩)
   have hjl:j<p.t0.size:=by
    unfold Trace.g? at hj;obtain⟨z,hz,_⟩:=B6.1 hj;exact lt_size_of_getElem? hz
   exact⟨j,by rw[g?_old hjl];exact hj,hb_app _ hb⟩
  ·obtain⟨hg,_⟩:=k.inn i z x hi hz' hza;rcases wk hgi hx' (by omega) (by omega) with⟨_,hb,_⟩|hc
   ·exact⟨t.size,hqg,hb⟩
   ·exact absurd ⟨x,hx,hmem,hk⟩ hc
 ·have e:=Deaf_still t 0 #[y] (λop hop=>by simp at hop;subst hop;rw[hya];exact⟨by simp,by simp⟩);exact e.trans hd
def Ah(p:K7)(w:World)(s:Int):Prop:=w.heap[p.S]?=some (.cells #[.int .u32 s] p.tS)
def El(p:K7)(w:World):Prop:=∃s,Ah p w s
def sA(p:K7):Addr:=⟨p.S,0,none⟩
def NV(w:World):Prop:=∀(b:Nat)(c:Array Value)(t:TypeId),w.heap[b]?=some (Obj.pending c t)->gN<=b
theorem NV.one{w w₁:World}{C:Nat}{c:Array Value}{e:TypeId}{f:Nat×Nat}(h:NV w)(hb:∀b,b≠C->w₁.heap[b]?=w.heap[b]?)(hC:w₁.heap[C]?=some (.cells c e f)):NV w₁:=by
 intro b a t hx;by_cases hbc:b=C
 ·subst hbc;rw[hC] at hx;cases hx
 ·rw[hb b hbc] at hx;exact h b a t hx
structure RK (p:K7) (M:Nat->Prop) (w w₁:World):Prop where
 low:∀b,b<p.Low->b≠p.Wg->b≠p.S->w₁.heap[b]?=w.heap[b]?
 own:∀b,M b->w₁.heap[b]?=w.heap[b]?
 size:w.heap.size<=w₁.heap.size
 live:WgLive p.ty p.Wg w->WgLive p.ty p.Wg w₁
 sum:El p w->El p w₁
structure R0 (p:K7) (M:Nat->Prop) (w w₁:World):Prop where
 tape:w₁.tape=w.tape
 os:w₁.os=w.os
 output:w₁.output=w.output
 nv:NV w->NV w₁
 rk:RK p M w w₁
structure Z8 (p:K7) (Z:Nat->Prop) (w w₁:World):Prop where
 tape:w₁.tape=w.tape
 os:w₁.os=w.os
 output:w₁.output=w.output
 nv:NV w->NV w₁
 size:w.heap.size<=w₁.heap.size
 block:∀b,¬Z b->b<w.heap.size->w₁.heap[b]?=w.heap[b]?
 live:WgLive p.ty p.Wg w->WgLive p.ty p.Wg w₁
 sum:El p w->El p w₁
section
variable {p:K7} {M Z:Nat->Prop} {w w₁ w₂:World}
theorem RK.refl(w:World):RK p M w w:=⟨λ_ _ _ _=>rfl,λ_ _=>rfl,A3 _,id,id⟩
theorem RK.trans(h:RK p M w w₁)(h':RK p M w₁ w₂):RK p M w w₂ :=
 ⟨λb x y z=>(h'.low b x y z).trans (h.low b x y z),λb x=>(h'.own b x).trans (h.own b x),B3 h.size h'.size,h'.live ∘ h.live,h'.sum ∘ h.sum⟩
theorem RK.tr:∀a b c,RK p M a b->RK p M b c->RK p M a c:=λ_ _ _=>RK.trans
theorem R0.refl(w:World):R0 p M w w:=⟨rfl,rfl,rfl,id,.refl w⟩
theorem R0.trans(h:R0 p M w w₁)(h':R0 p M w₁ w₂):R0 p M w w₂:=⟨h'.tape.trans h.tape,h'.os.trans h.os,h'.output.trans h.output,h'.nv ∘ h.nv,h.rk.trans h'.rk⟩
theorem R0.tr:∀a b c,R0 p M a b->R0 p M b c->R0 p M a c:=λ_ _ _=>R0.trans
theorem Z8.refl(w:World):Z8 p Z w w:=⟨rfl,rfl,rfl,id,A3 _,λ_ _ _=>rfl,id,id⟩
theorem Z8.at(w:World)(d:Nat):Z8 p Z w (w.at d):=⟨rfl,rfl,rfl,id,A3 _,λ_ _ _=>rfl,id,id⟩
theorem Z8.r0(h:Z8 p Z w w₁)(hL:p.Low<=w.heap.size)(hZ:∀b,Z b->b=p.Wg∨b=p.S∨p.Low<=b)(hM:∀b,M b->¬Z b/\b<w.heap.size):R0 p M w w₁ :=
 ⟨h.tape,h.os,h.output,h.nv,λb x y z=>h.block b (λhz=>by have:=hZ b hz;omega) (by omega),λb x=>h.block b (hM b x).1 (hM b x).2,h.size,h.live,h.sum⟩
theorem Z8.wg(h:Go.Conc.Aside p.Wg w w₁)(hl:WgLive p.ty p.Wg w₁)(hne:p.Wg≠p.S):Z8 p (·=p.Wg) w w₁ :=
 ⟨h.tape,h.os,h.output,λk=>let ⟨_,_,hx⟩:=hl;k.one h.block hx,Nat.le_of_eq h.size.symm,λb hb _=>h.block b hb,λ_=>hl,λ⟨s,hs⟩=>⟨s,(h.block p.S (Ne.symm hne)).trans hs⟩⟩
theorem Z8.su(h:Go.Conc.Aside p.S w w₁)(hl:El p w₁)(hne:p.Wg≠p.S):Z8 p (·=p.S) w w₁ :=
 ⟨h.tape,h.os,h.output,λk=>let ⟨_,hx⟩:=hl;k.one h.block hx,Nat.le_of_eq h.size.symm,λb hb _=>h.block b hb,λ⟨s,m,hs⟩=>⟨s,m,hs.of_block (h.block p.Wg hne)⟩,λ_=>hl⟩
end
structure Tl (w w₁:World):Prop where
 tape:w₁.tape=w.tape
 os:w₁.os=w.os
 output:w₁.output=w.output
 nv:NV w->NV w₁
 size:w₁.heap.size=w.heap.size+1
 block:∀b,b<w.heap.size->w₁.heap[b]?=w.heap[b]?
def Vg(p:K7)(M:Nat->Prop)(e:Event):Prop :=
 (∀x,(MemAct.ofEvent e).touch?=some x->(ShN p.Wg x.loc/\x.kind≠.plain/\x.kind≠.said)∨
  (x.kind=.plain/\∃a,x.loc=.cell a/\¬p.Sh x.loc/\((a.block<p.Low/\x.write=false)∨M a.block)))/\
 e.loc≠.mark .disable/\e.loc≠.mark .enable/\e.loc≠.mark (.release (stA p.Wg))
structure Em (M:Nat->Prop) (w w₁:World):Prop where
 tape:w₁.tape=w.tape
 os:w₁.os=w.os
 output:w₁.output=w.output
 nv:NV w->NV w₁
 size:w₁.heap.size=w.heap.size
 block:∀b,¬M b->w₁.heap[b]?=w.heap[b]?
theorem Em.refl{M:Nat->Prop}(w:World):Em M w w:=⟨rfl,rfl,rfl,id,rfl,λ_ _=>rfl⟩
def DK(p:K7)(M:Nat->Prop)(w w₁:World)(es:Array Event):Prop:=Em M w w₁/\∀e∈es,Vg p M e
section
variable {p:K7} {M:Nat->Prop} {w w₁:World}
theorem Z8.gr(h:Tl w w₁)(o:p.Ok)(hL:p.Low<=w.heap.size):Z8 p (λ_=>False) w w₁ :=
 ⟨h.tape,h.os,h.output,h.nv,by rw[h.size];omega,λb _ hb=>h.block b hb,λ⟨s,m,hs⟩=>⟨s,m,hs.of_block (h.block _ (by have:=o.wg;omega))⟩,λ⟨s,hs⟩=>⟨s,(h.block _ (by have:=o.s;omega)).trans hs⟩⟩
theorem Z8.ow(h:Em M w w₁)(hW:¬M p.Wg)(hS:¬M p.S):Z8 p M w w₁ :=
 ⟨h.tape,h.os,h.output,h.nv,Nat.le_of_eq h.size.symm,λb hb _=>h.block b hb,λ⟨s,m,hs⟩=>⟨s,m,hs.of_block (h.block _ hW)⟩,λ⟨s,hs⟩=>⟨s,(h.block _ hS).trans hs⟩⟩
end
abbrev No:Nat->Loc->Prop:=λ_ _=>False
def AaN(p:K7)(main:Bool)(K:Nat->Goroutine->World->Prop)(g:Goroutine)(w:World):Prop :=
 g.status=.running/\∃g' w',stepG p.P main g w=.go g' w' #[]/\Tl w w'/\K w.heap.size g' w'
def Ac8(p:K7)(i:Nat)(K:Goroutine->World->Prop)(g:Goroutine)(w:World):Prop :=
 g.status=.running/\∀s:Nat,s+p.bit i<4294967296->Ah p w s->
  ∃g',stepG p.P false g w=.go g' (w.setCell (sA p) (.int .u32 ((s+p.bit i:Nat):Int))) #[rd (sA p),wr (sA p)]/\K g' (w.setCell (sA p) (.int .u32 ((s+p.bit i:Nat):Int)))
def Wk(p:K7)(i C:Nat)(v:Value):Nat->(Nat->Prop)->Nat->Goroutine->World->Prop
 | 0,M,m,g,w=>Goes p.P false (RK p M) (DK p M) (AtR0 p.P p.ty p.Wg C 1 0 1 v) m g w
 | 1,M,m,g,w=>Goes p.P false (RK p M) (DK p M) (Ac8 p i λg' w'=>∃m',Wk p i C v 0 M m' g' w') m g w
 | e+2,M,m,g,w=>Goes p.P false (RK p M) (DK p M) (AaN p false λb g' w'=>∃m',(p.bit i≠0->Wk p i C v (e+1) (λx=>M x∨x=b) m' g' w')/\(p.bit i=0->Wk p i C v 0 (λx=>M x∨x=b) m' g' w')) m g w
inductive WS (p:K7) (i C:Nat) (v:Value) (M:Nat->Prop):Nat->Nat->Nat->Nat->Goroutine->World->Prop
 | pre {e m:Nat} {g:Goroutine} {w:World}:Wk p i C v e M m g w->WS p i C v M e 7 m 0 g w
 | post {s m d:Nat} {g:Goroutine} {w:World}:s<=6->WSit p.P p.ty p.Wg C 1 No No 0 1 v s m d g w->WS p i C v M 0 s m d g w
section
variable {p:K7} {i C:Nat} {v:Value} {M:Nat->Prop} {e s m d:Nat} {g:Goroutine} {w w₁:World}
theorem RK.rw(h:RK p M w w₁)(hC:M C):RW p.ty p.Wg C 1 0 0 w w₁ :=
 ⟨λb hb=>by omega,h.live,λ⟨cs,hc,hn⟩=>⟨cs,(h.own C hC).trans hc,hn⟩,cell_of_block (h.own C hC) 0⟩
theorem Wk.rely(h:Wk p i C v e M m g w)(hr:RK p M w w₁):Wk p i C v e M m g w₁:=by
 match e,h with
 | 0,h=>unfold Wk at h ⊢;exact Goes.rely RK.tr h hr
 | 1,h=>unfold Wk at h ⊢;exact Goes.rely RK.tr h hr
 | e+2,h=>unfold Wk at h ⊢;exact Goes.rely RK.tr h hr
theorem Wk.running(h:Wk p i C v e M m g w):g.status=.running:=by
 match e,h with
 | 0,h=>unfold Wk at h;exact Goes.running (λ_ _ x=>x.1) w (RK.refl w) h
 | 1,h=>unfold Wk at h;exact Goes.running (λ_ _ x=>x.1) w (RK.refl w) h
 | e+2,h=>unfold Wk at h;exact Goes.running (λ_ _ x=>x.1) w (RK.refl w) h
theorem WS.rely(h:WS p i C v M e s m d g w)(hC:M C)(hr:RK p M w w₁):WS p i C v M e s m d g w₁:=by
 cases h with
 | pre h=>exact .pre (h.rely hr)
 | post hs h=>exact .post hs (h.rely (by simpa using hr.rw hC))
theorem WS.status(h:WS p i C v M e s m d g w):g.status=.running∨g.status=.finished:=by
 cases h with
 | pre h=>exact .inl h.running
 | post _ h=>exact h.status
theorem WS.woken(h:WS p i C v M e s m d g w)(a a':Goroutine)(w':World):woken p.P a a' w' g=g:=by
 unfold Go.Conc.woken;split
 ·exact again_running _ h.status
 ·rfl
theorem WS.running_of(h:WS p i C v M e s m d g w)(hs:s≠1):g.status=.running:=by
 cases h with
 | pre h=>exact h.running
 | post _ h=>exact h.running_of hs
end
section
variable (p:K7) (M:Nat->Prop)
def Cb(k:Mark)(Next:Goroutine->World->Prop)(g:Goroutine)(w:World):Prop :=
 g.status=.running/\∃g',stepG p.P true g w=.go g' w #[mk k]/\∃m,Goes p.P true (R0 p M) DC0 Next m g' w
def AaO(Next:Goroutine->World->Prop)(g:Goroutine)(w:World):Prop :=
 g.status=.running/\∃g' w' es,stepG p.P true g w=.go g' w' es/\DK p M w w' es/\∃m,Goes p.P true (R0 p M) DC0 Next m g' w'
def Mi(j:Nat)(Next:Goroutine->World->Prop)(g:Goroutine)(w:World):Prop :=
 g.status=.running/\∃g' child,stepG p.P true g w=.spawn g' child w #[]/\(∃C v e m,M C/\e<=2/\(e=0->p.bit j=0)/\Wk p j C v e M m child w)/\Next g' w
def Xv(Next:Goroutine->World->Prop)(g:Goroutine)(w:World):Prop :=
 g.status=.running/\∀v:Nat,v<2147483647->WgAt p.ty p.Wg w (v*KK) 0->
  ∃g',stepG p.P true g w=.go g' (w.setCell (stA p.Wg) (.int .u64 ((v+1)*KK))) #[rd (stA p.Wg),wr (stA p.Wg)]/\
   ∃m,Goes p.P true (R0 p M) DC0 (Cb p M (.read (smA p.Wg)) (Cb p M .enable Next)) m g' (w.setCell (stA p.Wg) (.int .u64 ((v+1)*KK)))∨Goes p.P true (R0 p M) DC0 (Cb p M .enable Next) m g' (w.setCell (stA p.Wg) (.int .u64 ((v+1)*KK)))
end
section
variable (p:K7)
abbrev Mt:Nat->Prop:=λ_=>False
abbrev R6 (b:Nat):Nat->Prop:=λx=>x=b
def L5(b r:Nat)(Next:Goroutine->World->Prop):Goroutine->World->Prop:=Cb p (R6 b) .disable (Xv p (R6 b) (Mi p (R6 b) (p.n-(r+1)) Next))
def L7(r:Nat)(Next:Goroutine->World->Prop):Goroutine->World->Prop :=
 AaN p true λb g' w'=>∃m,Goes p.P true (R0 p (R6 b)) DC0 (AaO p (R6 b) (L5 p b r Next)) m g' w'
def Sp(Into:Goroutine->World->Prop):Nat->Goroutine->World->Prop
 | 0,g,w=>∃m,Goes p.P true (R0 p Mt) DC0 (Cb p Mt .disable Into) m g w
 | r+1,g,w=>∃m,Goes p.P true (R0 p Mt) DC0 (L7 p r (Sp Into r)) m g w
variable (Anch Fin:Goroutine->World->Prop)
def Oe(g:Goroutine)(w:World):Prop:=g.status=.running/\∃g',stepG p.P true g w=.go g' w #[mk (.acquire (stA p.Wg))]/\Fin g' w
def AaP(g:Goroutine)(w:World):Prop :=
 g.status=.running/\(WgAt p.ty p.Wg w 0 0->∃g',stepG p.P true g w=.go g' w #[rd (stA p.Wg)]/\∃m,Goes p.P true (R0 p Mt) DC0 (Cb p Mt .enable (Oe p Fin)) m g' w)
def Tm(g:Goroutine)(w:World):Prop :=
 g.status=.running/\g.offers=none/\((∃st,WgAt p.ty p.Wg w st 0)->stepG p.P true g w=.go {g with status:=.blocked} w #[])/\
  (WgAt p.ty p.Wg w 0 1->∃g',stepG p.P true g w=.go g' (w.setCell (smA p.Wg) (.int .u32 0)) (semEvents (smA p.Wg))/\∃m,Goes p.P true (R0 p Mt) DC0 (AaP p Fin) m g' (w.setCell (smA p.Wg) (.int .u32 0)))
def Mj(vs:Nat)(g:Goroutine)(w:World):Prop :=
 g.status=.running/\∀v:Nat,v<2147483648->WgAt p.ty p.Wg w (v*KK) 0->
  (v=vs->∃g',stepG p.P true g w=.go g' (w.setCell (stA p.Wg) (.int .u64 (v*KK+1))) #[rd (stA p.Wg),wr (stA p.Wg)]/\∃m,Goes p.P true (R0 p Mt) DC0 (Cb p Mt (.write (smA p.Wg)) (Tm p Fin)) m g' (w.setCell (stA p.Wg) (.int .u64 (v*KK+1))))/\
  (v≠vs->∃g',stepG p.P true g w=.go g' w #[rd (stA p.Wg)]/\∃m,Goes p.P true (R0 p Mt) DC0 Anch m g' w)
def ES(g:Goroutine)(w:World):Prop :=
 g.status=.running/\∀v:Nat,v<2147483648->WgAt p.ty p.Wg w (v*KK) 0->∃g',stepG p.P true g w=.go g' w #[rd (stA p.Wg)]/\
  (v=0->∃m,Goes p.P true (R0 p Mt) DC0 (Cb p Mt .enable (Oe p Fin)) m g' w)/\(v≠0->∃m,Goes p.P true (R0 p Mt) DC0 (Mj p Anch Fin v) m g' w)
inductive CS:CTag->Nat->Nat->Nat->Nat->(Nat->Prop)->Goroutine->World->Prop
 | al {r m:Nat} {g:Goroutine} {w:World}:r<p.n->Goes p.P true (R0 p Mt) DC0 (L7 p r (Sp p Anch r)) m g w->CS (.sp r 7) 0 (p.n-(r+1)) m 0 Mt g w
 | ow {r m b:Nat} {g:Goroutine} {w:World}:r<p.n->Goes p.P true (R0 p (R6 b)) DC0 (AaO p (R6 b) (L5 p b r (Sp p Anch r))) m g w->CS (.sp r 6) 0 (p.n-(r+1)) m 0 (R6 b) g w
 | kd5 {r m b:Nat} {g:Goroutine} {w:World}:r<p.n->Goes p.P true (R0 p (R6 b)) DC0 (L5 p b r (Sp p Anch r)) m g w->CS (.sp r 5) 0 (p.n-(r+1)) m 0 (R6 b) g w
 | a1 {r m b:Nat} {g:Goroutine} {w:World}:r<p.n->Goes p.P true (R0 p (R6 b)) DC0 (Xv p (R6 b) (Mi p (R6 b) (p.n-(r+1)) (Sp p Anch r))) m g w->CS (.sp r 4) 0 (p.n-(r+1)) m 1 (R6 b) g w
 | sr {r m b:Nat} {g:Goroutine} {w:World}:r<p.n->Goes p.P true (R0 p (R6 b)) DC0 (Cb p (R6 b) (.read (smA p.Wg)) (Cb p (R6 b) .enable (Mi p (R6 b) (p.n-(r+1)) (Sp p Anch r)))) m g w->CS (.sp r 3) 0 (p.n-(r+1)) m 1 (R6 b) g w
 | ke2 {r m b:Nat} {g:Goroutine} {w:World}:r<p.n->Goes p.P true (R0 p (R6 b)) DC0 (Cb p (R6 b) .enable (Mi p (R6 b) (p.n-(r+1)) (Sp p Anch r))) m g w->CS (.sp r 2) 0 (p.n-(r+1)) m 1 (R6 b) g w
 | go {r m b:Nat} {g:Goroutine} {w:World}:r<p.n->Goes p.P true (R0 p (R6 b)) DC0 (Mi p (R6 b) (p.n-(r+1)) (Sp p Anch r)) m g w->CS (.sp r 1) 0 (p.n-(r+1)) m 0 (R6 b) g w
 | kd {m:Nat} {g:Goroutine} {w:World}:Goes p.P true (R0 p Mt) DC0 (Cb p Mt .disable Anch) m g w->CS .kd 0 p.n m 0 Mt g w
 | anch {m:Nat} {g:Goroutine} {w:World}:Goes p.P true (R0 p Mt) DC0 Anch m g w->CS .anch 0 p.n m 1 Mt g w
 | w1 {m:Nat} {g:Goroutine} {w:World}:Goes p.P true (R0 p Mt) DC0 (ES p Anch Fin) m g w->CS .w1 0 p.n m 1 Mt g w
 | w2 {vs m:Nat} {g:Goroutine} {w:World}:Goes p.P true (R0 p Mt) DC0 (Mj p Anch Fin vs) m g w->CS (.w2 vs) 0 p.n m 1 Mt g w
 | sw {m:Nat} {g:Goroutine} {w:World}:Goes p.P true (R0 p Mt) DC0 (Cb p Mt (.write (smA p.Wg)) (Tm p Fin)) m g w->CS .w3 1 p.n m 1 Mt g w
 | w3 {m:Nat} {g:Goroutine} {w:World}:Goes p.P true (R0 p Mt) DC0 (Tm p Fin) m g w->CS .w3 0 p.n (m+1) 1 Mt g w
 | blk {g:Goroutine} {w:World}:(∀w₁,R0 p Mt w w₁->Tm p Fin g w₁)->CS .blk 0 p.n 0 1 Mt {g with status:=.blocked} w
 | w4 {m:Nat} {g:Goroutine} {w:World}:Goes p.P true (R0 p Mt) DC0 (AaP p Fin) m g w->CS .w4 0 p.n m 1 Mt g w
 | ke {m:Nat} {g:Goroutine} {w:World}:Goes p.P true (R0 p Mt) DC0 (Cb p Mt .enable (Oe p Fin)) m g w->CS .ke 0 p.n m 1 Mt g w
 | acq {m:Nat} {g:Goroutine} {w:World}:Goes p.P true (R0 p Mt) DC0 (Oe p Fin) m g w->CS .acq 0 p.n m 0 Mt g w
end
end Go.Proofs.YtmfjakieahkacaaGreatDoor
namespace Go.Proofs.YtmfjakieahkacaaGreatDoor
open Go.Conc Go.ConcN
open Go.ConcR (KK wgBlock WgAt stA smA rd wr mk Payload DC0 g_of_ofEvents ofEvent_mk again_blocked)
structure WX where
 d:WD
 e:Nat
 c:Nat
 v:Value
 m:Nat->Prop
def ds(X:Nat->WX):Nat->WD:=λi=>(X i).d
theorem PA(X:Nat->WX)(i:Nat)(x:WX):ds (upd X i x)=upd (ds X) i x.d:=by
 funext a
 by_cases e:a=i
 ·subst e;simp[ds,upd_same]
 ·simp[ds,upd_ne _ _ e]
def total(p:K7)(j:Nat)(X:Nat->WX):Nat:=sumTo j λi=>if (X i).e=0 then p.bit i else 0
structure DN (p:K7) (j:Nat) (gs:Array Goroutine) (w:World) (t:Trace) (X:Nat->WX) (ow q:Nat->Nat) (d0:Nat) (M0:Nat->Prop):Prop where
 size:gs.size=p.m0+j
 old:∀i,1<=i->i<p.m0->∃g,gs[i]?=some g/\QuitsD p.P (q i) (Deaf t i) g
 wk:∀i,i<j->∃g,gs[p.m0+i]?=some g/\WS p i (X i).c (X i).v (X i).m (X i).e (X i).d.stage (X i).d.fuel (X i).d.deaf g w
 mc:∀i,i<j->(X i).m (X i).c
 mo:∀i,i<j->∀b,(X i).m b->ow b=p.m0+i/\p.Low<=b/\b<w.heap.size
 m0:∀b,M0 b->ow b=0/\p.Low<=b/\b<w.heap.size
 low:p.Low<=w.heap.size
 ti:TI p t ow w.heap.size (p.m0+j)
 norel:Jz p t
 deaf0:Deaf t 0=d0
 deafW:∀i,i<j->Deaf t (p.m0+i)=(X i).d.deaf
 above:∀k,p.m0+j<=k->Deaf t k=0
 rel:∀i,i<j->(X i).d.stage<=6->∃r,RelBy (stA p.Wg) t (p.m0+i) r/\p.t0.size<=r
 sum:Ah p w (total p j X)
def Eh(p:K7)(Anch Fin:Goroutine->World->Prop)(μ:Nat×Nat)(m:Machine)(t:Trace):Prop :=
 ∃(gs:Array Goroutine)(w:World)(sl:Option (Nat×Nat)) (j:Nat) (X:Nat->WX) (ow q:Nat->Nat) (tag:CTag) (e0 f0 d0:Nat) (M0:Nat->Prop) (a:Goroutine) (st sm:Int),
  m=crowd gs w sl/\gs[0]?=some a/\CS p Anch Fin tag e0 j f0 d0 M0 a w/\DN p j gs w t X ow q d0 M0/\WgAt p.ty p.Wg w st sm/\ConcN.Mode j (ds X) tag st sm/\
  μ=(phi p.n (Vc j (ds X)) tag+e0+Ssum j (ds X)+sumTo j (λi=>(X i).e),f0+2*Fsum j (ds X)+2*sumTo p.m0 q)
section
variable {p:K7} {Anch Fin:Goroutine->World->Prop} {tag:CTag} {e0 j f d:Nat} {M0:Nat->Prop} {a:Goroutine} {w w':World}
theorem CS.rely(h:CS p Anch Fin tag e0 j f d M0 a w)(hr:R0 p M0 w w'):CS p Anch Fin tag e0 j f d M0 a w':=by
 cases h with
 | al hn h=>exact .al hn (Goes.rely R0.tr h hr)
 | ow hn h=>exact .ow hn (Goes.rely R0.tr h hr)
 | kd5 hn h=>exact .kd5 hn (Goes.rely R0.tr h hr)
 | a1 hn h=>exact .a1 hn (Goes.rely R0.tr h hr)
 | sr hn h=>exact .sr hn (Goes.rely R0.tr h hr)
 | ke2 hn h=>exact .ke2 hn (Goes.rely R0.tr h hr)
 | go hn h=>exact .go hn (Goes.rely R0.tr h hr)
 | kd h=>exact .kd (Goes.rely R0.tr h hr)
 | anch h=>exact .anch (Goes.rely R0.tr h hr)
 | w1 h=>exact .w1 (Goes.rely R0.tr h hr)
 | w2 h=>exact .w2 (Goes.rely R0.tr h hr)
 | sw h=>exact .sw (Goes.rely R0.tr h hr)
 | w3 h=>exact .w3 (Goes.rely R0.tr h hr)
 | blk h=>exact .blk (λw₂ h₂=>h w₂ (hr.trans h₂))
 | w4 h=>exact .w4 (Goes.rely R0.tr h hr)
 | ke h=>exact .ke (Goes.rely R0.tr h hr)
 | acq h=>exact .acq (Goes.rely R0.tr h hr)
theorem CS.status(hAr:∀g w,Anch g w->g.status=.running)(h:CS p Anch Fin tag e0 j f d M0 a w):(a.status=.running/\tag≠.blk)∨(a.status=.blocked/\tag=.blk):=by
 cases h with
 | al _ h=>exact .inl ⟨Goes.running (λ_ _ x=>x.1) w (.refl w) h,by simp⟩
 | ow _ h=>exact .inl ⟨Goes.running (λ_ _ x=>x.1) w (.refl w) h,by simp⟩
 | kd5 _ h=>exact .inl ⟨Goes.running (λ_ _ x=>x.1) w (.refl w) h,by simp⟩
 | a1 _ h=>exact .inl ⟨Goes.running (λ_ _ x=>x.1) w (.refl w) h,by simp⟩
 | sr _ h=>exact .inl ⟨Goes.running (λ_ _ x=>x.1) w (.refl w) h,by simp⟩
 | ke2 _ h=>exact .inl ⟨Goes.running (λ_ _ x=>x.1) w (.refl w) h,by simp⟩
 | go _ h=>exact .inl ⟨Goes.running (λ_ _ x=>x.1) w (.refl w) h,by simp⟩
 | kd h=>exact .inl ⟨Goes.running (λ_ _ x=>x.1) w (.refl w) h,by simp⟩
 | anch h=>exact .inl ⟨Goes.running hAr w (.refl w) h,by simp⟩
 | w1 h=>exact .inl ⟨Goes.running (λ_ _ x=>x.1) w (.refl w) h,by simp⟩
 | w2 h=>exact .inl ⟨Goes.running (λ_ _ x=>x.1) w (.refl w) h,by simp⟩
 | sw h=>exact .inl ⟨Goes.running (λ_ _ x=>x.1) w (.refl w) h,by simp⟩
 | w3 h=>exact .inl ⟨Goes.running (λ_ _ x=>x.1) w (.refl w) h,by simp⟩
 | blk h=>exact .inr ⟨rfl,rfl⟩
 | w4 h=>exact .inl ⟨Goes.running (λ_ _ x=>x.1) w (.refl w) h,by simp⟩
 | ke h=>exact .inl ⟨Goes.running (λ_ _ x=>x.1) w (.refl w) h,by simp⟩
 | acq h=>exact .inl ⟨Goes.running (λ_ _ x=>x.1) w (.refl w) h,by simp⟩
theorem CS.wokenBy(hAr:∀g w,Anch g w->g.status=.running)(h:CS p Anch Fin tag e0 j f d M0 a w)(hr:R0 p M0 w w')(g g':Goroutine):
  ∃tag' f',CS p Anch Fin tag' e0 j f' d M0 (woken p.P g g' w' a) w'/\f'<=f+1/\(tag'=tag∨(tag=.blk/\tag'=.w3))/\(mayWake p.P g=true->g'.status=.running->tag'≠.blk):=by
 have h':=h.rely hr;unfold Go.Conc.woken;split
 ·rcases h'.status hAr with⟨hs,hne⟩|⟨_,rfl⟩
  ·exact⟨tag,f,by rw[again_running _ (.inl hs)];exact h',by omega,.inl rfl,λ_ _=>hne⟩
  ·cases h' with
   | blk hb =>
    rename_i g0;have h3:=hb w' (.refl w');exact⟨.w3,0+1,by rw[again_blocked h3.1 h3.2.1];exact .w3 (Goes.stop hb),by omega,.inr ⟨rfl,rfl⟩,λ_ _=>by simp⟩
 ·rename_i hc;exact⟨tag,f,h',by omega,.inl rfl,λh1 h2=>absurd (by simp[h1,h2]) hc⟩
theorem CS.bound(h:CS p Anch Fin tag e0 j f d M0 a w):j+pend tag<=p.n:=by
 cases h<;>simp only[pend]<;>(try simp)<;>omega
end
section
variable {p:K7} {Anch Fin:Goroutine->World->Prop} {gs:Array Goroutine} {w w':World} {sl:Option (Nat×Nat)} {j:Nat} {X:Nat->WX} {ow ow' q:Nat->Nat} {tag:CTag} {e0 f0 d0:Nat} {M0:Nat->Prop} {a:Goroutine} {t:Trace}
theorem DN.at(h:DN p j gs w t X ow q d0 M0)(d:Nat):DN p j gs (w.at d) t X ow q d0 M0 :=
 ⟨h.size,h.old,λi hi=>let ⟨g,hg,hs⟩:=h.wk i hi;⟨g,hg,hs.rely (h.mc i hi) ⟨λ_ _ _ _=>rfl,λ_ _=>rfl,A3 _,id,id⟩⟩,h.mc,h.mo,h.m0,h.low,h.ti,h.norel,h.deaf0,h.deafW,h.above,h.rel,h.sum⟩
theorem Ea(f:Goroutine->Goroutine){a b:Nat}(x:Goroutine)(hb:a≠b):((gs.map f).setIfInBounds a x)[b]?=(gs[b]?).map f:=by
 rw[Array.getElem?_setIfInBounds_ne hb,Array.getElem?_map]
theorem JA(f:Goroutine->Goroutine){a:Nat}(x:Goroutine)(ha:a<gs.size):((gs.map f).setIfInBounds a x)[a]?=some x:=by simp[ha]
theorem Eb(hAr:∀g w,Anch g w->g.status=.running)(hm1:1<=p.m0)
  (ha:gs[0]?=some a) (hcs:CS p Anch Fin tag e0 j f0 d0 M0 a w) (hcom:DN p j gs w t X ow q d0 M0)
  {i:Nat} (hi:i<j) {g g':Goroutine} {es:Array Event} {x':WX} {st' sm':Int} (hg:gs[p.m0+i]?=some g) (hgo:stepG p.P false g w=.go g' w' es)
  {Z:Nat->Prop} (hT:Z8 p Z w w') (hZ:∀b,Z b->b=p.Wg∨b=p.S∨(X i).m b) (hWS:p.Wg<p.Low/\p.S<p.Low)
  (how:∀b,b<w.heap.size->ow' b=ow b) (hmc:x'.m x'.c) (hm:∀b,x'.m b->ow' b=p.m0+i/\p.Low<=b/\b<w'.heap.size)
  (hti:TI p (t++MemOp.ofEvents (p.m0+i) g.frame.fn g.frame.place es) ow' w'.heap.size (p.m0+j))
  (hs':WS p i x'.c x'.v x'.m x'.e x'.d.stage x'.d.fuel x'.d.deaf g' w')
  (hnr:∀e∈es,e.loc≠.mark (.release (stA p.Wg))) (hdeaf:deafBehind (X i).d.deaf es=x'.d.deaf)
  (hrel:x'.d.stage<=6->∃r,RelBy (stA p.Wg) (t++MemOp.ofEvents (p.m0+i) g.frame.fn g.frame.place es) (p.m0+i) r/\p.t0.size<=r)
  (hsum:Ah p w' (total p j (upd X i x'))) (hwg:WgAt p.ty p.Wg w' st' sm')
  (hmode:∀tag',(tag'=tag∨(tag=.blk/\tag'=.w3))->(mayWake p.P g=true->g'.status=.running->tag'≠.blk)->ConcN.Mode j (upd (ds X) i x'.d) tag' st' sm')
  (hlt:(x'.d.stage+x'.e<(X i).d.stage+(X i).e/\cnt x'.d<=cnt (X i).d)∨(x'.d.stage=(X i).d.stage/\x'.e=(X i).e/\x'.d.fuel+1=(X i).d.fuel)) :
  ∃m₁ ops μ',runT p.P (crowd gs w sl) (p.m0+i)=(.next m₁,ops)/\
   Lt2 μ' (phi p.n (Vc j (ds X)) tag+e0+Ssum j (ds X)+sumTo j (λi=>(X i).e),f0+2*Fsum j (ds X)+2*sumTo p.m0 q)/\Eh p Anch Fin μ' m₁ (t++ops):=by
 have hZ0:∀b,Z b->b=p.Wg∨b=p.S∨p.Low<=b:=λb hb=>(hZ b hb).imp id λh=>h.imp id λh=>(hcom.mo i hi b h).2.1
 have hM:∀(M:Nat->Prop)(k:Nat),k≠p.m0+i->(∀b,M b->ow b=k/\p.Low<=b/\b<w.heap.size)->∀b,M b->¬Z b/\b<w.heap.size:=λM k hk h b hb=>by
  refine⟨λhz=>?_,(h b hb).2.2⟩;have:=(h b hb).2.1;rcases hZ b hz with e|e|e
  ·omega
  ·omega
  ·have:=(hcom.mo i hi b e).1;have:=(h b hb).1;omega
 have hr0:R0 p M0 w w':=hT.r0 hcom.low hZ0 (hM M0 0 (by omega) hcom.m0);obtain⟨tag',f',hcs',hf',htag,hwk⟩:=hcs.wokenBy hAr hr0 g g';have hrun:=runT_crowd_go (P:=p.P) (sl:=sl) (i:=p.m0+i) hg (by rw[show (p.m0+i==0)=false by simp;omega];exact hgo);have e1:=sumTo_upd (ds X) x'.d cnt hi;have e2:=sumTo_upd (ds X) x'.d WD.stage hi;have e3:=sumTo_upd (ds X) x'.d WD.fuel hi;have e4:=sumTo_upd X x' WX.e hi;have hsz:=hT.size
 refine⟨_,_,(phi p.n (Vc j (ds (upd X i x'))) tag'+e0+Ssum j (ds (upd X i x'))+sumTo j (λk=>(upd X i x' k).e),f'+2*Fsum j (ds (upd X i x'))+2*sumTo p.m0 q),hrun,?_,
  _,w',sl,j,upd X i x',ow',q,tag',e0,f',d0,M0,woken p.P g g' w' a,st',sm',rfl,by rw[Ea _ _ (by omega),ha];rfl,hcs',?_,hwg,by rw[PA];exact hmode tag' htag hwk,rfl⟩
 ·rw[phi_retag p.n _ htag,PA];simp only[Vc,Ssum,Fsum] at *;rcases hlt with⟨h1,h2⟩|⟨h1,h2,h3⟩
  ·refine Prod.Lex.left _ _ ?_;have:=phi_mono p.n (v':=sumTo j λa=>cnt (upd (ds X) i x'.d a)) (v:=sumTo j λa=>cnt (ds X a)) (by simp only[ds] at *;omega) tag;simp only[ds] at *;omega
  ·have ec:cnt x'.d=cnt (ds X i):=by unfold cnt;rw[h1];rfl
   have ev:(sumTo j λa=>cnt (upd (ds X) i x'.d a))=sumTo j λa=>cnt (ds X a):=by omega
   have es':(sumTo j λa=>(upd (ds X) i x'.d a).stage)=sumTo j λa=>(ds X a).stage:=by simp only[ds] at *;omega
   rw[ev,es'];have ee:(sumTo j λk=>(upd X i x' k).e)=sumTo j λk=>(X k).e:=by omega
   rw[ee];refine Prod.Lex.right _ ?_;simp only[ds] at *;omega
 ·refine⟨by simp[hcom.size],λk k1 k2=>?_,λk hk=>?_,λk hk=>?_,λk hk=>?_,λb hb=>?_,by have:=hcom.low;omega,hti,hcom.norel.app (norel_of hnr),by rw[Deaf_other t (by omega) _ g_of_ofEvents,hcom.deaf0],λk hk=>?_,λk hk=>?_,λk hk hst=>?_,hsum⟩
  ·obtain⟨y,hy,hq⟩:=hcom.old k k1 k2;exact⟨y,by rw[Ea _ _ (by omega),hy,Option.map_some,woken_quitsD hq],by rw[Deaf_other t (by omega) _ g_of_ofEvents];exact hq⟩
  ·by_cases e:k=i
   ·subst e;exact⟨g',JA _ _ (by rw[hcom.size];omega),by rw[upd_same];exact hs'⟩
   ·obtain⟨y,hy,hsy⟩:=hcom.wk k hk;refine⟨y,by rw[Ea _ _ (by omega),hy,Option.map_some,hsy.woken],?_⟩;rw[upd_ne X _ e];exact hsy.rely (hcom.mc k hk) (hT.r0 hcom.low hZ0 (hM _ (p.m0+k) (by omega) (hcom.mo k hk))).rk
  ·by_cases e:k=i
   ·subst e;rw[upd_same];exact hmc
   ·rw[upd_ne X _ e];exact hcom.mc k hk
  ·by_cases e:k=i
   ·subst e;rw[upd_same];exact hm
   ·rw[upd_ne X _ e];intro b hb;obtain⟨h1,h2,h3⟩:=hcom.mo k hk b hb;exact⟨(how b h3).trans h1,h2,by omega⟩
  ·obtain⟨h1,h2,h3⟩:=hcom.m0 b hb;exact⟨(how b h3).trans h1,h2,by omega⟩
  ·by_cases e:k=i
   ·subst e;rw[Deaf_own,hcom.deafW k hk,upd_same];exact hdeaf
   ·rw[Deaf_other t (by omega) _ g_of_ofEvents,hcom.deafW k hk,upd_ne X _ e]
  ·rw[Deaf_other t (by omega) _ g_of_ofEvents];exact hcom.above k hk
  ·by_cases e:k=i
   ·subst e;rw[upd_same] at hst;exact hrel hst
   ·rw[upd_ne X _ e] at hst;obtain⟨r,hr,hr0⟩:=hcom.rel k hk hst;exact⟨r,hr.appOther g_of_ofEvents (by omega),hr0⟩
theorem Hh(hm1:1<=p.m0)
  (ha:gs[0]?=some a) (hcom:DN p j gs w t X ow q d0 M0)
  {a':Goroutine} {es:Array Event} {tag':CTag} {e' f':Nat} {M':Nat->Prop} {st' sm':Int} (hgo:stepG p.P true a w=.go a' w' es)
  {Z:Nat->Prop} (hT:Z8 p Z w w') (hZ:∀b,Z b->b=p.Wg∨b=p.S∨M0 b) (hWS:p.Wg<p.Low/\p.S<p.Low)
  (how:∀b,b<w.heap.size->ow' b=ow b) (hm:∀b,M' b->ow' b=0/\p.Low<=b/\b<w'.heap.size)
  (hti:TI p (t++MemOp.ofEvents 0 a.frame.fn a.frame.place es) ow' w'.heap.size (p.m0+j)) (hnr:∀e∈es,e.loc≠.mark (.release (stA p.Wg)))
  (hcs':CS p Anch Fin tag' e' j f' (deafBehind d0 es) M' a' w') (hsum:Ah p w' (total p j X)) (hwg:WgAt p.ty p.Wg w' st' sm') (hmode:ConcN.Mode j (ds X) tag' st' sm')
  (hlt:phi p.n (Vc j (ds X)) tag'+e'<phi p.n (Vc j (ds X)) tag+e0∨(phi p.n (Vc j (ds X)) tag'+e'=phi p.n (Vc j (ds X)) tag+e0/\f'<f0)) :
  ∃m₁ ops μ',runT p.P (crowd gs w sl) 0=(.next m₁,ops)/\
   Lt2 μ' (phi p.n (Vc j (ds X)) tag+e0+Ssum j (ds X)+sumTo j (λi=>(X i).e),f0+2*Fsum j (ds X)+2*sumTo p.m0 q)/\Eh p Anch Fin μ' m₁ (t++ops):=by
 have hrun:=runT_crowd_go (P:=p.P) (sl:=sl) (i:=0) ha (by simpa using hgo);have hsz:=hT.size;have hZ0:∀b,Z b->b=p.Wg∨b=p.S∨p.Low<=b:=λb hb=>(hZ b hb).imp id λh=>h.imp id λh=>(hcom.m0 b h).2.1
 refine⟨_,_,(phi p.n (Vc j (ds X)) tag'+e'+Ssum j (ds X)+sumTo j (λi=>(X i).e),f'+2*Fsum j (ds X)+2*sumTo p.m0 q),hrun,?_,
  _,w',sl,j,X,ow',q,tag',e',f',deafBehind d0 es,M',a',st',sm',rfl,JA _ _ (by rw[hcom.size];omega),hcs',?_,hwg,hmode,rfl⟩
 ·rcases hlt with h|⟨h1,h2⟩
  ·exact Prod.Lex.left _ _ (by omega)
  ·rw[h1];exact Prod.Lex.right _ (by omega)
 ·refine⟨by simp[hcom.size],λk k1 k2=>?_,λk hk=>?_,hcom.mc,λk hk b hb=>?_,hm,by have:=hcom.low;omega,hti,hcom.norel.app (norel_of hnr),by rw[Deaf_own,hcom.deaf0],λk hk=>by rw[Deaf_other t (by omega) _ g_of_ofEvents,hcom.deafW k hk],λk hk=>by rw[Deaf_other t (by omega) _ g_of_ofEvents];exact hcom.above k hk,λk hk hst=>?_,hsum⟩
  ·obtain⟨y,hy,hq⟩:=hcom.old k k1 k2;exact⟨y,by rw[Ea _ _ (by omega),hy,Option.map_some,woken_quitsD hq],by rw[Deaf_other t (by omega) _ g_of_ofEvents];exact hq⟩
  ·obtain⟨y,hy,hsy⟩:=hcom.wk k hk;refine⟨y,by rw[Ea _ _ (by omega),hy,Option.map_some,hsy.woken],hsy.rely (hcom.mc k hk) (hT.r0 hcom.low hZ0 λb hb=>?_).rk⟩;obtain⟨h1,h2,h3⟩:=hcom.mo k hk b hb;refine⟨λhz=>?_,h3⟩;rcases hZ b hz with e|e|e
   ·omega
   ·omega
   ·have:=(hcom.m0 b e).1;omega
  ·obtain⟨h1,h2,h3⟩:=hcom.mo k hk b hb;exact⟨(how b h3).trans h1,h2,by omega⟩
  ·obtain⟨r,hr,hr0⟩:=hcom.rel k hk hst;exact⟨r,hr.appOther g_of_ofEvents (by omega),hr0⟩
theorem ZH(o:p.Ok)(hAr:∀g w,Anch g w->g.status=.running)
  (ha:gs[0]?=some a) (hcs:CS p Anch Fin tag e0 j f0 d0 M0 a w) (hcom:DN p j gs w t X ow q d0 M0) {st sm:Int} (hwg:WgAt p.ty p.Wg w st sm) (hmode:ConcN.Mode j (ds X) tag st sm)
  {i:Nat} (h1:1<=i) (hi:i<p.m0) {g:Goroutine} (hg:gs[i]?=some g) (hrun:g.status=.running) :
  ∃m₁ ops μ',runT p.P (crowd gs w sl) i=(.next m₁,ops)/\
   Lt2 μ' (phi p.n (Vc j (ds X)) tag+e0+Ssum j (ds X)+sumTo j (λi=>(X i).e),f0+2*Fsum j (ds X)+2*sumTo p.m0 q)/\Eh p Anch Fin μ' m₁ (t++ops):=by
 obtain⟨g₁,hg₁,hq⟩:=hcom.old i h1 hi;obtain rfl:g=g₁:=by rw[hg] at hg₁;exact A5 hg₁
 cases hqi:q i with
 | zero=>rw[hqi] at hq;rw[hq.1] at hrun;cases hrun
 | succ k =>
  rw[hqi] at hq;rcases hq with⟨hf,_⟩|⟨_,g',es,hmute,hstep,hq'⟩
  ·rw[hf] at hrun;cases hrun
  have hnt:∀op∈MemOp.ofEvents i g.frame.fn g.frame.place es,op.act.touch?=none:=λop hop=>by
   obtain⟨e,he,rfl⟩:=Go.Conc.mem_ofEvents hop;exact touch_mute (hmute e he)
  have hnr:∀e∈es,e.loc≠.mark (.release (stA p.Wg)):=λe he hl=>by
   have:=hmute e he;obtain⟨l,wr,sy⟩:=e;simp only at hl;subst hl;simp[Event.mute] at this
  obtain⟨tag',f',hcs',hf',htag,_⟩:=hcs.wokenBy hAr (.refl w) g g';have hrT:=runT_crowd_go (P:=p.P) (sl:=sl) (i:=i) hg (by rw[show (i==0)=false by simp;omega];exact hstep w)
  have e1:sumTo p.m0 (upd q i k)+(k+1)=sumTo p.m0 q+k:=by
   have:=sumTo_upd q k id hi;simpa [hqi] using this
  refine⟨_,_,(phi p.n (Vc j (ds X)) tag'+e0+Ssum j (ds X)+sumTo j (λi=>(X i).e),f'+2*Fsum j (ds X)+2*sumTo p.m0 (upd q i k)),hrT,?_,
   _,w,sl,j,X,ow,upd q i k,tag',e0,f',d0,M0,woken p.P g g' w a,st,sm,rfl,by rw[Ea _ _ (by omega),ha];rfl,hcs',?_,hwg,hmode.retag htag,rfl⟩
  ·rw[phi_retag p.n _ htag];refine Prod.Lex.right _ ?_;omega
  ·refine⟨by simp[hcom.size],λk' k1 k2=>?_,λk' hk=>?_,hcom.mc,hcom.mo,hcom.m0,hcom.low,hcom.ti.app o (g:=i) (λop hop=>by obtain⟨e,_,rfl⟩:=Go.Conc.mem_ofEvents hop;rfl) (λop hop x hx=>by rw[hnt op hop] at hx;cases hx),hcom.norel.app (norel_of hnr),by rw[Deaf_other t (by omega) _ g_of_ofEvents,hcom.deaf0],
    λk' hk=>by rw[Deaf_other t (by omega) _ g_of_ofEvents,hcom.deafW k' hk],λk' hk=>by rw[Deaf_other t (by omega) _ g_of_ofEvents];exact hcom.above k' hk,λk' hk hst=>?_,hcom.sum⟩
   ·by_cases e:k'=i
    ·subst e;exact⟨g',JA _ _ (by rw[hcom.size];omega),by rw[upd_same,Deaf_own];exact hq'⟩
    ·obtain⟨y,hy,hqy⟩:=hcom.old k' k1 k2;exact⟨y,by rw[Ea _ _ (by omega),hy,Option.map_some,woken_quitsD hqy],by rw[upd_ne q k e,Deaf_other t (by omega) _ g_of_ofEvents];exact hqy⟩
   ·obtain⟨y,hy,hsy⟩:=hcom.wk k' hk;exact⟨y,by rw[Ea _ _ (by omega),hy,Option.map_some,hsy.woken],hsy⟩
   ·obtain⟨r,hr,hr0⟩:=hcom.rel k' hk hst;exact⟨r,hr.appOther g_of_ofEvents (by omega),hr0⟩
end
end Go.Proofs.YtmfjakieahkacaaGreatDoor
namespace Go.Proofs.YtmfjakieahkacaaGreatDoor
open Go.Conc Go.ConcN Go.RowKit
open Go.ConcR (KK wgBlock WgAt stA smA rd wr mk Payload DC0 Bk g_of_ofEvents bk_of_mute ofEvent_loc_mark ofEvent_mk)
theorem Hi{j i:Nat}(p:K7)(X:Nat->WX)(x:WX)(h:(if x.e=0 then p.bit i else 0)=(if (X i).e=0 then p.bit i else 0)):total p j (upd X i x)=total p j X :=
 sumTo_congr λa _=>by
  by_cases e:a=i
  ·subst e;rw[upd_same];exact h
  ·rw[upd_ne X _ e]
theorem PB{j i:Nat}(p:K7)(X:Nat->WX)(x:WX)(hi:i<j)(h0:x.e=0)(h1:(X i).e≠0):total p j (upd X i x)=total p j X+p.bit i:=by
 have key:∀j,i<j->sumTo j (λa=>if (upd X i x a).e=0 then p.bit a else 0)=sumTo j (λa=>if (X a).e=0 then p.bit a else 0)+p.bit i:=by
  intro j;induction j with
  | zero=>intro h;omega
  | succ j ih =>
   intro h;simp only[sumTo];by_cases e:j=i
   ·subst e;rw[upd_same,if_pos h0,if_neg h1,sumTo_congr (g:=λa=>if (X a).e=0 then p.bit a else 0) (λa ha=>by rw[upd_ne X x (by omega)])];omega
   ·rw[ih (by omega),upd_ne X x e];omega
 exact key j hi
theorem AaQ{p:K7}{j:Nat}(X:Nat->WX)(hj:j<=p.n):total p j X<=sumTo p.n p.bit:=by
 have h1:∀j,total p j X<=sumTo j p.bit:=λj=>by
  induction j with
  | zero=>exact A3 _
  | succ j ih =>
   simp only[total,sumTo] at *;split<;>omega
 have h2:∀k j,sumTo j p.bit<=sumTo (j+k) p.bit:=λk=>by
  induction k with
  | zero=>exact λj=>A3 _
  | succ k ih=>exact λj=>B3 (ih j) (by rw[show j+(k+1)=(j+k)+1 by omega];simp only[sumTo];omega)
 have:=h2 (p.n-j) j;rw[show j+(p.n-j)=p.n by omega] at this;exact B3 (h1 j) this
theorem AaR{p:K7}{j i:Nat}(X:Nat->WX)(hi:i<j)(hj:j<=p.n)(he:(X i).e≠0):total p j X+p.bit i<=sumTo p.n p.bit:=by
 have h:=PB p X (⟨⟨0,0,0⟩,0,0,undef,λ_=>False⟩:WX) hi rfl he;rw[← h];exact AaQ _ hj
section
variable {p:K7} {ow:Nat->Nat} {h g:Nat} {M:Nat->Prop} {fn:FuncId} {pos:String} {es:Array Event}
theorem Cs(hb:∀e∈es,Go.ConcR.Bk p.Wg e):∀op∈MemOp.ofEvents g fn pos es,∀x,op.act.touch?=some x->RH p ow h g x:=λop hop x hx=>by
 rcases (okW_of_Bk (Own:=No) (Rd:=No) (k:=g) hb op hop).2 x hx with⟨h1,h2,h3⟩|h1|h1
 ·exact .inl ⟨.inl h1,h2,λe=>absurd e h3⟩
 ·exact h1.elim
 ·exact h1.1.elim
theorem RJ(hM:∀b,M b->ow b=g/\p.Low<=b/\b<h)(he:∀e∈es,Vg p M e):∀op∈MemOp.ofEvents g fn pos es,∀x,op.act.touch?=some x->RH p ow h g x:=λop hop x hx=>by
 obtain⟨e,hee,rfl⟩:=Go.Conc.mem_ofEvents hop;rcases (he e hee).1 x hx with⟨h1,h2,h3⟩|⟨h1,a,h2,h3,h4⟩
 ·exact .inl ⟨.inl h1,h2,λe=>absurd e h3⟩
 ·exact .inr ⟨h1,a,h2,h3,h4.imp id λhm=>⟨(hM _ hm).2.1,(hM _ hm).2.2,(hM _ hm).1⟩⟩
theorem Hj(hn:∀e∈es,(MemAct.ofEvent e).touch?=none):∀op∈MemOp.ofEvents g fn pos es,∀x,op.act.touch?=some x->RH p ow h g x:=λop hop x hx=>by
 obtain⟨e,he,rfl⟩:=Go.Conc.mem_ofEvents hop;rw[hn e he] at hx;cases hx
end
theorem Ml{g:Nat}{fn:FuncId}{pos:String}{es:Array Event}:∀op∈MemOp.ofEvents g fn pos es,op.g=g:=λop hop=>by obtain⟨e,_,rfl⟩:=Go.Conc.mem_ofEvents hop;rfl
theorem Ah.set{p:K7}{w:World}{s:Int}(h:Ah p w s)(v:Int):Ah p (w.setCell (sA p) (.int .u32 v)) v:=by
 unfold Ah at h ⊢
 rw[sA,setCell_eq_setRow w p.S 0 _ p.tS (0,0) _ h,setRow_heap w p.S _ _ p.tS _ h];simp
theorem PC(t:Trace)(g:Nat)(fn:FuncId)(pos:String):t++MemOp.ofEvents g fn pos #[]=t:=by rw[ofEvents_eq];simp
section
variable {p:K7} {Anch Fin:Goroutine->World->Prop} {gs:Array Goroutine} {w:World} {sl:Option (Nat×Nat)} {j:Nat} {X:Nat->WX} {ow q:Nat->Nat} {tag:CTag} {e0 f0 d0:Nat} {M0:Nat->Prop} {a:Goroutine} {t:Trace} {st sm:Int}
theorem Tn(o:p.Ok)(hAr:∀g w,Anch g w->g.status=.running)
  (ha:gs[0]?=some a) (hcs:CS p Anch Fin tag e0 j f0 d0 M0 a w) (hcom:DN p j gs w t X ow q d0 M0) (hwg:WgAt p.ty p.Wg w st sm) (hmode:ConcN.Mode j (ds X) tag st sm)
  {i:Nat} (hi:i<j) {g:Goroutine} (hg:gs[p.m0+i]?=some g) (hrun:g.status=.running) :
  ∃m₁ ops μ',runT p.P (crowd gs w sl) (p.m0+i)=(.next m₁,ops)/\
   Lt2 μ' (phi p.n (Vc j (ds X)) tag+e0+Ssum j (ds X)+sumTo j (λi=>(X i).e),f0+2*Fsum j (ds X)+2*sumTo p.m0 q)/\Eh p Anch Fin μ' m₁ (t++ops):=by
 obtain⟨g₁,hg₁,hs⟩:=hcom.wk i hi;obtain rfl:g=g₁:=by rw[hg] at hg₁;exact A5 hg₁
 have hm1:=o.m0;have hWS:p.Wg<p.Low/\p.S<p.Low:=⟨o.wg,o.s⟩;have hMi:=hcom.mo i hi;have hMW:¬(X i).m p.Wg:=λh=>by have:=(hMi _ h).2.1;have:=o.wg;omega
 have hMS:¬(X i).m p.S:=λh=>by have:=(hMi _ h).2.1;have:=o.s;omega
 have hgN:p.m0+i=0∨(p.m0<=p.m0+i/\p.m0+i<p.m0+j):=.inr ⟨by omega,by omega⟩;have hb:=hcs.bound;have hVj:=Vc_le j (ds X);generalize hst:(X i).d.stage=s at hs;generalize hfu:(X i).d.fuel=m at hs;generalize hde:(X i).d.deaf=dd at hs;generalize hee:(X i).e=e at hs;have hsd:(ds X i).stage=s:=hst;have hdk:Deaf t (p.m0+i)=dd:=by rw[hcom.deafW i hi,hde]
 cases hs with
 | pre h =>
  have mode7:∀m',ConcN.Mode j (upd (ds X) i ⟨7,m',0⟩) tag st sm:=λm'=>by have:=hmode.same (i:=i) m' 0;rwa [hsd] at this
  have step:∀{g':Goroutine} {w':World} {es:Array Event} {m':Nat},stepG p.P false g w=.go g' w' es->DK p (X i).m w w' es->Wk p i (X i).c (X i).v e (X i).m m' g' w'->m'+1=m->
    ∃m₁ ops μ',runT p.P (crowd gs w sl) (p.m0+i)=(.next m₁,ops)/\
     Lt2 μ' (phi p.n (Vc j (ds X)) tag+e0+Ssum j (ds X)+sumTo j (λi=>(X i).e),f0+2*Fsum j (ds X)+2*sumTo p.m0 q)/\Eh p Anch Fin μ' m₁ (t++ops):=by
   intro g' w' es m' hgo hD hk hm
   refine Eb (x':=⟨⟨7,m',0⟩,e,(X i).c,(X i).v,(X i).m⟩) (ow':=ow) hAr hm1 ha hcs hcom hi hg hgo (Z8.ow hD.1 hMW hMS) (λb hb=>.inr (.inr hb)) hWS (λ_ _=>rfl) (hcom.mc i hi) (λb hb=>by have:=hMi b hb;rw[hD.1.size];exact this)
    ?_ (.pre hk) (λe he=>(hD.2 e he).2.2.2) (by rw[hde];exact deafBehind_idle (λe he=>⟨(hD.2 e he).2.1,(hD.2 e he).2.2.1⟩) 0) (λh=>by simp at h) ?_ (hwg.of_block (hD.1.block _ hMW)) (λ_ ht _=>(mode7 m').retag ht) (.inr ⟨hst.symm,hee.symm,by rw[hfu];exact hm⟩)
   ·rw[hD.1.size];exact hcom.ti.app o Ml λop hop x hx=>⟨hgN,RJ hMi hD.2 op hop x hx⟩
   ·rw[Hi p X _ (by simp[hee])];exact (hD.1.block _ hMS).trans hcom.sum
  match e,h with
  | 0,h =>
   unfold Wk at h;rcases Goes.cases h with hstop|⟨m',rfl,hstep⟩
   ·obtain⟨_,hhas,g',hgo,m₂,hk⟩:=hstop w (RK.refl w)
    refine Eb (x':=⟨⟨6,m₂,0⟩,0,(X i).c,(X i).v,(X i).m⟩) (ow':=ow) hAr hm1 ha hcs hcom hi hg hgo (Z:=λ_=>False) (.refl w) (λb hb=>hb.elim) hWS (λ_ _=>rfl) (hcom.mc i hi) hMi
     (hcom.ti.app o Ml λop hop x hx=>⟨hgN,Hj (by intro e he;simp at he;subst he;rfl) op hop x hx⟩) (.post (A3 _) (.k1 hk)) (by intro e he;simp at he;subst he;simp[mk]) (by rw[hde];rfl)
     (λ_=>⟨t.size,RelBy.new hdk _ _,by obtain⟨u,hu⟩:=hcom.ti.pre;rw[hu];simp⟩) ?_ hwg (λ_ ht _=>(hmode.counted hi (by omega) (.inl rfl) _ _).retag ht) (.inl ⟨by rw[hst,hee];simp only;omega,by simp[cnt,hst]⟩)
    rw[Hi p X _ (by simp[hee])];exact hcom.sum
   ·obtain⟨g',w',es,hgo,hD,hg'⟩:=hstep w (RK.refl w);exact step hgo hD (by unfold Wk;exact hg') rfl
  | 1,h =>
   unfold Wk at h;rcases Goes.cases h with hstop|⟨m',rfl,hstep⟩
   ·obtain⟨_,hx⟩:=hstop w (RK.refl w);have hbl:=AaR X hi (show j<=p.n by omega) (by omega);have hbs:=o.bits;obtain⟨g',hgo,m₂,hk⟩:=hx (total p j X) (by omega) hcom.sum;have has:=aside_setCell w (sA p) (.int .u32 ((total p j X+p.bit i:Nat):Int));have hsu:=hcom.sum.set ((total p j X+p.bit i:Nat):Int)
    refine Eb (x':=⟨⟨7,m₂,0⟩,0,(X i).c,(X i).v,(X i).m⟩) (ow':=ow) hAr hm1 ha hcs hcom hi hg hgo (Z8.su has ⟨_,hsu⟩ o.ne) (λb hb=>.inr (.inl hb)) hWS (λ_ _=>rfl) (hcom.mc i hi) (λb hb=>by have:=hMi b hb;rw[has.size];exact this)
     ?_ (.pre hk) (by intro e he;simp at he;rcases he with rfl|rfl<;>simp[rd,wr]) (by rw[hde];exact deafBehind_idle (by intro e he;simp at he;rcases he with rfl|rfl<;>simp[rd,wr]) 0) (λh=>by simp at h) ?_ (hwg.of_block (has.block _ o.ne)) (λ_ ht _=>(mode7 m₂).retag ht) (.inl ⟨by rw[hst,hee];simp only;omega,by simp[cnt,hst]⟩)
    ·rw[has.size];refine hcom.ti.app o Ml λop hop x hx=>⟨hgN,?_⟩;obtain⟨e,he,rfl⟩:=Go.Conc.mem_ofEvents hop;simp at he;rcases he with rfl|rfl<;>simp only[rd,wr,Go.ConcR.ofEvent_cell,MemAct.touch?,Option.some.injEq] at hx<;>subst hx<;>exact .inl ⟨.inr ⟨sA p,rfl,rfl⟩,by simp,by simp⟩
    ·rw[PB p X _ hi rfl (by omega)];exact hsu
   ·obtain⟨g',w',es,hgo,hD,hg'⟩:=hstep w (RK.refl w);exact step hgo hD (by unfold Wk;exact hg') rfl
  | e+2,h =>
   unfold Wk at h;rcases Goes.cases h with hstop|⟨m',rfl,hstep⟩
   ·obtain⟨_,g',w',hgo,hgr,m₂,hk1,hk0⟩:=hstop w (RK.refl w);have hsz:=hgr.size
    have alloc:∀e',Wk p i (X i).c (X i).v e' (λx=>(X i).m x∨x=w.heap.size) m₂ g' w'->e'<e+2->(if e'=0 then p.bit i else 0)=0->
      ∃m₁ ops μ',runT p.P (crowd gs w sl) (p.m0+i)=(.next m₁,ops)/\
       Lt2 μ' (phi p.n (Vc j (ds X)) tag+e0+Ssum j (ds X)+sumTo j (λi=>(X i).e),f0+2*Fsum j (ds X)+2*sumTo p.m0 q)/\Eh p Anch Fin μ' m₁ (t++ops):=by
     intro e' hk he' hz
     refine Eb (x':=⟨⟨7,m₂,0⟩,e',(X i).c,(X i).v,λx=>(X i).m x∨x=w.heap.size⟩) (ow':=upd ow w.heap.size (p.m0+i)) hAr hm1 ha hcs hcom hi hg hgo (Z8.gr hgr o hcom.low) (λb hb=>hb.elim) hWS (λb hb=>upd_ne ow _ (by omega)) (.inl (hcom.mc i hi)) (λb hb=>?_)
      ?_ (.pre hk) (by simp) (by rw[hde];rfl) (λh=>by simp at h) ?_ (hwg.of_block (hgr.block _ (by have:=hcom.low;have:=o.wg;omega))) (λ_ ht _=>(mode7 m₂).retag ht) (.inl ⟨by rw[hst,hee];simp only;omega,by simp[cnt,hst]⟩)
     ·rcases hb with hb|rfl
      ·have:=hMi b hb;exact⟨by rw[upd_ne ow _ (by omega)];exact this.1,this.2.1,by omega⟩
      ·exact⟨upd_same _ _ _,hcom.low,by omega⟩
     ·rw[PC,hsz];exact hcom.ti.fresh _
     ·rw[Hi p X _ (by simp only;rw[hz,hee];simp)];exact (hgr.block _ (by have:=hcom.low;have:=o.s;omega)).trans hcom.sum
    by_cases hb0:p.bit i=0
    ·exact alloc 0 (hk0 hb0) (by omega) (by simp[hb0])
    ·exact alloc (e+1) (hk1 hb0) (by omega) (by simp)
   ·obtain⟨g',w',es,hgo,hD,hg'⟩:=hstep w (RK.refl w);exact step hgo hD (by unfold Wk;exact hg') rfl
 | post h6 h =>
  have bookG:∀{g':Goroutine} {w':World} {es:Array Event} {s' m' dd':Nat} {st' sm':Int},stepG p.P false g w=.go g' w' es->Go.Conc.Aside p.Wg w w'->WgAt p.ty p.Wg w' st' sm'->(∀e∈es,Go.ConcR.Bk p.Wg e)->
    (∀jx e,es[jx]?=some e->(MemAct.ofEvent e).touch?=none∨0<deafBehind dd (es.extract 0 jx))->WSit p.P p.ty p.Wg (X i).c 1 No No 0 1 (X i).v s' m' dd' g' w'->deafBehind dd es=dd'->s'<=6->
    (∀tag',(tag'=tag∨(tag=.blk/\tag'=.w3))->(mayWake p.P g=true->g'.status=.running->tag'≠.blk)->ConcN.Mode j (upd (ds X) i ⟨s',m',dd'⟩) tag' st' sm')->((s'<s/\cnt ⟨s',m',dd'⟩<=cnt (ds X i))∨(s'=s/\m'+1=m))->
    ∃m₁ ops μ',runT p.P (crowd gs w sl) (p.m0+i)=(.next m₁,ops)/\
     Lt2 μ' (phi p.n (Vc j (ds X)) tag+e0+Ssum j (ds X)+sumTo j (λi=>(X i).e),f0+2*Fsum j (ds X)+2*sumTo p.m0 q)/\Eh p Anch Fin μ' m₁ (t++ops):=by
   intro g' w' es s' m' dd' st' sm' hgo hAs hwg' hbk hd hs' hdd h6' hmode' hlt
   refine Eb (x':=⟨⟨s',m',dd'⟩,0,(X i).c,(X i).v,(X i).m⟩) (ow':=ow) hAr hm1 ha hcs hcom hi hg hgo (Z8.wg hAs ⟨_,_,hwg'⟩ o.ne) (λb hb=>.inl hb) hWS (λ_ _=>rfl) (hcom.mc i hi) (λb hb=>by have:=hMi b hb;rw[hAs.size];exact this)
    ?_ (.post h6' hs') (norel_of_Bk hbk) (by rw[hde];exact hdd) (λ_=>let ⟨r,hr,hr0⟩:=hcom.rel i hi (by omega);⟨r,hr.book hdk _ _ hbk hd,hr0⟩) ?_ hwg' hmode' ?_
   ·rw[hAs.size];exact hcom.ti.app o Ml λop hop x hx=>⟨hgN,Cs hbk op hop x hx⟩
   ·rw[Hi p X _ (by simp[hee])];exact (hAs.block _ (Ne.symm o.ne)).trans hcom.sum
   ·rcases hlt with⟨h1,h2⟩|⟨h1,h2⟩
    ·exact .inl ⟨by rw[hst,hee];exact h1,h2⟩
    ·exact .inr ⟨by rw[hst];exact h1,hee.symm,by rw[hfu];exact h2⟩
  have book:∀{g':Goroutine} {w':World} {es:Array Event} {s' m' dd':Nat} {st' sm':Int},stepG p.P false g w=.go g' w' es->Go.Conc.Aside p.Wg w w'->WgAt p.ty p.Wg w' st' sm'->(∀e∈es,Go.ConcR.Bk p.Wg e)->
    (∀jx e,es[jx]?=some e->(MemAct.ofEvent e).touch?=none∨0<deafBehind dd (es.extract 0 jx))->WSit p.P p.ty p.Wg (X i).c 1 No No 0 1 (X i).v s' m' dd' g' w'->deafBehind dd es=dd'->s'<=6->
    ConcN.Mode j (upd (ds X) i ⟨s',m',dd'⟩) tag st' sm'->((s'<s/\cnt ⟨s',m',dd'⟩<=cnt (ds X i))∨(s'=s/\m'+1=m))->
    ∃m₁ ops μ',runT p.P (crowd gs w sl) (p.m0+i)=(.next m₁,ops)/\
     Lt2 μ' (phi p.n (Vc j (ds X)) tag+e0+Ssum j (ds X)+sumTo j (λi=>(X i).e),f0+2*Fsum j (ds X)+2*sumTo p.m0 q)/\Eh p Anch Fin μ' m₁ (t++ops) :=
   λhgo hAs hwg' hbk hd hs' hdd h6' hmode' hlt=>bookG hgo hAs hwg' hbk hd hs' hdd h6' (λ_ ht _=>hmode'.retag ht) hlt
  have idle:∀{g':Goroutine} {m':Nat},stepG p.P false g w=.go g' w #[]->WSit p.P p.ty p.Wg (X i).c 1 No No 0 1 (X i).v s m' dd g' w->m'+1=m->
    ∃m₁ ops μ',runT p.P (crowd gs w sl) (p.m0+i)=(.next m₁,ops)/\
     Lt2 μ' (phi p.n (Vc j (ds X)) tag+e0+Ssum j (ds X)+sumTo j (λi=>(X i).e),f0+2*Fsum j (ds X)+2*sumTo p.m0 q)/\Eh p Anch Fin μ' m₁ (t++ops):=by
   intro g' m' hgo hs' hm;exact book hgo (.refl p.Wg w) hwg (by simp) (by simp) hs' rfl h6 (by have:=hmode.same (i:=i) m' dd;rwa [hsd] at this) (.inr ⟨rfl,hm⟩)
  cases h with
  | r0 h=>omega
  | k1 h =>
   rcases Goes.cases h with hstop|⟨m',rfl,hstep⟩
   ·obtain⟨_,g',hgo,m₂,hk⟩:=hstop w (RW.refl w)
    exact book hgo (.refl p.Wg w) hwg (by intro e he;simp at he;subst he;exact .inl rfl) (by intro jx e he;exact .inl (by have:=Array.mem_of_getElem? he;simp at this;subst this;rfl)) (.d1 hk) rfl (by omega)
     (hmode.counted hi (by omega) (.inr rfl) _ _) (.inl ⟨by omega,by simp[cnt,hsd]⟩)
   ·obtain⟨g',w',es,hgo,⟨rfl,rfl⟩,hg'⟩:=hstep w (RW.refl w);exact idle hgo (.k1 hg') rfl
  | d1 h =>
   rcases Goes.cases h with hstop|⟨m',rfl,hstep⟩
   ·obtain⟨_,hall⟩:=hstop w (RW.refl w);have hc1:cnt (ds X i)=1:=by simp[cnt,hsd]
    have hV1:1<=Vc j (ds X):=by have:=le_sumTo (f:=λx=>cnt (ds X x)) hi;simp only[Vc];omega
    have bk2:∀e∈#[rd (stA p.Wg),wr (stA p.Wg)],Go.ConcR.Bk p.Wg e:=by intro e he;simp at he;rcases he with rfl|rfl<;>exact bk_cell _ _ rfl
    have df2:∀jx e,(#[rd (stA p.Wg),wr (stA p.Wg)]:Array Event)[jx]?=some e->(MemAct.ofEvent e).touch?=none∨0<deafBehind 1 ((#[rd (stA p.Wg),wr (stA p.Wg)]:Array Event).extract 0 jx):=by
     intro jx e he;match jx,he with
     | 0,_=>exact .inr (by simp[deafBehind])
     | 1,_=>exact .inr (by simp[deafBehind,rd])
     | jx+2,he=>simp at he
    have hq0:∀q,cnt (⟨1,q,1⟩:WD)=0:=λ_=>rfl
    have opq:∀q,OpenSt j (ds X)->OpenSt j (upd (ds X) i ⟨1,q,1⟩):=λq h a ha=>by
     by_cases e:a=i
     ·subst e;rw[upd_same];simp
     ·rw[upd_ne (ds X) _ e];exact h a ha
    cases hmode with
    | opn h1 h2 h3 =>
     obtain⟨v,hv⟩:∃v,Vc j (ds X)+pend tag=v+1:=⟨Vc j (ds X)+pend tag-1,by omega⟩;rw[hv] at hwg;have hpn:=o.n;have hw1:WgAt p.ty p.Wg w (((v:Nat)+1)*KK+((0:Nat):Int)) 0:=by simpa using hwg
     obtain⟨g',hgo,_,hq⟩:=hall v 0 (by omega) (by omega) hw1;obtain⟨q,hq⟩:=hq (by omega);have hv':Vc j (upd (ds X) i ⟨1,q,1⟩)+pend tag=v:=by have:=Vc_upd (ds X) (⟨1,q,1⟩:WD) hi;have:=hq0 q;omega
     refine book hgo (aside_setCell w (stA p.Wg) _) (hwg.setSt _) bk2 df2 (.quit hq) rfl (by omega) ?_ (.inl ⟨by omega,by simp[cnt]⟩);have e:((v:Nat):Int)*KK+((0:Nat):Int)=((Vc j (upd (ds X) i ⟨1,q,1⟩)+pend tag:Nat):Int)*KK:=by rw[hv'];simp
     rw[e];exact .opn h1 (opq q h2) (λvs ev=>by have:=h3 vs ev;omega)
    | reg h1 h2 h3 =>
     obtain⟨v,hv⟩:∃v,Vc j (ds X)=v+1:=⟨Vc j (ds X)-1,by omega⟩;rw[hv] at hwg;have hpn:=o.n;have hp:pend tag=0:=by cases tag<;>first|rfl|exact h1.elim
     have hw1:WgAt p.ty p.Wg w (((v:Nat)+1)*KK+((1:Nat):Int)) 0:=by simpa using hwg
     obtain⟨g',hgo,hl,hq⟩:=hall v 1 (by omega) (by omega) hw1;by_cases hv0:v=0
     ·subst hv0;obtain⟨m₂,hk⟩:=hl ⟨rfl,rfl⟩;refine book hgo (aside_setCell w (stA p.Wg) _) (hwg.setSt _) bk2 df2 (.d2 hk) rfl (by omega) ?_ (.inl ⟨by omega,by simp[cnt]⟩)
      have hoth:∀a,a<j->a≠i->(ds X a).stage=1:=λa ha e=>by
       have c0:=others_uncounted hi hv hc1 a ha e;have:=h2 a ha;simp only[cnt] at c0;split at c0<;>omega
      have:=ConcN.Mode.last (j:=j) (D:=upd (ds X) i ⟨4,m₂,1⟩) (tag:=tag) i h1 hi (by rw[upd_same];simp) (λa ha e=>by rw[upd_ne (ds X) _ e];exact hoth a ha e);rw[upd_same] at this;simpa using this
     ·obtain⟨q,hq⟩:=hq (by omega);have hv':Vc j (upd (ds X) i ⟨1,q,1⟩)=v:=by have:=Vc_upd (ds X) (⟨1,q,1⟩:WD) hi;have:=hq0 q;omega
      refine book hgo (aside_setCell w (stA p.Wg) _) (hwg.setSt _) bk2 df2 (.quit hq) rfl (by omega) ?_ (.inl ⟨by omega,by simp[cnt]⟩);have e:((v:Nat):Int)*KK+((1:Nat):Int)=((Vc j (upd (ds X) i ⟨1,q,1⟩):Nat):Int)*KK+1:=by rw[hv'];simp
      rw[e];exact .reg h1 (opq q h2) (by omega)
    | last L _ h2 h3 h4 =>
     by_cases e:i=L
     ·subst e;omega
     ·have:=h4 i hi e;omega
    | sema h2=>have:=h2 i hi;omega
    | fin _ h2=>have:=h2 i hi;omega
   ·obtain⟨g',w',es,hgo,⟨rfl,rfl⟩,hg'⟩:=hstep w (RW.refl w);exact idle hgo (.d1 hg') rfl
  | d2 h =>
   rcases Goes.cases h with hstop|⟨m',rfl,hstep⟩
   ·obtain⟨_,hx⟩:=hstop w (RW.refl w);obtain⟨hW3,hoth,rfl,rfl⟩:=hmode.isLast hi (by omega);simp only[hsd] at hwg;obtain⟨g',hgo,m₂,hk⟩:=hx (by simpa using hwg);refine book hgo (.refl p.Wg w) hwg (by intro e he;simp at he;subst he;exact bk_cell _ _ rfl) (by intro jx e he;match jx,he with|0,_=>exact .inr (by simp[deafBehind])|jx+1,he=>simp at he) (.d3 hk) rfl (by omega) ?_ (.inl ⟨by omega,by simp[cnt]⟩);have:=ConcN.Mode.last (j:=j) (D:=upd (ds X) i ⟨3,m₂,1⟩) (tag:=tag) i hW3 hi (by rw[upd_same];simp) (λa ha e=>by rw[upd_ne (ds X) _ e];exact hoth a ha e);rw[upd_same] at this;simpa using this
   ·obtain⟨g',w',es,hgo,⟨rfl,rfl⟩,hg'⟩:=hstep w (RW.refl w);exact idle hgo (.d2 hg') rfl
  | d3 h =>
   rcases Goes.cases h with hstop|⟨m',rfl,hstep⟩
   ·obtain⟨_,hx⟩:=hstop w (RW.refl w);obtain⟨hW3,hoth,rfl,rfl⟩:=hmode.isLast hi (by omega);simp only[hsd] at hwg;obtain⟨g',hgo,m₂,hk⟩:=hx (by simpa using hwg);refine book hgo (aside_setCell w (stA p.Wg) _) (hwg.setSt 0) (by intro e he;simp at he;subst he;exact bk_cell _ _ rfl) (by intro jx e he;match jx,he with|0,_=>exact .inr (by simp[deafBehind])|jx+1,he=>simp at he) (.d4 hk) rfl (by omega) ?_ (.inl ⟨by omega,by simp[cnt]⟩);have:=ConcN.Mode.last (j:=j) (D:=upd (ds X) i ⟨2,m₂,1⟩) (tag:=tag) i hW3 hi (by rw[upd_same];simp) (λa ha e=>by rw[upd_ne (ds X) _ e];exact hoth a ha e);rw[upd_same] at this;simpa using this
   ·obtain⟨g',w',es,hgo,⟨rfl,rfl⟩,hg'⟩:=hstep w (RW.refl w);exact idle hgo (.d3 hg') rfl
  | d4 h =>
   rcases Goes.cases h with hstop|⟨m',rfl,hstep⟩
   ·obtain⟨_,hmw,hx⟩:=hstop w (RW.refl w);obtain⟨hW3,hoth,rfl,rfl⟩:=hmode.isLast hi (by omega);simp only[hsd] at hwg;obtain⟨g',hgo,q,hq⟩:=hx (by simpa using hwg)
    have hrun':g'.status=.running:=by
     cases q with
     | zero=>exact absurd hq.2 (by decide)
     | succ q=>exact hq.elim (λx=>absurd x.2 (by decide)) (λx=>x.1)
    refine bookG hgo (aside_setCell w (smA p.Wg) _) (hwg.setSm 1) (es:=semEvents (smA p.Wg)) bk_sem ?_ (.quit hq) (by simp[deafBehind,semEvents]) (by omega) ?_ (.inl ⟨by omega,by simp[cnt]⟩)
    ·intro jx e he;match jx,he with
     | 0,he=>simp[semEvents] at he;subst he;exact .inl rfl
     | 1,_=>exact .inr (by simp[deafBehind,semEvents])
     | 2,_=>exact .inr (by simp[deafBehind,semEvents])
     | 3,he=>simp[semEvents] at he;subst he;exact .inl rfl
     | jx+4,he=>simp[semEvents] at he
    ·intro tag' ht hw;have hnb:=hw hmw hrun'
     have e3:tag'=.w3:=by
      rcases ht with rfl|⟨_,rfl⟩
      ·cases tag'<;>first|rfl|exact hW3.elim|exact absurd rfl hnb
      ·rfl
     subst e3;simp only[if_true]
     exact .sema λa ha=>by
      by_cases e:a=i
      ·subst e;rw[upd_same]
      ·rw[upd_ne (ds X) _ e];exact hoth a ha e
   ·obtain⟨g',w',es,hgo,⟨rfl,rfl⟩,hg'⟩:=hstep w (RW.refl w);exact idle hgo (.d4 hg') rfl
  | quit h =>
   cases m with
   | zero=>rw[h.1] at hrun;cases hrun
   | succ q =>
    rcases h with⟨hf,_⟩|⟨_,g',es,hmute,hstep,hq⟩
    ·rw[hf] at hrun;cases hrun
    ·have hbk:∀e∈es,Go.ConcR.Bk p.Wg e:=λe he=>bk_of_mute (hmute e he);have hno:∀jx e,es[jx]?=some e->(MemAct.ofEvent e).touch?=none∨0<deafBehind dd (es.extract 0 jx):=λjx e he=>.inl (touch_mute (hmute e (Array.mem_of_getElem? he)));exact book (hstep w) (.refl p.Wg w) hwg hbk hno (.quit hq) rfl (by omega) (by have:=hmode.same (i:=i) q (deafBehind dd es);rwa [hsd] at this) (.inr ⟨rfl,rfl⟩)
end
end Go.Proofs.YtmfjakieahkacaaGreatDoor
namespace Go.Proofs.YtmfjakieahkacaaGreatDoor
open Go.Conc Go.ConcN
open Go.ConcR (KK wgBlock WgAt stA smA rd wr mk Payload DC0 Bk g_of_ofEvents ofEvent_mk)
def Done(p:K7)(Fin:Goroutine->World->Prop)(m:Machine)(t:Trace):Prop :=
 ∃(gs:Array Goroutine)(a:Goroutine)(w:World)(sl:Option (Nat×Nat)) (q:Nat->Nat) (B':Nat),m=crowd gs w sl/\gs.size=p.m0+p.n/\gs[0]?=some a/\Fin a w/\Ah p w ((sumTo p.n p.bit:Nat):Int)/\Leavers p.P t gs q/\Fr p.Sh B' t
theorem GH{p:K7}{ow:Nat->Nat}{h:Nat}{fn:FuncId}{pos:String}{k:Mark}(hk:k=.disable∨k=.enable∨(∃a,k=.acquire a)∨∃a:Addr,a.block=p.Wg/\(k=.read a∨k=.write a)):
  ∀op∈MemOp.ofEvents 0 fn pos #[mk k],∀x,op.act.touch?=some x->RH p ow h 0 x:=λop hop x hx=>by
 obtain⟨e,he,rfl⟩:=Go.Conc.mem_ofEvents hop;simp only[Array.mem_singleton] at he;subst he;rw[ofEvent_mk] at hx;rcases hk with rfl|rfl|⟨a,rfl⟩|⟨a,ha,rfl|rfl⟩<;>simp only[MemAct.touch?,Option.some.injEq,reduceCtorEq] at hx<;>subst hx<;>exact .inl ⟨.inl ⟨a,rfl,ha⟩,by simp,λ_=>rfl⟩
section
variable {p:K7} {Anch Fin:Goroutine->World->Prop} {gs:Array Goroutine} {w w':World} {sl:Option (Nat×Nat)} {j:Nat} {X:Nat->WX} {ow q:Nat->Nat} {tag tag':CTag} {e0 e' f0 f' d0 B b:Nat} {M0:Nat->Prop} {a a':Goroutine} {t:Trace} {st sm st' sm':Int} {es:Array Event}
theorem BS(o:p.Ok)(ha:gs[0]?=some a)(hcom:DN p j gs w t X ow q d0 M0)(hgo:stepG p.P true a w=.go a' w' es)(hAs:Go.Conc.Aside p.Wg w w')(hwg':WgAt p.ty p.Wg w' st' sm')
  (hok:∀op∈MemOp.ofEvents 0 a.frame.fn a.frame.place es,∀x,op.act.touch?=some x->RH p ow w.heap.size 0 x) (hnr:∀e∈es,e.loc≠.mark (.release (stA p.Wg)))
  (hcs':CS p Anch Fin tag' e' j f' (deafBehind d0 es) M0 a' w') (hmode':ConcN.Mode j (ds X) tag' st' sm')
  (hlt:phi p.n (Vc j (ds X)) tag'+e'<phi p.n (Vc j (ds X)) tag+e0∨(phi p.n (Vc j (ds X)) tag'+e'=phi p.n (Vc j (ds X)) tag+e0/\f'<f0)) :
  ∃m₁ ops μ',runT p.P (crowd gs w sl) 0=(.next m₁,ops)/\
   Lt2 μ' (phi p.n (Vc j (ds X)) tag+e0+Ssum j (ds X)+sumTo j (λi=>(X i).e),f0+2*Fsum j (ds X)+2*sumTo p.m0 q)/\Eh p Anch Fin μ' m₁ (t++ops) :=
 Hh (ow':=ow) o.m0 ha hcom hgo (Z8.wg hAs ⟨_,_,hwg'⟩ o.ne) (λb hb=>.inl hb) ⟨o.wg,o.s⟩ (λ_ _=>rfl) (λb hb=>by rw[hAs.size];exact hcom.m0 b hb)
  (by rw[hAs.size];exact hcom.ti.app o Ml λop hop x hx=>⟨.inl rfl,hok op hop x hx⟩) hnr hcs' ((hAs.block _ (Ne.symm o.ne)).trans hcom.sum) hwg' hmode' hlt
theorem Ce(o:p.Ok)(ha:gs[0]?=some a)(hcom:DN p j gs w t X ow q d0 M0)(hwg:WgAt p.ty p.Wg w st sm)(hmode:ConcN.Mode j (ds X) tag st sm)(hgo:stepG p.P true a w=.go a' w #[])
  (hcs':CS p Anch Fin tag e0 j f' d0 M0 a' w) (hf:f'<f0) :
  ∃m₁ ops μ',runT p.P (crowd gs w sl) 0=(.next m₁,ops)/\
   Lt2 μ' (phi p.n (Vc j (ds X)) tag+e0+Ssum j (ds X)+sumTo j (λi=>(X i).e),f0+2*Fsum j (ds X)+2*sumTo p.m0 q)/\Eh p Anch Fin μ' m₁ (t++ops) :=
 BS o ha hcom hgo (.refl p.Wg w) hwg (Hj (by simp)) (by simp) hcs' hmode (.inr ⟨rfl,hf⟩)
theorem DN.spawn(h:DN p j gs w t X ow q 0 (R6 b))(o:p.Ok){child:Goroutine}{x y:MemOp}{C e m:Nat}{v:Value}(hx:x.g=0/\x.act=.go (p.m0+j))(hy:y.g=p.m0+j/\y.act=.start)
  (hC:R6 b C) (he:e=0->p.bit j=0) (hc:Wk p j C v e (R6 b) m child w) :
  DN p (j+1) ((gs.setIfInBounds 0 a').push child) w (t ++ #[x,y]) (upd X j ⟨⟨7,m,0⟩,e,C,v,R6 b⟩) (upd ow b (p.m0+j)) q 0 Mt:=by
 have hm:∀op∈#[x,y],op=x∨op=y:=by intro op hop;simpa using hop
 have hm1:=o.m0
 have hst:∀op∈#[x,y],op.act≠.mark .disable/\op.act≠.mark .enable:=by
  intro op hop;rcases hm op hop with rfl|rfl
  ·rw[hx.2];exact⟨by simp,by simp⟩
  ·rw[hy.2];exact⟨by simp,by simp⟩
 have hb:=h.m0 b rfl
 have hget:∀k,1<=k->k<p.m0+j->((gs.setIfInBounds 0 a').push child)[k]?=gs[k]?:=λk k1 k2=>by
  rw[Array.getElem?_push_lt (by simp[h.size];omega),← Array.getElem?_eq_getElem,Array.getElem?_setIfInBounds_ne (by omega)]
 refine⟨by simp[h.size];omega,λk k1 k2=>?_,λk hk=>?_,λk hk=>?_,λk hk c hc'=>?_,λc hc'=>hc'.elim,h.low,?_,h.norel.app λop hop=>?_,by rw[Deaf_still t 0 _ hst,h.deaf0],λk hk=>?_,λk hk=>by rw[Deaf_still t _ _ hst];exact h.above k (by omega),λk hk hs=>?_,?_⟩
 ·obtain⟨g,hg,hq⟩:=h.old k k1 k2;exact⟨g,(hget k k1 (by omega)).trans hg,by rw[Deaf_still t _ _ hst];exact hq⟩
 ·rcases Nat.lt_or_ge k j with hlt|hge
  ·obtain⟨g,hg,hsg⟩:=h.wk k hlt;exact⟨g,(hget _ (by omega) (by omega)).trans hg,by rw[upd_ne X _ (by omega)];exact hsg⟩
  ·obtain rfl:k=j:=by omega
   refine⟨child,?_,by rw[upd_same];exact .pre hc⟩;rw[show p.m0+k=(gs.setIfInBounds 0 a').size by rw[Array.size_setIfInBounds,h.size],Array.getElem?_push_size]
 ·rcases Nat.lt_or_ge k j with hlt|hge
  ·rw[upd_ne X _ (by omega)];exact h.mc k hlt
  ·obtain rfl:k=j:=by omega
   rw[upd_same];exact hC
 ·rcases Nat.lt_or_ge k j with hlt|hge
  ·rw[upd_ne X _ (by omega)] at hc';obtain⟨h1,h2,h3⟩:=h.mo k hlt c hc';exact⟨by rw[upd_ne ow _ (λe=>by subst e;omega)];exact h1,h2,h3⟩
  ·obtain rfl:k=j:=by omega
   rw[upd_same] at hc';obtain rfl:c=b:=hc';exact⟨upd_same _ _ _,hb.2⟩
 ·refine h.ti.fork (by omega) (by omega) hx hy h.deaf0 (h.above _ (A3 _)) λc=>?_;by_cases e:c=b
  ·subst e;exact .inr ⟨hb.1,upd_same _ _ _⟩
  ·exact .inl (upd_ne ow _ e)
 ·rcases hm op hop with rfl|rfl
  ·rw[hx.2];simp
  ·rw[hy.2];simp
 ·rw[Deaf_still t _ _ hst];rcases Nat.lt_or_ge k j with hlt|hge
  ·rw[h.deafW k hlt,upd_ne X _ (by omega)]
  ·obtain rfl:k=j:=by omega
   rw[upd_same];exact h.above _ (A3 _)
 ·rcases Nat.lt_or_ge k j with hlt|hge
  ·rw[upd_ne X _ (by omega)] at hs;obtain⟨r,hr,hr0⟩:=h.rel k hlt hs;refine⟨r,hr.appNot λop hop=>?_,hr0⟩;rcases hm op hop with rfl|rfl
   ·rw[hx.1];omega
   ·rw[hy.1];omega
  ·obtain rfl:k=j:=by omega
   rw[upd_same] at hs;simp at hs
 ·have e1:total p (j+1) (upd X j ⟨⟨7,m,0⟩,e,C,v,R6 b⟩)=total p j X:=by
   simp only[total,sumTo,upd_same];rw[sumTo_congr (g:=λa=>if (X a).e=0 then p.bit a else 0) (λa ha=>by rw[upd_ne X _ (by omega)])];split
   ·rename_i h0;rw[he h0];rfl
   ·rfl
  rw[e1];exact h.sum
theorem DN.leavers(h:DN p p.n gs w t X ow q d0 M0)(hq:AllQuit p.n (ds X)):Leavers p.P t gs (λk=>if k<p.m0 then q k else (X (k-p.m0)).d.fuel):=by
 refine⟨λi g h0 hg=>?_,λk hk=>h.above k (by rw[← h.size];exact hk)⟩;have hlt:i<p.m0+p.n:=by have:=(C9.1 hg).1;rw[h.size] at this;exact this
 rcases Nat.lt_or_ge i p.m0 with hi|hi
 ·obtain⟨g',hg',hqq⟩:=h.old i h0 hi;rw[hg] at hg';cases hg'
  simp only[hi,if_true];exact hqq
 ·obtain⟨k,rfl⟩:∃k,i=p.m0+k:=⟨i-p.m0,by omega⟩;obtain⟨g',hg',hs⟩:=h.wk k (by omega);rw[hg] at hg';cases hg'
  have h1:(X k).d.stage=1:=hq k (by omega);rw[if_neg (by omega),show p.m0+k-p.m0=k by omega,h.deafW k (by omega)];rw[h1] at hs;generalize (X k).e=ee at hs;cases hs with
  | post _ hs=>exact hs.quits rfl
theorem Vh(o:p.Ok)(ha:gs[0]?=some a)(hcom:DN p p.n gs w t X ow q 1 Mt)(hwg:WgAt p.ty p.Wg w st sm)(hmode:ConcN.Mode p.n (ds X) .w1 st sm)
  (h:Goes p.P true (R0 p Mt) DC0 (ES p Anch Fin) f0 a w) :
  ∃m₁ ops μ',runT p.P (crowd gs w sl) 0=(.next m₁,ops)/\
   Lt2 μ' (phi p.n (Vc p.n (ds X)) .w1+0+Ssum p.n (ds X)+sumTo p.n (λi=>(X i).e),f0+2*Fsum p.n (ds X)+2*sumTo p.m0 q)/\Eh p Anch Fin μ' m₁ (t++ops):=by
 rcases Goes.cases h with hstop|⟨m',rfl,hstep⟩
 ·obtain⟨_,hall⟩:=hstop w (.refl w);obtain⟨ho,rfl,rfl,_⟩:=hmode.open_inv trivial;have hV:=Vc_le p.n (ds X);have hn:=o.n;obtain⟨a',hgo,h0,hne⟩:=hall (Vc p.n (ds X)) (by omega) (by simpa [pend] using hwg);by_cases hv:Vc p.n (ds X)=0
  ·obtain⟨m₂,hk⟩:=h0 hv;refine BS o ha hcom hgo (.refl p.Wg w) hwg (Cs bk_rd) (norel_of_Bk bk_rd) (tag':=.ke) (.ke hk) ?_ (.inl (by simp only[phi];omega));have e:((Vc p.n (ds X)+pend .w1:Nat):Int)*KK=0:=by rw[hv];simp[pend]
   rw[e];exact .fin trivial (allQuit_of ho hv)
  ·obtain⟨m₂,hk⟩:=hne hv;exact BS o ha hcom hgo (.refl p.Wg w) hwg (Cs bk_rd) (norel_of_Bk bk_rd) (tag':=.w2 (Vc p.n (ds X))) (.w2 hk) (hmode.reopen trivial trivial rfl (λvs e=>by cases e;omega)) (.inl (by simp only[phi];omega))
 ·obtain⟨a',w',es,hgo,⟨rfl,rfl⟩,hg'⟩:=hstep w (.refl w);exact Ce o ha hcom hwg hmode hgo (.w1 hg') (by omega)
theorem JB{k:Mark}(hk:∀a,k≠.release a):∀e∈#[mk k],e.loc≠.mark (.release (stA p.Wg)):=λe he hl=>by
 simp only[Array.mem_singleton] at he;subst he;simp only[mk,Loc.mark.injEq] at hl;exact hk _ hl
theorem To(o:p.Ok)(hAn:∀g w,Anch g w->∃m,Goes p.P true (R0 p Mt) DC0 (ES p Anch Fin) m g w)(hf:Fr p.Shun B p.t0)
  (ha:gs[0]?=some a) (hcs:CS p Anch Fin tag e0 j f0 d0 M0 a w) (hcom:DN p j gs w t X ow q d0 M0) (hwg:WgAt p.ty p.Wg w st sm) (hmode:ConcN.Mode j (ds X) tag st sm) (hrun:a.status=.running) :
  (∃m₁ ops,runT p.P (crowd gs w sl) 0=(.next m₁,ops)/\Done p Fin m₁ (t++ops))∨
  (∃m₁ ops μ',runT p.P (crowd gs w sl) 0=(.next m₁,ops)/\
   Lt2 μ' (phi p.n (Vc j (ds X)) tag+e0+Ssum j (ds X)+sumTo j (λi=>(X i).e),f0+2*Fsum j (ds X)+2*sumTo p.m0 q)/\Eh p Anch Fin μ' m₁ (t++ops)):=by
 have hVj:=Vc_le j (ds X);have hn:=o.n;have hm1:=o.m0;cases hcs with
 | al hr h =>
  rename_i r;rcases Goes.cases h with hstop|⟨m',rfl,hstep⟩
  ·obtain⟨_,a',w',hgo,hgr,m₂,hk⟩:=hstop w (.refl w);have hsz:=hgr.size
   refine .inr (Hh (ow':=upd ow w.heap.size 0) (tag':=.sp r 6) (M':=R6 w.heap.size) o.m0 ha hcom hgo (Z8.gr hgr o hcom.low) (λb hb=>hb.elim) ⟨o.wg,o.s⟩ (λb hb=>upd_ne ow _ (by omega)) (λb hb=>?_) ?_ (by simp) (.ow hr hk)
    ((hgr.block _ (by have:=hcom.low;have:=o.s;omega)).trans hcom.sum) (hwg.of_block (hgr.block _ (by have:=hcom.low;have:=o.wg;omega))) (hmode.reopen trivial trivial rfl (by simp)) (.inl (by simp only[phi];omega)))
   ·obtain rfl:b=w.heap.size:=hb;exact⟨upd_same _ _ _,hcom.low,by omega⟩
   ·rw[PC,hsz];exact hcom.ti.fresh _
  ·obtain⟨a',w',es,hgo,⟨rfl,rfl⟩,hg'⟩:=hstep w (.refl w);exact .inr (Ce o ha hcom hwg hmode hgo (.al hr hg') (by omega))
 | ow hr h =>
  rename_i r b;rcases Goes.cases h with hstop|⟨m',rfl,hstep⟩
  ·obtain⟨_,a',w',es,hgo,hD,m₂,hk⟩:=hstop w (.refl w);have hbo:=hcom.m0 b rfl;have hbW:¬R6 b p.Wg:=λe=>by have:p.Wg=b:=e;have:=o.wg;omega
   have hbS:¬R6 b p.S:=λe=>by have:p.S=b:=e;have:=o.s;omega
   have hdf:deafBehind 0 es=0:=deafBehind_idle (λe he=>⟨(hD.2 e he).2.1,(hD.2 e he).2.2.1⟩) 0
   refine .inr (Hh (ow':=ow) (tag':=.sp r 5) (M':=R6 b) o.m0 ha hcom hgo (Z8.ow hD.1 hbW hbS) (λc hc=>.inr (.inr hc)) ⟨o.wg,o.s⟩ (λ_ _=>rfl) (λc hc=>by rw[hD.1.size];exact hcom.m0 c hc) ?_ (λe he=>(hD.2 e he).2.2.2) (by rw[hdf];exact .kd5 hr hk)
    ((hD.1.block _ hbS).trans hcom.sum) (hwg.of_block (hD.1.block _ hbW)) (hmode.reopen trivial trivial rfl (by simp)) (.inl (by simp only[phi];omega)))
   rw[hD.1.size];exact hcom.ti.app o Ml λop hop x hx=>⟨.inl rfl,RJ (λc hc=>hcom.m0 c hc) hD.2 op hop x hx⟩
  ·obtain⟨a',w',es,hgo,⟨rfl,rfl⟩,hg'⟩:=hstep w (.refl w);exact .inr (Ce o ha hcom hwg hmode hgo (.ow hr hg') (by omega))
 | kd5 hr h =>
  rcases Goes.cases h with hstop|⟨m',rfl,hstep⟩
  ·obtain⟨_,a',hgo,m₂,hk⟩:=hstop w (.refl w);exact .inr (BS o ha hcom hgo (.refl p.Wg w) hwg (GH (.inl rfl)) (JB (by simp)) (.a1 hr hk) (hmode.reopen trivial trivial rfl (by simp)) (.inl (by simp only[phi];omega)))
  ·obtain⟨a',w',es,hgo,⟨rfl,rfl⟩,hg'⟩:=hstep w (.refl w);exact .inr (Ce o ha hcom hwg hmode hgo (.kd5 hr hg') (by omega))
 | a1 hr h =>
  rename_i r b;rcases Goes.cases h with hstop|⟨m',rfl,hstep⟩
  ·obtain⟨_,hall⟩:=hstop w (.refl w);obtain⟨ho,rfl,rfl,_⟩:=hmode.open_inv trivial;obtain⟨a',hgo,m₂,hk⟩:=hall (Vc (p.n-(r+1)) (ds X)) (by omega) (by simpa [pend] using hwg);have e:(((Vc (p.n-(r+1)) (ds X):Nat):Int)+1)*KK=((Vc (p.n-(r+1)) (ds X)+1:Nat):Int)*KK:=by simp
   rcases hk with hk|hk
   ·refine .inr (BS o ha hcom hgo (aside_setCell w (stA p.Wg) _) (hwg.setSt _) (Cs bk_rw) (norel_of_Bk bk_rw) (.sr hr hk) ?_ (.inl (by simp only[phi];omega)));rw[e];exact .opn trivial ho (by simp)
   ·refine .inr (BS o ha hcom hgo (aside_setCell w (stA p.Wg) _) (hwg.setSt _) (Cs bk_rw) (norel_of_Bk bk_rw) (.ke2 hr hk) ?_ (.inl (by simp only[phi];omega)));rw[e];exact .opn trivial ho (by simp)
  ·obtain⟨a',w',es,hgo,⟨rfl,rfl⟩,hg'⟩:=hstep w (.refl w);exact .inr (Ce o ha hcom hwg hmode hgo (.a1 hr hg') (by omega))
 | sr hr h =>
  rcases Goes.cases h with hstop|⟨m',rfl,hstep⟩
  ·obtain⟨_,a',hgo,m₂,hk⟩:=hstop w (.refl w);exact .inr (BS o ha hcom hgo (.refl p.Wg w) hwg (GH (.inr (.inr (.inr ⟨_,rfl,.inl rfl⟩)))) (JB (by simp)) (.ke2 hr hk) (hmode.reopen trivial trivial rfl (by simp)) (.inl (by simp only[phi];omega)))
  ·obtain⟨a',w',es,hgo,⟨rfl,rfl⟩,hg'⟩:=hstep w (.refl w);exact .inr (Ce o ha hcom hwg hmode hgo (.sr hr hg') (by omega))
 | ke2 hr h =>
  rcases Goes.cases h with hstop|⟨m',rfl,hstep⟩
  ·obtain⟨_,a',hgo,m₂,hk⟩:=hstop w (.refl w);exact .inr (BS o ha hcom hgo (.refl p.Wg w) hwg (GH (.inr (.inl rfl))) (JB (by simp)) (.go hr hk) (hmode.reopen trivial trivial rfl (by simp)) (.inl (by simp only[phi];omega)))
  ·obtain⟨a',w',es,hgo,⟨rfl,rfl⟩,hg'⟩:=hstep w (.refl w);exact .inr (Ce o ha hcom hwg hmode hgo (.ke2 hr hg') (by omega))
 | go hr h =>
  rename_i r b;rcases Goes.cases h with hstop|⟨m',rfl,hstep⟩
  ·obtain⟨_,a',child,hsp,⟨C,v,e,m₂,hC,he2,he0,hwk⟩,hnext⟩:=hstop w (.refl w);obtain⟨ho,rfl,rfl,_⟩:=hmode.open_inv trivial;have hrun':=runT_crowd_spawn (P:=p.P) (sl:=sl) (i:=0) ha (by simpa using hsp);rw[hcom.size] at hrun';have hcom':=hcom.spawn o (a':=a') (x:={g:=0,fn:=a.frame.fn,pos:=a.frame.place,act:=.go (p.m0+(p.n-(r+1)))}) (y:={g:=p.m0+(p.n-(r+1)),fn:=child.frame.fn,pos:=a.frame.place,act:=.start}) ⟨rfl,rfl⟩ ⟨rfl,rfl⟩ hC he0 hwk
   have eops:((MemOp.ofEvents 0 a.frame.fn a.frame.place #[]).push {g:=0,fn:=a.frame.fn,pos:=a.frame.place,act:=.go (p.m0+(p.n-(r+1)))}).push {g:=p.m0+(p.n-(r+1)),fn:=child.frame.fn,pos:=a.frame.place,act:=.start}=#[({g:=0,fn:=a.frame.fn,pos:=a.frame.place,act:=.go (p.m0+(p.n-(r+1)))}:MemOp),{g:=p.m0+(p.n-(r+1)),fn:=child.frame.fn,pos:=a.frame.place,act:=.start}]:=by
    rw[ofEvents_eq];simp
   rw[eops] at hrun';generalize hX:upd X (p.n-(r+1)) ⟨⟨7,m₂,0⟩,e,C,v,R6 b⟩=X' at hcom';have hds:ds X'=upd (ds X) (p.n-(r+1)) ⟨7,m₂,0⟩:=by rw[← hX,PA]
   have ej:p.n-(r+1)+1=p.n-r:=by omega
   have eV:Vc (p.n-r) (ds X')=Vc (p.n-(r+1)) (ds X)+1:=by
    rw[← ej,hds];simp only[Vc,sumTo,upd_same];rw[sumTo_upd_out (ds X) _ cnt (A3 _)];rfl
   have eS:Ssum (p.n-r) (ds X')=Ssum (p.n-(r+1)) (ds X)+7:=by
    rw[← ej,hds];simp only[Ssum,sumTo,upd_same];rw[sumTo_upd_out (ds X) _ WD.stage (A3 _)]
   have eE:sumTo (p.n-r) (λi=>(X' i).e)=sumTo (p.n-(r+1)) (λi=>(X i).e)+e:=by
    rw[← ej,← hX];simp only[sumTo,upd_same];rw[sumTo_upd_out X _ WX.e (A3 _)]
   have ho':OpenSt (p.n-r) (ds X'):=λi hi=>by
    rw[hds];by_cases e:i=p.n-(r+1)
    ·subst e;rw[upd_same];simp
    ·rw[upd_ne (ds X) _ e];exact ho i (by omega)
   have ha':((gs.setIfInBounds 0 a').push child)[0]?=some a':=by
    rw[Array.getElem?_push_lt (by simp[hcom.size];omega),← Array.getElem?_eq_getElem];rw[Array.getElem?_setIfInBounds_self_of_lt (by rw[hcom.size];omega)]
   rw[ej] at hcom';have est:∀tag',pend tag'=0->((Vc (p.n-(r+1)) (ds X)+pend (.sp r 1):Nat):Int)*KK=((Vc (p.n-r) (ds X')+pend tag':Nat):Int)*KK:=λtag' hp=>by rw[eV,hp];simp[pend]
   have fin:∀(tag':CTag)(m₃:Nat),CS p Anch Fin tag' 0 (p.n-r) m₃ 0 Mt a' w->isOpen tag'->pend tag'=0->(∀vs,tag'≠.w2 vs)->phi p.n (Vc (p.n-r) (ds X')) tag'+9<phi p.n (Vc (p.n-(r+1)) (ds X)) (.sp r 1)->
     ∃m₁ ops μ',runT p.P (crowd gs w sl) 0=(.next m₁,ops)/\
      Lt2 μ' (phi p.n (Vc (p.n-(r+1)) (ds X)) (.sp r 1)+0+Ssum (p.n-(r+1)) (ds X)+sumTo (p.n-(r+1)) (λi=>(X i).e),f0+2*Fsum (p.n-(r+1)) (ds X)+2*sumTo p.m0 q)/\Eh p Anch Fin μ' m₁ (t++ops):=λtag' m₃ hc h1 h2 h3 h4=>by
    refine⟨_,_,(phi p.n (Vc (p.n-r) (ds X')) tag'+0+Ssum (p.n-r) (ds X')+sumTo (p.n-r) (λi=>(X' i).e),m₃+2*Fsum (p.n-r) (ds X')+2*sumTo p.m0 q),hrun',Prod.Lex.left _ _ (by omega),
     _,w,sl,p.n-r,X',_,q,tag',0,m₃,0,Mt,a',_,_,rfl,ha',hc,hcom',hwg,?_,rfl⟩
    rw[est tag' h2];exact .opn h1 ho' (λvs e=>absurd e (h3 vs))
   cases r with
   | zero =>
    obtain⟨m₃,hk⟩:=hnext;exact .inr (fin .kd m₃ (.kd hk) trivial rfl (by simp) (by simp only[phi];omega))
   | succ r' =>
    obtain⟨m₃,hk⟩:=hnext;exact .inr (fin (.sp r' 7) m₃ (.al (by omega) hk) trivial rfl (by simp) (by simp only[phi];omega))
  ·obtain⟨a',w',es,hgo,⟨rfl,rfl⟩,hg'⟩:=hstep w (.refl w);exact .inr (Ce o ha hcom hwg hmode hgo (.go hr hg') (by omega))
 | kd h =>
  rcases Goes.cases h with hstop|⟨m',rfl,hstep⟩
  ·obtain⟨_,a',hgo,m₂,hk⟩:=hstop w (.refl w);exact .inr (BS o ha hcom hgo (.refl p.Wg w) hwg (GH (.inl rfl)) (JB (by simp)) (.anch hk) (hmode.reopen trivial trivial rfl (by simp)) (.inl (by simp only[phi];omega)))
  ·obtain⟨a',w',es,hgo,⟨rfl,rfl⟩,hg'⟩:=hstep w (.refl w);exact .inr (Ce o ha hcom hwg hmode hgo (.kd hg') (by omega))
 | anch h =>
  rcases Goes.cases h with hstop|⟨m',rfl,hstep⟩
  ·obtain⟨m₂,hk⟩:=hAn a w (hstop w (.refl w));obtain⟨m₁,ops,μ',h1,h2,h3⟩:=Vh (sl:=sl) o ha hcom hwg (hmode.reopen trivial trivial rfl (by simp)) hk;exact .inr ⟨m₁,ops,μ',h1,lt2_trans h2 (Prod.Lex.left _ _ (by simp only[phi];omega)),h3⟩
  ·obtain⟨a',w',es,hgo,⟨rfl,rfl⟩,hg'⟩:=hstep w (.refl w);exact .inr (Ce o ha hcom hwg hmode hgo (.anch hg') (by omega))
 | w1 h=>exact .inr (Vh o ha hcom hwg hmode h)
 | w2 h =>
  rename_i vs;rcases Goes.cases h with hstop|⟨m',rfl,hstep⟩
  ·obtain⟨_,hall⟩:=hstop w (.refl w);obtain⟨ho,rfl,rfl,hw2⟩:=hmode.open_inv trivial;obtain⟨hle,h1⟩:=hw2 vs rfl;obtain⟨hhit,hmiss⟩:=hall (Vc p.n (ds X)) (by omega) (by simpa [pend] using hwg);by_cases e:Vc p.n (ds X)=vs
   ·obtain⟨a',hgo,m₂,hk⟩:=hhit e;exact .inr (BS o ha hcom hgo (aside_setCell w (stA p.Wg) _) (hwg.setSt _) (Cs bk_rw) (norel_of_Bk bk_rw) (.sw hk) (.reg trivial ho (by omega)) (.inl (by simp only[phi];omega)))
   ·obtain⟨a',hgo,m₂,hk⟩:=hmiss e;exact .inr (BS o ha hcom hgo (.refl p.Wg w) hwg (Cs bk_rd) (norel_of_Bk bk_rd) (.anch hk) (hmode.reopen trivial trivial rfl (by simp)) (.inl (by simp only[phi];omega)))
  ·obtain⟨a',w',es,hgo,⟨rfl,rfl⟩,hg'⟩:=hstep w (.refl w);exact .inr (Ce o ha hcom hwg hmode hgo (.w2 hg') (by omega))
 | sw h =>
  rcases Goes.cases h with hstop|⟨m',rfl,hstep⟩
  ·obtain⟨_,a',hgo,m₂,hk⟩:=hstop w (.refl w);exact .inr (BS o ha hcom hgo (.refl p.Wg w) hwg (GH (.inr (.inr (.inr ⟨_,rfl,.inr rfl⟩)))) (JB (by simp)) (.w3 hk) hmode (.inl (by simp only[phi];omega)))
  ·obtain⟨a',w',es,hgo,⟨rfl,rfl⟩,hg'⟩:=hstep w (.refl w);exact .inr (Ce o ha hcom hwg hmode hgo (.sw hg') (by omega))
 | w3 h =>
  rcases Goes.cases h with hstop|⟨m',rfl,hstep⟩
  ·obtain⟨_,hoff,hblk,htake⟩:=hstop w (.refl w);cases hmode with
   | opn h1 _ _=>exact h1.elim
   | reg h1 h2 h3=>exact .inr (BS o ha hcom (hblk ⟨_,hwg⟩) (.refl p.Wg w) hwg (Hj (by simp)) (by simp) (.blk hstop) (.reg trivial h2 h3) (.inr ⟨rfl,by omega⟩))
   | last L h1 h2 h3 h4=>exact .inr (BS o ha hcom (hblk ⟨_,hwg⟩) (.refl p.Wg w) hwg (Hj (by simp)) (by simp) (.blk hstop) (.last L trivial h2 h3 h4) (.inr ⟨rfl,by omega⟩))
   | sema h2 =>
    obtain⟨a',hgo,m₂,hk⟩:=htake hwg;exact .inr (BS o ha hcom hgo (aside_setCell w (smA p.Wg) _) (hwg.setSm 0) (Cs bk_sem) (norel_of_Bk bk_sem) (.w4 hk) (.fin trivial h2) (.inl (by simp only[phi];omega)))
   | fin h1 _=>exact h1.elim
  ·obtain⟨a',w',es,hgo,⟨rfl,rfl⟩,hg'⟩:=hstep w (.refl w);exact .inr (Ce o ha hcom hwg hmode hgo (.w3 hg') (by omega))
 | blk h=>simp at hrun
 | w4 h =>
  rcases Goes.cases h with hstop|⟨m',rfl,hstep⟩
  ·obtain⟨_,hx⟩:=hstop w (.refl w);obtain⟨hq,rfl,rfl⟩:=hmode.fin_inv trivial;obtain⟨a',hgo,m₂,hk⟩:=hx hwg;exact .inr (BS o ha hcom hgo (.refl p.Wg w) hwg (Cs bk_rd) (norel_of_Bk bk_rd) (.ke hk) (.fin trivial hq) (.inl (by simp only[phi];omega)))
  ·obtain⟨a',w',es,hgo,⟨rfl,rfl⟩,hg'⟩:=hstep w (.refl w);exact .inr (Ce o ha hcom hwg hmode hgo (.w4 hg') (by omega))
 | ke h =>
  rcases Goes.cases h with hstop|⟨m',rfl,hstep⟩
  ·obtain⟨_,a',hgo,m₂,hk⟩:=hstop w (.refl w);obtain⟨hq,rfl,rfl⟩:=hmode.fin_inv trivial;exact .inr (BS o ha hcom hgo (.refl p.Wg w) hwg (GH (.inr (.inl rfl))) (JB (by simp)) (.acq hk) (.fin trivial hq) (.inl (by simp only[phi];omega)))
  ·obtain⟨a',w',es,hgo,⟨rfl,rfl⟩,hg'⟩:=hstep w (.refl w);exact .inr (Ce o ha hcom hwg hmode hgo (.ke hg') (by omega))
 | acq h =>
  rcases Goes.cases h with hstop|⟨m',rfl,hstep⟩
  ·obtain⟨_,a',hgo,hfin⟩:=hstop w (.refl w);obtain⟨hq,rfl,rfl⟩:=hmode.fin_inv trivial;have hrunT:=runT_crowd_go (P:=p.P) (sl:=sl) (i:=0) ha (by simpa using hgo);have e1:MemOp.ofEvents 0 a.frame.fn a.frame.place #[mk (.acquire (stA p.Wg))]=#[{g:=0,fn:=a.frame.fn,pos:=a.frame.place,act:=.mark (.acquire (stA p.Wg))}]:=by rw[ofEvents_eq];simp[ofEvent_mk]
   have hL:=hcom.leavers hq
   obtain⟨B',_,hfr⟩:=hcom.ti.close o hf hcom.norel hcom.deaf0 (λg h1 h2=>by
    obtain⟨k,rfl⟩:∃k,g=p.m0+k:=⟨g-p.m0,by omega⟩;exact hcom.rel k (by omega) (by have:(X k).d.stage=1:=hq k (by omega);omega)) (y:={g:=0,fn:=a.frame.fn,pos:=a.frame.place,act:=.mark (.acquire (stA p.Wg))}) rfl rfl
   refine .inl ⟨_,_,hrunT,_,a',w,sl,(λk=>if k<p.m0 then q k else (X (k-p.m0)).d.fuel),B',rfl,by simp[hcom.size],JA _ _ (by rw[hcom.size];omega),hfin,?_,⟨λk x hk hx=>?_,λk hk=>?_⟩,by rw[e1];exact hfr⟩
   ·have et:total p p.n X=sumTo p.n p.bit:=sumTo_congr λk hk=>by
     obtain⟨g,_,hs⟩:=hcom.wk k hk;have h1:(X k).d.stage=1:=hq k hk;rw[h1] at hs;generalize hee:(X k).e=ee at hs ⊢
     cases hs with
     | post _ _=>simp
    rw[← et];exact hcom.sum
   ·rw[Ea _ _ (by omega)] at hx;obtain⟨y,hy,rfl⟩:=B6.1 hx;have hqy:=hL.old k y hk hy;rw[woken_quitsD hqy,Deaf_other t (by omega) _ g_of_ofEvents];exact hqy
   ·rw[Deaf_other t (by simp[hcom.size] at hk;omega) _ g_of_ofEvents];exact hL.above k (by simpa using hk)
  ·obtain⟨a',w',es,hgo,⟨rfl,rfl⟩,hg'⟩:=hstep w (.refl w);exact .inr (Ce o ha hcom hwg hmode hgo (.acq hg') (by omega))
end
end Go.Proofs.YtmfjakieahkacaaGreatDoor
namespace Go.Proofs.YtmfjakieahkacaaGreatDoor
open Go.Conc Go.ConcN
open Go.ConcR (KK wgBlock WgAt stA smA rd wr mk Payload DC0)
section
variable {p:K7} {Anch Fin:Goroutine->World->Prop} {gs:Array Goroutine} {w:World} {j:Nat} {X:Nat->WX} {ow q:Nat->Nat} {tag:CTag} {e0 f0 d0 B:Nat} {M0:Nat->Prop} {a:Goroutine} {t:Trace} {st sm:Int}
theorem PD(hAr:∀g w,Anch g w->g.status=.running)(ha:gs[0]?=some a)(hcs:CS p Anch Fin tag e0 j f0 d0 M0 a w)(hcom:DN p j gs w t X ow q d0 M0)(hmode:ConcN.Mode j (ds X) tag st sm):
  ∃(i:Nat)(g:Goroutine),gs[i]?=some g/\g.status=.running:=by
 rcases hcs.status hAr with⟨hs,_⟩|⟨_,rfl⟩
 ·exact⟨0,a,ha,hs⟩
 ·cases hmode with
  | opn h1 _ _=>exact h1.elim
  | reg _ _ h3 =>
   obtain⟨i,hi,h5⟩:=exists_counted h3;obtain⟨g,hg,hs⟩:=hcom.wk i hi;exact⟨p.m0+i,g,hg,hs.running_of (by simp only[ds] at h5;omega)⟩
  | last L _ h2 h3 _ =>
   obtain⟨g,hg,hs⟩:=hcom.wk L h2;exact⟨p.m0+L,g,hg,hs.running_of (by simp only[ds] at h3;omega)⟩
  | fin h1 _=>exact h1.elim
theorem Vi(hAr:∀g w,Anch g w->g.status=.running)(ha:gs[0]?=some a)(hcs:CS p Anch Fin tag e0 j f0 d0 M0 a w)(hcom:DN p j gs w t X ow q d0 M0):∀g∈gs,awake g:=by
 intro g hg tm;obtain⟨i,hi⟩:=Array.mem_iff_getElem?.1 hg;rcases C3 i with rfl|hpos
 ·rw[ha] at hi;cases hi
  rcases hcs.status hAr with⟨hs,_⟩|⟨hs,_⟩<;>rw[hs]<;>simp
 ·have hlt:=(C9.1 hi).1;rw[hcom.size] at hlt;rcases Nat.lt_or_ge i p.m0 with h|h
  ·obtain⟨g',hg',hq⟩:=hcom.old i hpos h;rw[hi] at hg';cases hg'
   rcases hq.status with h|h<;>rw[h]<;>simp
  ·obtain⟨k,rfl⟩:∃k,i=p.m0+k:=⟨i-p.m0,by omega⟩;obtain⟨g',hg',hs⟩:=hcom.wk k (by omega);rw[hi] at hg';cases hg'
   rcases hs.status with h|h<;>rw[h]<;>simp
end
section
variable {p:K7} {Anch Fin:Goroutine->World->Prop} {B:Nat}
theorem Tp(o:p.Ok)(hAr:∀g w,Anch g w->g.status=.running)(hAn:∀g w,Anch g w->∃m,Goes p.P true (R0 p Mt) DC0 (ES p Anch Fin) m g w)(hf:Fr p.Shun B p.t0):
  ∀μ m t,Eh p Anch Fin μ m t->(∃m₁ ops,stepT p.P m=(.next m₁,ops)/\Done p Fin m₁ (t++ops))∨∃m₁ ops μ',stepT p.P m=(.next m₁,ops)/\Lt2 μ' μ/\Eh p Anch Fin μ' m₁ (t++ops):=by
 rintro μ m t ⟨gs,w,sl,j,X,ow,q,tag,e0,f0,d0,M0,a,st,sm,rfl,ha,hcs,hcom,hwg,hmode,rfl⟩;obtain⟨i,g,d,sl',hg,hrun,hstep⟩:=crowd_pick (P:=p.P) (w:=w) (sl:=sl) (Vi hAr ha hcs hcom) (PD hAr ha hcs hcom hmode);rw[hstep];have hcs':=hcs.rely (w':=w.at d) ⟨rfl,rfl,rfl,id,λ_ _ _ _=>rfl,λ_ _=>rfl,A3 _,id,id⟩;have hcom':=hcom.at d;have hwg':WgAt p.ty p.Wg (w.at d) st sm:=hwg;have hm1:=o.m0;rcases C3 i with rfl|hpos
 ·rw[ha] at hg;cases hg
  exact To (sl:=sl') o hAn hf ha hcs' hcom' hwg' hmode hrun
 ·rcases Nat.lt_or_ge i p.m0 with h|h
  ·exact .inr (ZH o hAr ha hcs' hcom' hwg' hmode hpos h hg hrun)
  ·have hlt:=(C9.1 hg).1;rw[hcom.size] at hlt;obtain⟨k,rfl⟩:∃k,i=p.m0+k:=⟨i-p.m0,by omega⟩;exact .inr (Tn o hAr ha hcs' hcom' hwg' hmode (by omega) hg hrun)
theorem Tq(o:p.Ok)(hAr:∀g w,Anch g w->g.status=.running)(hAn:∀g w,Anch g w->∃m,Goes p.P true (R0 p Mt) DC0 (ES p Anch Fin) m g w)(hf:Fr p.Shun B p.t0)(μ:Nat×Nat):
  ∀m t,Eh p Anch Fin μ m t->∃N m' t',runNT p.P N m t=(.next m',t')/\Done p Fin m' t':=by
 induction μ using (Prod.lex Nat.lt_wfRel Nat.lt_wfRel).wf.induction with
 | _ μ ih =>
  intro m t h;rcases Tp o hAr hAn hf μ m t h with⟨m₁,ops,hs,hd⟩|⟨m₁,ops,μ',hs,hlt,hi⟩
  ·exact⟨1,m₁,t++ops,by simp only[runNT,hs],hd⟩
  ·obtain⟨N,m',t',hr,hd⟩:=ih μ' hlt m₁ (t++ops) hi;exact⟨N+1,m',t',by simp only[runNT,hs];exact hr,hd⟩
theorem Ac9(o:p.Ok)(hAr:∀g w,Anch g w->g.status=.running)(hAn:∀g w,Anch g w->∃m,Goes p.P true (R0 p Mt) DC0 (ES p Anch Fin) m g w)(hf:Fr p.Shun B p.t0)
  {gs:Array Goroutine} {a:Goroutine} {w:World} {sl:Option (Nat×Nat)} {q:Nat->Nat} (hsz:gs.size=p.m0) (ha:gs[0]?=some a) (hL:Leavers p.P p.t0 gs q)
  (hlow:p.Low<=w.heap.size) (hwg:WgAt p.ty p.Wg w 0 0) (hsum:Ah p w 0) (h:Sp p Anch p.n a w) :
  ∃N m' t',runNT p.P N (crowd gs w sl) p.t0=(.next m',t')/\Done p Fin m' t':=by
 let X:Nat->WX:=λ_=>⟨⟨0,0,0⟩,0,0,undef,λ_=>False⟩
 have hcom:DN p 0 gs w p.t0 X (λ_=>0) q 0 Mt :=
  ⟨by simp[hsz],λi h1 h2=>by
   have hlt:i<gs.size:=by omega
   exact⟨gs[i],Array.getElem?_eq_getElem hlt,hL.old i _ h1 (Array.getElem?_eq_getElem hlt)⟩,λi hi=>by omega,λi hi=>by omega,λi hi=>by omega,λb hb=>hb.elim,hlow,TI.start hf (by omega),(λi hi=>by simp[Trace.act?,Array.getElem?_eq_none hi]),hf.past.hears,λi hi=>by omega,λk hk=>hL.above k (by omega),λi hi=>by omega,hsum⟩
 have hmode:∀tag,isOpen tag->pend tag=0->(∀vs,tag≠.w2 vs)->ConcN.Mode 0 (ds X) tag 0 0:=λtag h1 h2 h3=>by
  have:=ConcN.Mode.opn (j:=0) (D:=ds X) h1 (λi hi=>by omega) (λvs e=>absurd e (h3 vs));simpa [Vc,sumTo,h2] using this
 have hInv:∃μ,Eh p Anch Fin μ (crowd gs w sl) p.t0:=by
  cases hn:p.n with
  | zero =>
   rw[hn] at h;obtain⟨m,hk⟩:=h;have hc:CS p Anch Fin .kd 0 p.n m 0 Mt a w:=.kd hk;rw[hn] at hc;exact⟨_,gs,w,sl,0,X,_,q,.kd,0,m,0,Mt,a,0,0,rfl,ha,hc,hcom,hwg,hmode .kd trivial rfl (by simp),rfl⟩
  | succ r =>
   rw[hn] at h;obtain⟨m,hk⟩:=h;have hc:=CS.al (Fin:=Fin) (show r<p.n by omega) hk;rw[show p.n-(r+1)=0 by omega] at hc;exact⟨_,gs,w,sl,0,X,_,q,.sp r 7,0,m,0,Mt,a,0,0,rfl,ha,hc,hcom,hwg,hmode (.sp r 7) trivial rfl (by simp),rfl⟩
 obtain⟨μ,hI⟩:=hInv;exact Tq o hAr hAn hf μ _ _ hI
end
end Go.Proofs.YtmfjakieahkacaaGreatDoor
