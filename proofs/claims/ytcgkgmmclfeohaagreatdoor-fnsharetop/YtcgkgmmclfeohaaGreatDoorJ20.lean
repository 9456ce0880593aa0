/- The program's chapter 13: the answer and its code; ShareLeave. -/
import Derived.Test.YtcgkgmmclfeohaaGreatDoorJ17
import Derived.Test.YtcgkgmmclfeohaaGreatDoorJ11
import Derived.Conc.CrowdRun
import Derived.Test.YtcgkgmmclfeohaaGreatDoorJ18
namespace Go.Proofs.YtcgkgmmclfeohaaGreatDoor
open Go.Proofs.Tryz
open Go.RowKit
def T8(w:World):Prop:=w.cell? ⟨0,0,none⟩=some (Value.iface 152 (.agg #[(Value.pointer (some ⟨1,87,none⟩))]))
theorem T8.up{w w':World}(h:T8 w)(hb:Up w w'):T8 w':=(hb.cell (p:=⟨0,0,none⟩) (World.block_lt_of_cell? w ⟨0,0,none⟩ h)).trans h
end Go.Proofs.YtcgkgmmclfeohaaGreatDoor
namespace Go.Proofs.YtcgkgmmclfeohaaGreatDoor
open Go.Proofs.Tryz
open Go.Conc
section
variable {P:Program} {X:Nat->Prop} {s:Nat->Bool}
theorem PC{id:Nat}:∀{k l:List Item},(∀i∈k,X6 P s i)->exitTo id k=some l->∀i∈l,X6 P s i
 | [],l,_,h=>by cases h
 | x::k,l,hk,h=>by
  have ih:=λhh=>PC (id:=id) (k:=k) (l:=l) (λi hi=>hk i (by simp[hi])) hh;cases x<;>simp only[exitTo] at h<;>first|exact ih h|skip
  split at h
  ·cases h;exact λi hi=>hk i (by simp[hi])
  ·exact ih h
theorem Aa5{ops:Array Oper}(h:(ops.all λo=>Gm P s o.op)=true):∀o∈ops,Gm P s o.op=true:=by
 intro o ho;obtain⟨i,hi,rfl⟩:=Array.mem_iff_getElem.1 ho;exact Array.all_eq_true.1 h i hi
theorem UE{ops:Array Oper}(h:(ops.all λo=>Gm P s o.op)=true){l:List Nat}:X6 P s (.inRegion ops l):=λ_ _ o ho=>Aa5 h o (Array.mem_of_getElem? ho)
theorem Yq{a:Item}{k:List Item}(ha:X6 P s a)(hk:∀i∈k,X6 P s i):∀i∈a::k,X6 P s i:=λi hx=>(List.mem_cons.1 hx).elim (λe=>e ▸ ha) (hk i)
theorem Hd{a b:Item}{k:List Item}(ha:X6 P s a)(hb:X6 P s b)(hk:∀i∈k,X6 P s i):∀i∈a::b::k,X6 P s i:=Yq ha (Yq hb hk)
theorem TM(S:M6 P s){fr:Frame}(h:O2 P s fr)(hm:fr.mode=.run){cu cw:List Frame}{w u:World}{n:Nat}(hs:Y7 X n w u):
  DW P X s n cu cw w u (stepG P true (G fr cu) u) (stepG P true (G fr cw) w):=by
 have hr:=h.round
 have a0:∀{fr':Frame},O2 P s fr'->(∀cs x,stepG P true (G fr cs) x=.go (G fr' cs) x #[])->DW P X s n cu cw w u (stepG P true (G fr cu) u) (stepG P true (G fr cw) w):=λ{fr'} hf e=>by
  rw[e,e];exact⟨λ_=>.inr ⟨fr',[],u,w,#[],rfl,rfl,hf,by simp,⟨n,On.refl hs⟩,by simp⟩,λ_ _ _ _ _=>.inr ⟨fr',[],u,w,#[],rfl,rfl,hf,by simp,On.refl hs,by simp⟩⟩
 have a8:(∃o x es,stepG P true (G fr cu) u=.ended o x es)->DW P X s n cu cw w u (stepG P true (G fr cu) u) (stepG P true (G fr cw) w):=λh=>⟨λ_=>.inl h,λ_ _ _ _ _=>.inl h⟩;have ht:=h.todo;cases hto:fr.todo with
 | nil=>exact a0 (Le h .returning) (λcs x=>by simp[stepG,stepG.exec,G,hm,hto,hr])
 | cons it k =>
  rw[hto] at ht;have hk:∀i∈k,X6 P s i:=λi hi=>ht i (by simp[hi]);have hi:X6 P s it:=ht it (by simp);have a7:∀(l:List Item),(∀i∈l,X6 P s i)->(∀cs x,stepG P true (G fr cs) x=.go (G {fr with todo:=l} cs) x #[])->DW P X s n cu cw w u (stepG P true (G fr cu) u) (stepG P true (G fr cw) w):=λl hl e=>a0 (Uu h hl) e;cases it with
  | inBlock id=>exact a7 k hk (λcs x=>by simp[stepG,stepG.exec,G,hm,hto])
  | inScope b=>exact a7 k hk (λcs x=>by simp[stepG,stepG.exec,G,hm,hto])
  | inLoop b=>exact a7 (.code b::.inLoop b::k) (Hd hi hi hk) (λcs x=>by simp[stepG,stepG.exec,G,hm,hto])
  | inRegion ops l =>
   cases l with
   | nil=>exact a7 k hk (λcs x=>by simp[stepG,stepG.exec,G,hm,hto])
   | cons i rest =>
    have b0:(∀cs x,stepG P true (G fr cs) x=.go (G (fr.finish undef) cs) x #[])->DW P X s n cu cw w u (stepG P true (G fr cu) u) (stepG P true (G fr cw) w):=λe=>a0 (Ik h _) e;cases ho:ops[i]? with
    | none=>exact b0 (λcs x=>by simp[stepG,stepG.exec,G,hm,hto,ho])
    | some o =>
     cases hw:Region.wanted o (yielded ops fr.tmps) with
     | false=>exact b0 (λcs x=>by simp[stepG,stepG.exec,G,hm,hto,ho,hw])
     | true =>
      have b1:Gm P s o.op=true:=hi i (by simp) o ho;obtain⟨q1,q2⟩:=Qx (X:=X) S fr o b1;have q0:=(Qx (X:=λ_=>False) S fr o b1).1
      have e:∀cs x,stepG P true (G fr cs) x=stepG.apply P true fr cs none (execOp fr.eval o) x:=λcs x=>by
       simp[stepG,stepG.exec,G,hm,hto,ho,hw,stepG.oper,Frame.oper?,hr]
      rw[e,e];exact Qm S h hto q1 q0 q2 hs
  | code c =>
   have hc:O0 P s c=true:=hi;cases c with
   | skip=>exact a7 k hk (λcs x=>by simp[stepG,stepG.exec,G,hm,hto])
   | label l=>exact a7 k hk (λcs x=>by simp[stepG,stepG.exec,G,hm,hto])
   | seq a b =>
    simp only[O0,Bool.and_eq_true] at hc;exact a7 (.code a::.code b::k) (Hd hc.1 hc.2 hk) (λcs x=>by simp[stepG,stepG.exec,G,hm,hto])
   | block id b=>exact a7 (.code b::.inBlock id::k) (Hd hc trivial hk) (λcs x=>by simp[stepG,stepG.exec,G,hm,hto])
   | loop b=>exact a7 (.code b::.inLoop b::k) (Hd hc hc hk) (λcs x=>by simp[stepG,stepG.exec,G,hm,hto])
   | scope b=>exact a7 (.code b::.inScope b::k) (Hd hc hc hk) (λcs x=>by simp[stepG,stepG.exec,G,hm,hto])
   | cond c a b =>
    simp only[O0,Bool.and_eq_true] at hc;cases hv:fr.eval c with
    | bool t =>
     exact a7 (.code (if t then a else b)::k) (Yq (by cases t<;>simp[X6,hc.1,hc.2]) hk) (λcs x=>by simp only[stepG,stepG.exec,G,hm,hto,hv])
    | _=>exact a8 ⟨_,_,_,by simp only[stepG,stepG.exec,G,hm,hto,hv];rfl⟩
   | ret=>exact a0 (Le h .returning) (λcs x=>by simp[stepG,stepG.exec,G,hm,hto,hr])
   | exit id =>
    cases hx:exitTo id k with
    | some l=>exact a7 l (PC hk hx) (λcs x=>by simp[stepG,stepG.exec,G,hm,hto,hx])
    | none=>exact a8 ⟨.stuck "exit, goto: no such block or label" (Frame.pos P fr),u,#[],by simp[stepG,stepG.exec,G,hm,hto,hx,hr]⟩
   | region id ops d =>
    cases d with
    | false=>exact a7 (.inRegion ops (List.range ops.size)::k) (Yq (UE hc) hk) (λcs x=>by simp[stepG,stepG.exec,G,hm,hto])
    | true =>
     have e:∀cs x,stepG P true (G fr cs) x=.go (G {fr with todo:=.inRegion ops (Region.schedule (P.follows .mixedOrders) ops (x.tape x.drawn (.order fr.fn id)))::k} cs) {x with drawn:=x.drawn+1} #[]:=λcs x=>by
      simp[stepG,stepG.exec,G,hm,hto,choose,Sem.run,Question.forced,Question.cut]
     have hl:∀x:World,O2 P s {fr with todo:=.inRegion ops (Region.schedule (P.follows .mixedOrders) ops (x.tape x.drawn (.order fr.fn id)))::k}:=λx=>Uu h (Yq (UE hc) hk)
     have a9:∀m,Y7 X (m+1) w u->(∃o x es,stepG P true (G fr cu) u=.ended o x es)∨∃fr' new u' w' es,stepG P true (G fr cu) u=.go (G fr' (new++cu)) u' es/\stepG P true (G fr cw) w=.go (G fr' (new++cw)) w' es/\O2 P s fr'/\(∀c∈new,O2 P s c)/\On X (m+1) w u w' u'/\∀e∈es,AJ X e:=λm hs=>by
      have e0:u.tape u.drawn (.order fr.fn id)=w.tape w.drawn (.order fr.fn id):=hs.tape 0 _ (by omega);have b2:=hl w;rw[e,e,e0];exact .inr ⟨_,[],_,_,#[],rfl,rfl,b2,by simp,⟨rfl,rfl,1,by omega,rfl,rfl,hs.draw⟩,by simp⟩
     constructor
     ·intro hf;rcases a9 0 (hf 1) with h1|⟨fr',new,u',w',es,a1,a2,a3,a4,a5,a6⟩
      ·exact .inl h1
      ·exact .inr ⟨fr',new,u',w',es,a1,a2,a3,a4,⟨_,a5⟩,a6⟩
     ·intro g1 w1 e1 hst hd;have e1:=hst;rw[e] at e1;cases e1
      cases n with
      | zero=>simp only at hd;omega
      | succ m=>exact a9 m hs
   | rangeFunc=>cases hc
   | goto=>cases hc
   | refuse=>cases hc
  | _=>exact hi.elim
theorem KC(fn:Func)(tmps:Array Value):D3 P X (results fn tmps):=by
 unfold results;refine D3.bind (Xy (λr=>?_) _) (λ_=>D3.pure' _);split
 ·exact D3.pure' _
 ·exact D3.bind (H7 _) (λ_=>E5 _ _)
theorem TN(_S:M6 P s){fr c:Frame}(h:O2 P s fr)(hc:O2 P s c)(hm:fr.mode=.returning){cu cw:List Frame}{w u:World}{n:Nat}(hs:Y7 X n w u):
  DW P X s n cu cw w u (stepG P true (G fr (c::cu)) u) (stepG P true (G fr (c::cw)) w):=by
 obtain⟨fn,hf⟩:=h.fn
 have a0:∀m,QR X m w u #[] ((results fn fr.tmps).runT P w #[]) ((results fn fr.tmps).runT P u #[])->(∃o x es,stepG P true (G fr (c::cu)) u=.ended o x es)∨∃fr' new u' w' es,stepG P true (G fr (c::cu)) u=.go (G fr' (new++cu)) u' es/\stepG P true (G fr (c::cw)) w=.go (G fr' (new++cw)) w' es/\O2 P s fr'/\(∀c∈new,O2 P s c)/\On X m w u w' u'/\∀e∈es,AJ X e:=λm ha=>by
  generalize hu:(results fn fr.tmps).runT P u #[]=ru at ha;simp only[stepG,G,hm,unwind,h.defers,hf,hu,doReturn,h.kind];match ru,hu,ha with
  | (.ok v u1,eu),hu,⟨hev,w1,hw,hon⟩ =>
   refine .inr ⟨c.finish v,[],u1,w1,_,rfl,by simp only[hw,GStep.after];rfl,Ik hc v,by simp,hon,λe hx=>?_⟩;rw[Array.append_empty] at hx;exact (hev e (mem_seen hx)).elim (λhx=>by simp at hx) id
  | (.halt k u1,eu),hu,_=>cases k<;>exact .inl ⟨_,_,_,rfl⟩
 constructor
 ·intro hfu;rcases a0 _ (KC (P:=P) (X:=X) fn fr.tmps (LG ((results fn fr.tmps).runT P u #[]).1) w u #[] (hfu _) (.inr (Nat.le_add_left _ _))) with h1|⟨fr',new,u',w',es,a1,a2,a3,a4,a5,a6⟩
  ·exact .inl h1
  ·exact .inr ⟨fr',new,u',w',es,a1,a2,a3,a4,⟨_,a5⟩,a6⟩
 ·intro g1 w1 e1 hst hd;refine a0 n (KC (P:=P) (X:=X) fn fr.tmps n w u #[] hs (.inl ?_));generalize hu:(results fn fr.tmps).runT P w #[]=ru at hst ⊢
  simp only[stepG,G,hm,unwind,h.defers,hf,hu,doReturn,h.kind] at hst;match ru,hst with
  | (.ok v u1,eu),hst=>simp only[GStep.after] at hst;cases hst;exact hd
  | (.halt k u1,eu),hst=>cases k<;>(simp only[GStep.after] at hst;cases hst)
theorem TP(_S:M6 P s){fr c:Frame}{ch:List PanicEntry}(h:O2 P s fr)(hc:O2 P s c)(hm:fr.mode=.panicking ch){cu cw:List Frame}{w u:World}{n:Nat}(hs:Y7 X n w u):
  DW P X s n cu cw w u (stepG P true (G fr (c::cu)) u) (stepG P true (G fr (c::cw)) w):=by
 obtain⟨fn,hf⟩:=h.fn;have a0:fr.catches P=false:=by unfold Frame.catches;rw[hf]
 simp only[stepG,G,hm,unwind,h.defers,a0,Bool.false_eq_true,if_false];exact⟨λ_=>.inr ⟨c.raise ch,[],u,w,_,rfl,rfl,Mi hc ch,by simp,⟨n,On.refl hs⟩,by simp⟩,λ_ _ _ _ _=>.inr ⟨c.raise ch,[],u,w,_,rfl,rfl,Mi hc ch,by simp,On.refl hs,by simp⟩⟩
end
section
variable {P:Program} {X:Nat->Prop} {s:Nat->Bool}
def Li(P:Program)(X:Nat->Prop)(s:Nat->Bool)(bu bw:List Frame)(su sw:GStep)(Q:World->World->Prop):Prop :=
 (∃o x es,su=.ended o x es)∨∃fr' seg' u' w' es,su=.go (G fr' (seg'++bu)) u' es/\sw=.go (G fr' (seg'++bw)) w' es/\O2 P s fr'/\(∀c∈seg',O2 P s c)/\Q w' u'/\∀e∈es,AJ X e
def EX(fr:Frame)(seg:List Frame):Prop:=fr.mode=.run∨seg≠[]
theorem FN(S:M6 P s){fr:Frame}{seg bu bw:List Frame}(h:O2 P s fr)(hr:∀c∈seg,O2 P s c)(hg:EX fr seg){w u:World}{n:Nat}(hs:Y7 X n w u):
  (S6 X w u->Li P X s bu bw (stepG P true (G fr (seg++bu)) u) (stepG P true (G fr (seg++bw)) w) (λw' u'=>∃m,On X m w u w' u'))/\
  (∀g1 w1 e1,stepG P true (G fr (seg++bw)) w=.go g1 w1 e1->w1.drawn<=w.drawn+n->Li P X s bu bw (stepG P true (G fr (seg++bu)) u) (stepG P true (G fr (seg++bw)) w) (λw' u'=>On X n w u w' u')):=by
 have a0:∀{t:List Frame} {su sw:GStep},(∀c∈t,O2 P s c)->DW P X s n (t++bu) (t++bw) w u su sw->
   (S6 X w u->Li P X s bu bw su sw (λw' u'=>∃m,On X m w u w' u'))/\(∀g1 w1 e1,sw=.go g1 w1 e1->w1.drawn<=w.drawn+n->Li P X s bu bw su sw (λw' u'=>On X n w u w' u')):=λ{t su sw} ht hc=>by
  have a7:∀{new:List Frame},(∀c∈new,O2 P s c)->∀c∈new++t,O2 P s c:=λhn c hx=>(C9.1 hx).elim (hn c) (ht c);constructor
  ·intro hf;rcases hc.1 hf with h1|⟨fr',new,u',w',es,a1,a2,a3,a4,a5,a6⟩
   ·exact .inl h1
   ·exact .inr ⟨fr',new++t,u',w',es,by rw[a1,List.append_assoc],by rw[a2,List.append_assoc],a3,a7 a4,a5,a6⟩
  ·intro g1 w1 e1 hst hd;rcases hc.2 g1 w1 e1 hst hd with h1|⟨fr',new,u',w',es,a1,a2,a3,a4,a5,a6⟩
   ·exact .inl h1
   ·exact .inr ⟨fr',new++t,u',w',es,by rw[a1,List.append_assoc],by rw[a2,List.append_assoc],a3,a7 a4,a5,a6⟩
 cases hm:fr.mode with
 | run=>exact a0 hr (TM S h hm hs)
 | returning =>
  cases seg with
  | nil=>exact (hg.elim (λhg=>by rw[hm] at hg;cases hg) λhg=>absurd rfl hg)
  | cons c t=>exact a0 (λx hx=>hr x (by simp[hx])) (TN S h (hr c (by simp)) hm (cu:=t++bu) (cw:=t++bw) hs)
 | panicking ch =>
  cases seg with
  | nil=>exact (hg.elim (λhg=>by rw[hm] at hg;cases hg) λhg=>absurd rfl hg)
  | cons c t=>exact a0 (λx hx=>hr x (by simp[hx])) (TP S h (hr c (by simp)) hm (cu:=t++bu) (cw:=t++bw) hs)
open Classical in
noncomputable def Bw(X:Nat->Prop)(i:Nat)(o:Obj):Obj:=if X i then (match o with | .cells _ e f=>.cells #[] e f|o=>o) else o
noncomputable def pz(X:Nat->Prop)(w:World):World:={w with heap:=w.heap.mapIdx (Bw X)}
noncomputable def E0(X:Nat->Prop)(w:World)(τ:Nat->Question->Nat)(d:Nat):World:={pz X w with tape:=τ,drawn:=d}
structure M1 (X:Nat->Prop) (w:World):Prop where
 old:∀b,X b->b<w.heap.size
 cov:∀b,X b->∃c e,w.heap[b]?=some (Obj.cells c e (0,0))
 pend:∀(b:Nat)(c:Array Value)(t:TypeId),w.heap[b]?=some (Obj.pending c t)->gN<=b
theorem Bd(w:World)(b:Nat):(pz X w).heap[b]?=(w.heap[b]?).map (Bw X b):=by simp[pz]
theorem He{w:World}(h:M1 X w){τ:Nat->Question->Nat}{d n:Nat}(ht:∀i q,i<n->τ (d+i) q=w.tape (w.drawn+i) q):Y7 X n w (E0 X w τ d):=by
 refine⟨by simp[E0,pz],h.old,λb hb=>?_,λb hb=>?_,h.pend,rfl,rfl,ht⟩
 ·show (pz X w).heap[b]?=_
  rw[Bd];cases w.heap[b]? with
  | none=>rfl
  | some o=>simp[Bw,hb]
 ·obtain⟨c,e,hw⟩:=h.cov b hb;refine⟨c,e,hw,?_⟩;show (pz X w).heap[b]?=_
  rw[Bd,hw];simp[Bw,hb]
theorem Y7.base{n:Nat}{w u:World}(h:Y7 X n w u):M1 X w:=⟨h.old,λb hb=>by obtain⟨c,e,hw,_⟩:=h.cov b hb;exact⟨c,e,hw⟩,h.pend⟩
theorem Y7.eq_pz{n:Nat}{w u:World}(h:Y7 X n w u):u=E0 X w u.tape u.drawn:=by
 have hh:u.heap=(pz X w).heap:=by
  apply Array.ext_getElem?
  intro b;rw[Bd];by_cases hb:X b
  ·obtain⟨c,e,hw,hu⟩:=h.cov b hb;rw[hu,hw];simp[Bw,hb]
  ·rw[h.same b hb];cases w.heap[b]? with
   | none=>rfl
   | some o=>simp[Bw,hb]
 cases u
 simp only[E0,pz] at hh ⊢
 have h1:=h.os;have h2:=h.output;simp only at h1 h2;subst hh h1 h2;rfl
theorem On.base{n:Nat}{w u w' u':World}(h:On X n w u w' u'):M1 X w':=by
 obtain⟨_,_,_,_,hs⟩:=h.drew;exact hs.base
end
section
variable {P:Program} {X:Nat->Prop} {s:Nat->Bool}
theorem Ci{fr fr':Frame}{cs cs':List Frame}{u u':World}{es:Array Event}(h:stepG P true (G fr cs) u=.go (G fr' cs') u' es):step P (lone fr cs u)=.next (lone fr' cs' u') :=
 step_lone_go (by
  have e:stepG P true {frame:=fr,callers:=cs,status:=.running,dying:=none} u=.go (G fr' cs') u' es:=h;rw[e];rfl)
theorem DZ{fr:Frame}{cs:List Frame}{u u':World}{o:Outcome}{es:Array Event}(h:stepG P true (G fr cs) u=.ended o u' es):step P (lone fr cs u)=.ended o u' :=
 step_lone_ended (by
  have e:stepG P true {frame:=fr,callers:=cs,status:=.running,dying:=none} u=.ended o u' es:=h;rw[e];rfl)
theorem Aj{fr fr':Frame}{cs cs':List Frame}{u u':World}(h:lone fr cs u=lone fr' cs' u'):fr=fr'/\cs=cs'/\u=u':=by
 simp only[lone,Machine.mk.injEq,Array.mk.injEq,List.cons.injEq,Goroutine.mk.injEq] at h;exact⟨h.2.1.1.1,h.2.1.1.2.1,h.1⟩
def c0(P:Program):Frame:={fn:=P.funcs.size,tmps:=#[],todo:=[.code (.refuse "")],defers:=[{target:=.nil,args:=#[]}],mode:=.run,kind:=.normal}
theorem DG(_S:M6 P s){fr fe:Frame}(h:O2 P s fr)(hm:¬EX fr []){u ue:World}:∀{N:Nat},runN P N (lone fr [c0 P] u)=.next (lone fe [c0 P] ue)->N=0
 | 0,_=>rfl
 | N+1,hr=>by
  exfalso
  obtain⟨fn,hf⟩:=h.fn;have hcat:fr.catches P=false:=by unfold Frame.catches;rw[hf]
  have dead:∀(c:Frame)(x:World),(c=(c0 P)∨∃ch,c=(c0 P).raise ch)->∀M,runN P M (lone c [] x)≠.next (lone fe [c0 P] ue):=λc x hc M hM=>by
   have hend:∃o y es,stepG P true (G c []) x=.ended o y es:=by
    rcases hc with rfl|⟨ch,rfl⟩
    ·exact⟨_,_,_,by simp only[stepG,stepG.exec,G,c0];rfl⟩
    ·exact⟨_,_,_,by simp only[stepG,G,c0,Frame.raise,unwind,callDeferred];rfl⟩
   obtain⟨o,y,es,he⟩:=hend;cases M with
   | zero=>simp only[runN,Stepped.next.injEq] at hM;have:=(Aj hM).2.1;cases this
   | succ M=>simp only[runN,DZ he] at hM;cases hM
  simp only[runN] at hr;cases hmo:fr.mode with
  | run=>exact hm (.inl hmo)
  | panicking ch =>
   have e:stepG P true (G fr [c0 P]) u=.go (G ((c0 P).raise ch) []) u #[]:=by
    simp[stepG,G,hmo,unwind,h.defers,hcat]
   rw[Ci e] at hr;exact dead _ _ (.inr ⟨ch,rfl⟩) N hr
  | returning =>
   generalize hu:(results fn fr.tmps).runT P u #[]=ru;match ru,hu with
   | (.ok v u1,eu),hu =>
    have e:stepG P true (G fr [c0 P]) u=.go (G (c0 P) []) u1 (seen P fr.fn eu ++ #[]):=by
     simp only[stepG,G,hmo,unwind,h.defers,hf,hu,doReturn,h.kind,GStep.after];rfl
    rw[Ci e] at hr;exact dead _ _ (.inl rfl) N hr
   | (.halt k u1,eu),hu =>
    have e:∃o y es,stepG P true (G fr [c0 P]) u=.ended o y es:=by
     simp only[stepG,G,hmo,unwind,h.defers,hf,hu];cases k<;>exact⟨_,_,_,rfl⟩
    obtain⟨o,y,es,e⟩:=e;rw[DZ e] at hr;cases hr
theorem S6.symm{u v:World}(h:S6 (λ_=>False) u v):S6 (λ_=>False) v u:=λn =>
 ⟨(h n).size.symm,λ_ h=>h.elim,λb hb=>((h n).same b hb).symm,λ_ h=>h.elim,(h n).pendU,(h n).os.symm,(h n).output.symm,λi q hi=>((h n).tape i q hi).symm⟩
theorem S6.trans{u v x:World}(h:S6 (λ_=>False) u v)(k:S6 (λ_=>False) v x):S6 (λ_=>False) u x:=λn =>
 ⟨(k n).size.trans (h n).size,λ_ h=>h.elim,λb hb=>((k n).same b hb).trans ((h n).same b hb),λ_ h=>h.elim,(h n).pend,(k n).os.trans (h n).os,(k n).output.trans (h n).output,λi q hi=>((k n).tape i q hi).trans ((h n).tape i q hi)⟩
theorem shift(S:M6 P s):∀(N:Nat) {fr fe:Frame} {seg:List Frame} {u v ue:World},O2 P s fr->(∀c∈seg,O2 P s c)->S6 (λ_=>False) u v->runN P N (lone fr (seg++[c0 P]) u)=.next (lone fe [c0 P] ue)->
  ∃ve,runN P N (lone fr (seg++[c0 P]) v)=.next (lone fe [c0 P] ve)/\S6 (λ_=>False) ue ve
 | 0,fr,fe,seg,u,v,ue,h,hr,hf,hrun=>by
  simp only[runN,Stepped.next.injEq] at hrun;obtain⟨e1,e2,e3⟩:=Aj hrun;subst e1 e3;exact⟨v,by simp only[runN,e2],hf⟩
 | N+1,fr,fe,seg,u,v,ue,h,hr,hf,hrun=>by
  by_cases hg:EX fr seg
  ·have hf':=hf.symm;rcases (FN S (bu:=[c0 P]) (bw:=[c0 P]) h hr hg (hf' 0)).1 hf' with⟨o,x,es,e⟩|⟨fr',seg',u',v',es,e1,e2,a3,a4,⟨m,a5⟩,_⟩
   ·simp only[runN,DZ e] at hrun;cases hrun
   ·simp only[runN,Ci e1] at hrun;obtain⟨ve,q1,q2⟩:=shift S N a3 a4 (hf'.on a5).symm hrun;exact⟨ve,by simp only[runN,Ci e2];exact q1,q2⟩
  ·have hseg:seg=[]:=by
    cases seg with
    | nil=>rfl
    | cons c t=>exact absurd (.inr (by simp)) hg
   subst hseg;have:=DG S h hg hrun;omega
end
section
variable {P:Program} {X:Nat->Prop} {s:Nat->Bool} {E:Frame->Prop} {F:Frame->World->Prop}
def K(P:Program)(X:Nat->Prop)(E:Frame->Prop)(F:Frame->World->Prop)(fr:Frame)(seg:List Frame)(w:World):Prop :=
 ∀τ d,∃N fe ue,runN P N (lone fr (seg++[c0 P]) (E0 X w τ d))=.next (lone fe [c0 P] ue)/\E fe/\F fe ue
abbrev PD (fr:Frame):Prop:=fr.mode=.returning
structure St (P:Program) (X:Nat->Prop) (s:Nat->Bool) (E:Frame->Prop) (F:Frame->World->Prop) (fr:Frame) (seg:List Frame) (w:World):Prop where
 top:O2 P s fr
 rest:∀c∈seg,O2 P s c
 base:M1 X w
 ends:K P X E F fr seg w
theorem M1.at{w:World}(h:M1 X w)(d:Nat):M1 X (w.at d):=⟨h.old,h.cov,h.pend⟩
theorem K.next{fr:Frame}{seg:List Frame}{w:World}(h:K P X E F fr seg w)(hg:seg=[]->¬E fr)(τ:Nat->Question->Nat)(d:Nat):
  ∃m,step P (lone fr (seg++[c0 P]) (E0 X w τ d))=.next m/\∃N fe ue,runN P N m=.next (lone fe [c0 P] ue)/\E fe/\F fe ue:=by
 obtain⟨N,fe,ue,hr,hm,hF⟩:=h τ d;cases N with
 | zero =>
  exfalso
  simp only[runN,Stepped.next.injEq] at hr;obtain⟨e1,e2,_⟩:=Aj hr
  have a0:seg=[]:=by
   cases seg with
   | nil=>rfl
   | cons c t=>have:=congrArg List.length e2;simp at this
  exact hg a0 (e1 ▸ hm)
 | succ N =>
  simp only[runN] at hr;cases hs:step P (lone fr (seg++[c0 P]) (E0 X w τ d)) with
  | next m=>rw[hs] at hr;exact⟨m,rfl,N,fe,ue,hr,hm,hF⟩
  | ended o x=>rw[hs] at hr;cases hr
theorem OA(S:M6 P s)(hF:∀fe u v,S6 (λ_=>False) u v->F fe u->F fe v){fr:Frame}{seg:List Frame}{w:World}(h:St P X s E F fr seg w)(hg:EX fr seg)(hE:seg=[]->¬E fr)(bw:List Frame)(d:Nat):
  ∃fr' seg' w' es k,stepG P true (G fr (seg++bw)) (w.at d)=.go (G fr' (seg'++bw)) w' es/\(∀e∈es,AJ X e)/\St P X s E F fr' seg' w'/\w'.tape=w.tape/\w'.drawn=d+k/\
   ∀τ d0,(∀i q,i<k->τ (d0+i) q=w.tape (d+i) q)->step P (lone fr (seg++[c0 P]) (E0 X w τ d0))=.next (lone fr' (seg'++[c0 P]) (E0 X w' τ (d0+k))):=by
 have hb:=h.base.at d;have a7:S6 X (w.at d) (E0 X w w.tape d):=λn=>He hb (λi q _=>rfl)
 have a8:∀τ d0,¬∃o x es,stepG P true (G fr (seg++[c0 P])) (E0 X w τ d0)=.ended o x es:=λτ d0 ⟨o,x,es,e⟩=>by
  obtain⟨m,hm,_⟩:=h.ends.next hE τ d0;rw[DZ e] at hm;cases hm
 rcases (FN S (bu:=[c0 P]) (bw:=bw) h.top h.rest hg (a7 0)).1 a7 with e|⟨fr',seg',u',w',es,a1,a2,a3,a4,⟨m,a5⟩,a6⟩
 ·exact absurd e (a8 _ _)
 obtain⟨k,_,dw,_,a9⟩:=a5.drew
 have a0:∀τ d0,(∀i q,i<k->τ (d0+i) q=w.tape (d+i) q)->step P (lone fr (seg++[c0 P]) (E0 X w τ d0))=.next (lone fr' (seg'++[c0 P]) (E0 X w' τ (d0+k))):=λτ d0 ht=>by
  have hs:Y7 X k (w.at d) (E0 X w τ d0):=He hb ht;rcases (FN S (bu:=[c0 P]) (bw:=bw) h.top h.rest hg hs).2 _ _ _ a2 (by rw[dw];exact A3 _) with e|⟨fr2,seg2,u2,w2,es2,b1,b2,_,_,b5,_⟩
  ·exact absurd e (a8 _ _)
  rw[a2] at b2;rw[GStep.go.injEq] at b2;obtain⟨hG,b0,-⟩:=b2;subst b0;have h1:fr'=fr2:=congrArg (·.frame) hG;have h2:seg'++bw=seg2++bw:=congrArg (·.callers) hG;have h2:=List.append_cancel_right h2;subst h1 h2;obtain⟨k2,_,c2,b3,b4⟩:=b5.drew;have hk:k2=k:=by omega
  subst hk;rw[Ci b1];have e:=b4.eq_pz;rw[b5.tu,b3] at e;rw[e];rfl
 refine⟨fr',seg',w',es,k,a2,a6,⟨a3,a4,a5.base,λτ' d'=>?_⟩,a5.tw,dw,a0⟩;have b7:=a0 (λp q=>if p<k then w.tape (d+p) q else τ' (d'+(p-k)) q) 0 (λi q hi=>by simp only[Nat.zero_add,if_pos hi]);obtain⟨m1,e1,N,fe,ue,hr,hm,b6⟩:=h.ends.next hE (λp q=>if p<k then w.tape (d+p) q else τ' (d'+(p-k)) q) 0;rw[b7] at e1;cases e1
 have b8:=a5.base;have b9:∀(τ:Nat->Question->Nat)(d:Nat),Y7 X 0 w' (E0 X w' τ d):=λτ d=>He b8 (λi q hi=>by omega)
 have c1:S6 (λ_=>False) (E0 X w' (λp q=>if p<k then w.tape (d+p) q else τ' (d'+(p-k)) q) (0+k)) (E0 X w' τ' d'):=λn =>
  ⟨rfl,λ_ h=>h.elim,λ_ _=>rfl,λ_ h=>h.elim,(b9 _ _).pendU,rfl,rfl,λi q _=>by
   show τ' (d'+i) q=(if 0+k+i<k then w.tape (d+(0+k+i)) q else τ' (d'+(0+k+i-k)) q)
   rw[if_neg (by omega)];congr 1
   omega⟩
 obtain⟨ve,q1,q2⟩:=shift S N a3 a4 c1 hr;exact⟨N,fe,ve,q1,hm,hF _ _ _ q2 b6⟩
end
inductive Bx (P:Program) (X:Nat->Prop) (Stop:Goroutine->World->Prop):Goroutine->World->Prop
 | stop {g:Goroutine} {w:World} (h:∀d,Stop g (w.at d)):Bx P X Stop g w
 | step {g:Goroutine} {w:World} (hr:g.status=.running) (g':Nat->Goroutine) (w':Nat->World) (es:Nat->Array Event) (hs:∀d,stepG P true g (w.at d)=.go (g' d) (w' d) (es d)) (hf:∀d,∀e∈es d,AJ X e) (h:∀d,Bx P X Stop (g' d) (w' d)):Bx P X Stop g w
section
variable {P:Program} {X:Nat->Prop} {s:Nat->Bool} {E:Frame->Prop} {F:Frame->World->Prop}
def Left(P:Program)(X:Nat->Prop)(s:Nat->Bool)(F:Frame->World->Prop)(bw:List Frame)(g:Goroutine)(w:World):Prop :=
 ∃fe,g=G fe bw/\fe.mode=.returning/\O2 P s fe/\M1 X w/\∀τ d,F fe (E0 X w τ d)
theorem AcO(S:M6 P s){fr:Frame}{seg:List Frame}{w:World}(h:St P X s PD F fr seg w)(hg:¬EX fr seg)(bw:List Frame)(d:Nat):Left P X s F bw (G fr (seg++bw)) (w.at d):=by
 have a0:seg=[]:=by
  cases seg with
  | nil=>rfl
  | cons c t=>exact absurd (.inr (by simp)) hg
 subst a0
 have a1:∀τ d,fr.mode=.returning/\F fr (E0 X w τ d):=λτ d=>by
  obtain⟨N,fe,ue,hr,hm,hF⟩:=h.ends τ d;have hN:=DG S h.top hg hr;subst hN;simp only[runN,List.nil_append,Stepped.next.injEq] at hr;obtain⟨e1,_,e3⟩:=Aj hr;subst e1 e3;exact⟨hm,hF⟩
 exact⟨fr,rfl,(a1 (λ_ _=>0) 0).1,h.top,h.base.at d,λτ d=>(a1 τ d).2⟩
def Bad(P:Program)(X:Nat->Prop)(s:Nat->Bool)(F:Frame->World->Prop)(bw:List Frame)(x:Frame×List Frame×World):Prop :=
 St P X s PD F x.1 x.2.1 x.2.2/\¬Bx P X (Left P X s F bw) (G x.1 (x.2.1++bw)) x.2.2
theorem Aa6(S:M6 P s)(hF:∀fe u v,S6 (λ_=>False) u v->F fe u->F fe v){bw:List Frame}{x:Frame×List Frame×World}(h:Bad P X s F bw x):
  (x.2.1=[]->¬PD x.1)/\∃(d k:Nat)(y:Frame×List Frame×World),Bad P X s F bw y/\y.2.2.tape=x.2.2.tape/\
   ∀τ d0,(∀i q,i<k->τ (d0+i) q=x.2.2.tape (d+i) q)->step P (lone x.1 (x.2.1++[c0 P]) (E0 X x.2.2 τ d0))=.next (lone y.1 (y.2.1++[c0 P]) (E0 X y.2.2 τ (d0+k))):=by
 obtain⟨a0,hn⟩:=h;have hg:EX x.1 x.2.1:=Classical.byContradiction λhg=>hn (.stop λd=>AcO S a0 hg bw d);refine⟨λe h=>hg.elim (λhm=>by rw[h] at hm;cases hm) (λhh=>hh e),Classical.byContradiction λhno=>hn ?_⟩;have hs:=λd=>OA S hF a0 hg (λe h=>hg.elim (λhm=>by rw[h] at hm;cases hm) (λhh=>hh e)) bw d;let fr':=λd=>Classical.choose (hs d)
 let seg':=λd=>Classical.choose (Classical.choose_spec (hs d))
 let w':=λd=>Classical.choose (Classical.choose_spec (Classical.choose_spec (hs d)))
 let es:=λd=>Classical.choose (Classical.choose_spec (Classical.choose_spec (Classical.choose_spec (hs d))))
 have sp:∀d,∃k,stepG P true (G x.1 (x.2.1++bw)) (x.2.2.at d)=.go (G (fr' d) (seg' d++bw)) (w' d) (es d)/\(∀e∈es d,AJ X e)/\St P X s PD F (fr' d) (seg' d) (w' d)/\(w' d).tape=x.2.2.tape/\(w' d).drawn=d+k/\
   ∀τ d0,(∀i q,i<k->τ (d0+i) q=x.2.2.tape (d+i) q)->step P (lone x.1 (x.2.1++[c0 P]) (E0 X x.2.2 τ d0))=.next (lone (fr' d) (seg' d++[c0 P]) (E0 X (w' d) τ (d0+k))) :=
  λd=>Classical.choose_spec (Classical.choose_spec (Classical.choose_spec (Classical.choose_spec (hs d))))
 refine .step rfl (λd=>G (fr' d) (seg' d++bw)) w' es (λd=>(sp d).choose_spec.1) (λd=>(sp d).choose_spec.2.1) (λd=>?_);refine Classical.byContradiction λhr=>hno ?_;obtain⟨k,_,_,a3,a4,_,a6⟩:=sp d;exact⟨d,k,(fr' d,seg' d,w' d),⟨a3,hr⟩,a4,a6⟩
theorem Mq{B0:Frame×List Frame×World->Prop}(nxt:∀x,B0 x->(x.2.1=[]->¬E x.1)/\∃(d k:Nat)(y:Frame×List Frame×World),B0 y/\y.2.2.tape=x.2.2.tape/\
   ∀τ d0,(∀i q,i<k->τ (d0+i) q=x.2.2.tape (d+i) q)->step P (lone x.1 (x.2.1++[c0 P]) (E0 X x.2.2 τ d0))=.next (lone y.1 (y.2.1++[c0 P]) (E0 X y.2.2 τ (d0+k))))
  {fr:Frame} {seg:List Frame} {w:World} (hb:B0 (fr,seg,w)) (hk:K P X E F fr seg w):False:=by
 let B:={x:Frame×List Frame×World // B0 x}
 have nx:∀b:B,∃(d k:Nat)(y:B),y.1.2.2.tape=b.1.2.2.tape/\∀τ d0,(∀i q,i<k->τ (d0+i) q=b.1.2.2.tape (d+i) q)->step P (lone b.1.1 (b.1.2.1++[c0 P]) (E0 X b.1.2.2 τ d0))=.next (lone y.1.1 (y.1.2.1++[c0 P]) (E0 X y.1.2.2 τ (d0+k))):=λb=>by
  obtain⟨_,d,k,y,h1,h2,h3⟩:=nxt b.1 b.2;exact⟨d,k,⟨y,h1⟩,h2,h3⟩
 let dd:=λb:B=>Classical.choose (nx b)
 let kk:=λb:B=>Classical.choose (Classical.choose_spec (nx b))
 let yy:=λb:B=>Classical.choose (Classical.choose_spec (Classical.choose_spec (nx b)))
 have sp:∀b:B,(yy b).1.2.2.tape=b.1.2.2.tape/\∀τ d0,(∀i q,i<kk b->τ (d0+i) q=b.1.2.2.tape (dd b+i) q)->step P (lone b.1.1 (b.1.2.1++[c0 P]) (E0 X b.1.2.2 τ d0))=.next (lone (yy b).1.1 ((yy b).1.2.1++[c0 P]) (E0 X (yy b).1.2.2 τ (d0+kk b))) :=
  λb=>Classical.choose_spec (Classical.choose_spec (Classical.choose_spec (nx b)))
 let f:Nat->B:=λi=>Nat.rec (⟨(fr,seg,w),hb⟩:B) (λ_ b=>yy b) i
 have f0:f 0=⟨(fr,seg,w),hb⟩:=rfl;have fs:∀i,f (i+1)=yy (f i):=λi=>rfl;let c:Nat->Nat:=λi=>Nat.rec (0:Nat) (λi a=>a+kk (f i)) i
 have cs:∀i,c (i+1)=c i+kk (f i):=λi=>rfl
 have tp:∀i,(f i).1.2.2.tape=w.tape:=λi=>by
  induction i with
  | zero=>rfl
  | succ i ih=>rw[fs,(sp (f i)).1,ih]
 have cm:∀i j,i<=j->c i<=c j:=λi j hij=>by
  induction hij with
  | refl=>exact A3 _
  | step _ ih=>rw[cs];exact B4 ih (Nat.le_add_right _ _)
 let τ:Nat->Question->Nat:=λp q=>open Classical in if hx:∃ij:Nat×Nat,ij.2<kk (f ij.1)/\p=c ij.1+ij.2 then w.tape (dd (f hx.choose.1)+hx.choose.2) q else 0
 have hτ:∀i j q,j<kk (f i)->τ (c i+j) q=w.tape (dd (f i)+j) q:=λi j q hj=>by
  have hx:∃ij:Nat×Nat,ij.2<kk (f ij.1)/\c i+j=c ij.1+ij.2:=⟨(i,j),hj,rfl⟩;have e:τ (c i+j) q=w.tape (dd (f hx.choose.1)+hx.choose.2) q:=dif_pos hx;rw[e];obtain⟨h1,h2⟩:=hx.choose_spec
  have hi:hx.choose.1=i:=by
   rcases Nat.lt_trichotomy hx.choose.1 i with hl|hl|hl
   ·have:=cm _ _ hl;rw[Nat.succ_eq_add_one,cs] at this;omega
   ·exact hl
   ·have:=cm _ _ hl;rw[Nat.succ_eq_add_one,cs] at this;omega
  have a2:hx.choose.2=j:=by rw[hi] at h2;omega
  rw[hi,a2]
 have a0:∀i,runN P i (lone fr (seg++[c0 P]) (E0 X w τ 0))=.next (lone (f i).1.1 ((f i).1.2.1++[c0 P]) (E0 X (f i).1.2.2 τ (c i))):=λi=>by
  induction i with
  | zero=>rfl
  | succ i ih =>
   rw[runN_add,ih];simp only[runN];rw[(sp (f i)).2 τ (c i) (λj q hj=>by rw[tp];exact hτ i j q hj)]
 obtain⟨N,fe,ue,hr,hm,_⟩:=hk τ 0;rw[a0 N,Stepped.next.injEq] at hr;obtain⟨e1,e2,_⟩:=Aj hr;have hg:=(nxt (f N).1 (f N).2).1
 have a1:(f N).1.2.1=[]:=by
  cases hs:(f N).1.2.1 with
  | nil=>rfl
  | cons a t=>rw[hs] at e2;have:=congrArg List.length e2;simp at this
 exact hg a1 (e1 ▸ hm)
theorem PE(S:M6 P s)(hF:∀fe u v,S6 (λ_=>False) u v->F fe u->F fe v)(bw:List Frame){fr:Frame}{seg:List Frame}{w:World}(h:St P X s PD F fr seg w):Bx P X (Left P X s F bw) (G fr (seg++bw)) w :=
 Classical.byContradiction λhn=>Mq (B0:=Bad P X s F bw) (λ_ hx=>Aa6 S hF hx) ⟨h,hn⟩ h.ends
end
end Go.Proofs.YtcgkgmmclfeohaaGreatDoor
namespace Go.Proofs.YtcgkgmmclfeohaaGreatDoor
open Go.Proofs.Tryz
open Go.Conc
open Go.ConcN (sumTo upd sumTo_upd upd_ne upd_same)
section
variable {P:Program} {X:Nat->Prop} {Shun:Loc->Prop} {B:Nat}
theorem Aa7{e:Event}(h:AJ X e):∃B,(MemAct.ofEvent e).low B:=by
 obtain⟨l,wr,sy⟩:=e;cases l with
 | cell a=>exact⟨a.block+1,Nat.lt_succ_self _⟩
 | obj r=>exact⟨r+1,by cases wr<;>cases sy<;>exact Nat.lt_succ_self _⟩
 | mark m=>cases m<;>first|exact⟨0,trivial⟩|exact (h:False).elim
 | output=>exact⟨0,by cases wr<;>cases sy<;>trivial⟩
 | _=>exact (h:False).elim
theorem Aa8(hX:∀l,Shun l->∃a,l=.cell a/\X a.block){e:Event}(h:AJ X e)(hl:(MemAct.ofEvent e).low B):EvL Shun B e:=by
 obtain⟨l,wr,sy⟩:=e;cases l with
 | cell a =>
  refine⟨λx hx hs=>?_,by simp,by simp,hl⟩;obtain⟨a',e,ha⟩:=hX _ hs;simp only[MemAct.ofEvent,MemAct.touch?,Option.some.injEq] at hx;subst hx;cases e
  exact absurd ha h
 | obj r =>
  refine⟨λx hx hs=>?_,by simp,by simp,hl⟩;obtain⟨a',e,ha⟩:=hX _ hs;cases wr<;>cases sy<;>simp[MemAct.ofEvent,MemAct.touch?] at hx<;>(subst hx;cases e)
 | mark m=>cases m<;>first|exact (h:False).elim|exact⟨λx hx=>by simp[MemAct.ofEvent,MemAct.touch?] at hx,by simp,by simp,hl⟩
 | output =>
  refine⟨λx hx hs=>?_,by simp,by simp,hl⟩;obtain⟨a',e,ha⟩:=hX _ hs;cases wr<;>cases sy<;>simp[MemAct.ofEvent,MemAct.touch?] at hx<;>(subst hx;cases e)
 | _=>exact (h:False).elim
theorem PF(hX:∀l,Shun l->∃a,l=.cell a/\X a.block)(es:Array Event)(h:∀e∈es,AJ X e)(B:Nat):∃B',B<=B'/\∀e∈es,EvL Shun B' e:=by
 have a0:∀l:List Event,(∀e∈l,AJ X e)->∃B',B<=B'/\∀e∈l,(MemAct.ofEvent e).low B':=λl=>by
  induction l with
  | nil=>exact λ_=>⟨B,A3 _,by simp⟩
  | cons x l ih =>
   intro hl;obtain⟨b1,h1,h2⟩:=ih (λe he=>hl e (by simp[he]));obtain⟨b2,h3⟩:=Aa7 (hl x (by simp));refine⟨max b1 b2,B4 h1 (Nat.le_max_left _ _),λe he=>?_⟩;rcases List.mem_cons.1 he with rfl|he
   ·exact MemAct.low_mono (Nat.le_max_right _ _) h3
   ·exact MemAct.low_mono (Nat.le_max_left _ _) (h2 e he)
 obtain⟨B',h1,h2⟩:=a0 es.toList (λe he=>h e (by simpa using he));exact⟨B',h1,λe he=>Aa8 hX (h e he) (h2 e (by simpa using he))⟩
structure Fr (Shun:Loc->Prop) (B:Nat) (t:Trace):Prop where
 past:Past Shun B t
 known:∀i a,touchAt t i=some a->Knows t 0 i∨(Shun a.loc/\a.kind=.atomic)
theorem Fr.mono{B':Nat}{t:Trace}(h:Fr Shun B t)(hB:B<=B'):Fr Shun B' t:=⟨h.past.mono hB,h.known⟩
theorem Fr.app{B':Nat}{t u:Trace}(h:Fr Shun B t)(hp:Past Shun B' (t++u))(hu:∀op∈u,op.g=0∨op.act.touch?=none):Fr Shun B' (t++u):=by
 refine⟨hp,λi a ha=>?_⟩;obtain⟨z,hz,a0⟩:=touch_of ha;rcases getElem?_append_cases hz with⟨_,hz'⟩|⟨_,hzu⟩
 ·exact (h.known i a (by rw[touchAt_of hz'];exact a0)).imp (·.app u) id
 ·rcases hu z hzu with h0|h0
  ·have:=knows_own hz;rw[h0] at this;exact .inl this
  ·rw[h0] at a0;cases a0
theorem Fr.own{t:Trace}(h:Fr Shun B t){fn:FuncId}{pos:String}{es:Array Event}(hes:∀e∈es,EvL Shun B e):Fr Shun B (t++MemOp.ofEvents 0 fn pos es) :=
 h.app (h.past.own hes) λop hop=>by obtain⟨e,_,rfl⟩:=Go.Conc.mem_ofEvents hop;exact .inl rfl
theorem Fr.mute{t:Trace}(h:Fr Shun B t){g:Nat}(hg:g≠0){fn:FuncId}{pos:String}{es:Array Event}(hm:∀e∈es,e.mute=true):Fr Shun B (t++MemOp.ofEvents g fn pos es) :=
 h.app (h.past.mute hg hm) λop hop=>by obtain⟨e,he,rfl⟩:=Go.Conc.mem_ofEvents hop;exact .inr (touch_mute (hm e he))
theorem AeK:Fr (λ_=>False) 0 #[]:=⟨past_nil,λi a ha=>by simp[touchAt,Trace.act?] at ha⟩
theorem Bx.at{Stop:Goroutine->World->Prop}{g:Goroutine}{w:World}(h:Bx P X Stop g w)(d:Nat):Bx P X Stop g (w.at d):=by
 cases h with
 | stop h=>exact .stop h
 | step hr g' w' es hs hf h=>exact .step hr g' w' es hs hf h
theorem Qy{g:Nat}{fn:FuncId}{pos:String}{es:Array Event}:∀op∈MemOp.ofEvents g fn pos es,op.g=g:=λop hop=>by obtain⟨e,_,rfl⟩:=Go.Conc.mem_ofEvents hop;rfl
theorem Gy{gs:Array Goroutine}{a:Goroutine}{t:Trace}{q:Nat->Nat}(h0:gs[0]?=some a)(hr:a.status=.running)(hL:Leavers P t gs q)(hP:Fr Shun B t)(w:World)(sl:Option (Nat×Nat)):
  ∃d sl',(∀g' w' es B',stepG P true a (w.at d)=.go g' w' es->(∀e∈es,EvL Shun B' e)->B<=B'->∃gs' t',runNT P 1 (crowd gs w sl) t=(.next (crowd gs' w' sl'),t')/\gs'.size=gs.size/\gs'[0]?=some g'/\Leavers P t' gs' q/\Fr Shun B' t')∨
   ∃gs' t' q',runNT P 1 (crowd gs w sl) t=(.next (crowd gs' (w.at d) sl'),t')/\gs'.size=gs.size/\gs'[0]?=some a/\Leavers P t' gs' q'/\Fr Shun B t'/\sumTo gs.size q'<sumTo gs.size q:=by
 have a1:0<gs.size:=(D2.1 h0).1
 have a5:∀g∈gs,awake g:=λg hg=>by
  obtain⟨i,hi⟩:=Array.mem_iff_getElem?.1 hg;cases i with
  | zero=>rw[h0] at hi;cases hi;exact awake_of (.inl hr)
  | succ i=>exact awake_of ((hL.old (i+1) g (by omega) hi).status.elim .inl λx=>.inr (.inr x))
 obtain⟨i,g,d,sl',hi,hg,a2⟩:=crowd_pick (P:=P) (w:=w) (sl:=sl) a5 ⟨0,a,h0,hr⟩;have a3:i<gs.size:=(D2.1 hi).1
 have a0:∀(g':Goroutine)(w':World)(es:Array Event)(j:Nat)(x:Goroutine),j≠i->((gs.map (woken P g g' w')).setIfInBounds i g')[j]?=some x->∃y,gs[j]?=some y/\x=woken P g g' w' y:=λg' w' es j x hj hx=>by
  rw[Array.getElem?_setIfInBounds_ne (Ne.symm hj),Array.getElem?_map] at hx;obtain⟨y,hy,e⟩:=B6.1 hx;exact⟨y,hy,e.symm⟩
 refine⟨d,sl',?_⟩;cases i with
 | zero =>
  rw[h0] at hi;cases hi
  refine .inl λg' w' es B' hs hev hB=>?_;refine⟨_,_,by simp only[runNT,a2,runT_crowd_go (P:=P) (sl:=sl') (i:=0) h0 (show stepG P (0==0) a (w.at d)=_ from hs)];rfl,by simp,by simp[a1],⟨λj x hj hx=>?_,λj hj=>?_⟩,(hP.mono hB).own hev⟩
  ·obtain⟨y,hy,rfl⟩:=a0 g' w' es j x (by omega) hx;have hq:=hL.old j y hj hy;rw[woken_quitsD hq,Deaf_other t (g':=0) (by omega) _ Qy];exact hq
  ·rw[Deaf_other t (g':=0) (by simp at hj;omega) _ Qy];exact hL.above j (by simpa using hj)
 | succ i =>
  refine .inr ?_;have hq:=hL.old (i+1) g (by omega) hi;cases hqi:q (i+1) with
  | zero=>rw[hqi] at hq;rw[hq.1] at hg;cases hg
  | succ k =>
   rw[hqi] at hq;rcases hq with⟨hf,_⟩|⟨_,g',es,hm,hstp,hq'⟩
   ·rw[hf] at hg;cases hg
   have a6:sumTo gs.size (upd q (i+1) k)+(k+1)=sumTo gs.size q+k:=by
    have:=sumTo_upd q k id a3;simpa [hqi] using this
   refine⟨_,_,upd q (i+1) k,by simp only[runNT,a2,runT_crowd_go (P:=P) (sl:=sl') (i:=i+1) hi (show stepG P (i+1==0) g (w.at d)=_ from hstp (w.at d))];rfl,by simp,?_,⟨λj x hj hx=>?_,λj hj=>?_⟩,hP.mute (by omega) hm,by omega⟩
   ·rw[Array.getElem?_setIfInBounds_ne (by omega),Array.getElem?_map,h0];simp[woken_run hr]
   ·by_cases hji:j=i+1
    ·subst hji;rw[Array.getElem?_setIfInBounds_self_of_lt (by simpa using a3)] at hx;cases hx
     rw[upd_same,Deaf_own];exact hq'
    ·obtain⟨y,hy,rfl⟩:=a0 g' (w.at d) es j x hji hx;have a4:=hL.old j y hj hy;rw[woken_quitsD a4,upd_ne q k hji,Deaf_other t (g':=i+1) (by omega) _ Qy];exact a4
   ·rw[Deaf_other t (g':=i+1) (by simp at hj;omega) _ Qy];exact hL.above j (by simpa using hj)
theorem Wj{Stop:Goroutine->World->Prop}(hX:∀l,Shun l->∃a,l=.cell a/\X a.block){a:Goroutine}{w:World}(h:Bx P X Stop a w):
  ∀(M:Nat)(gs:Array Goroutine)(d:Nat)(sl:Option (Nat×Nat)) (t:Trace) (q:Nat->Nat) (B:Nat),sumTo gs.size q<=M->gs[0]?=some a->Leavers P t gs q->Fr Shun B t->
   ∃N gs' a' w' sl' t' q' B',runNT P N (crowd gs (w.at d) sl) t=(.next (crowd gs' w' sl'),t')/\gs'.size=gs.size/\gs'[0]?=some a'/\Stop a' w'/\Leavers P t' gs' q'/\Fr Shun B' t'/\B<=B':=by
 induction h with
 | stop h=>exact λM gs d sl t q B _ h0 hL hP=>⟨0,gs,_,_,sl,t,q,B,rfl,rfl,h0,h d,hL,hP,A3 _⟩
 | @step g w hr g' w' es hs hf _ ih =>
  intro M;induction M with
  | zero =>
   intro gs d sl t q B hM h0 hL hP;obtain⟨d',sl',h1|⟨a0,t1,q1,_,_,_,_,_,a8⟩⟩:=Gy h0 hr hL hP (w.at d) sl
   ·obtain⟨B',hB,a7⟩:=PF hX (es d') (hf d') B;obtain⟨a0,t1,r1,z1,a1,L1,P1⟩:=h1 _ _ _ B' (hs d') a7 hB;obtain⟨N,a3,a2,w2,a4,t2,q2,B2,r2,z2,b2,a5,L2,P2,a6⟩:=ih d' (sumTo a0.size q) a0 (w' d').drawn sl' t1 q B' (A3 _) a1 L1 P1;exact⟨1+N,a3,a2,w2,a4,t2,q2,B2,by rw[runNT_add,r1];exact r2,z2.trans z1,b2,a5,L2,P2,B4 hB a6⟩
   ·omega
  | succ M ihM =>
   intro gs d sl t q B hM h0 hL hP;obtain⟨d',sl',h1|⟨a0,t1,q1,r1,z1,a1,L1,P1,a8⟩⟩:=Gy h0 hr hL hP (w.at d) sl
   ·obtain⟨B',hB,a7⟩:=PF hX (es d') (hf d') B;obtain⟨a0,t1,r1,z1,a1,L1,P1⟩:=h1 _ _ _ B' (hs d') a7 hB;obtain⟨N,a3,a2,w2,a4,t2,q2,B2,r2,z2,b2,a5,L2,P2,a6⟩:=ih d' (sumTo a0.size q) a0 (w' d').drawn sl' t1 q B' (A3 _) a1 L1 P1;exact⟨1+N,a3,a2,w2,a4,t2,q2,B2,by rw[runNT_add,r1];exact r2,z2.trans z1,b2,a5,L2,P2,B4 hB a6⟩
   ·obtain⟨N,a3,a2,w2,a4,t2,q2,B2,r2,z2,b2,a5,L2,P2,a6⟩:=ihM a0 d' sl' t1 q1 B (by rw[z1];omega) a1 L1 P1;exact⟨1+N,a3,a2,w2,a4,t2,q2,B2,by rw[runNT_add,r1];exact r2,z2.trans z1,b2,a5,L2,P2,a6⟩
end
end Go.Proofs.YtcgkgmmclfeohaaGreatDoor
namespace Go.Proofs.YtcgkgmmclfeohaaGreatDoor
open Go.Proofs.Tryz
open Go.Conc
section
variable {P:Program} {X:Nat->Prop} {s:Nat->Bool}
def II(P:Program)(X:Nat->Prop)(w:World)(R:World->Value->World->Prop)(fe:Frame)(ue:World):Prop :=
 ∃τ d u0 v,R (E0 X w τ d) v u0/\fe.leaving P u0 (.returned v)/\S6 (λ_=>False) u0 ue
theorem KD{w:World}{R:World->Value->World->Prop}(fe:Frame)(u v:World)(h:S6 (λ_=>False) u v)(k:II P X w R fe u):II P X w R fe v:=by
 obtain⟨τ,d,u0,x,h1,h2,h3⟩:=k;exact⟨τ,d,u0,x,h1,h2,h3.trans h⟩
theorem Wm(S:M6 P s){fr fe:Frame}{seg:List Frame}{u ue:World}:∀(N:Nat),O2 P s fr->(∀c∈seg,O2 P s c)->S6 (λ_=>False) u u->runN P N (lone fr (seg++[c0 P]) u)=.next (lone fe [c0 P] ue)->S6 (λ_=>False) ue ue:=λN h hr hf hrun=>by
 obtain⟨ve,q1,q2⟩:=shift S N h hr hf hrun;rw[hrun,Stepped.next.injEq] at q1;obtain⟨_,_,e⟩:=Aj q1;rw[← e] at q2;exact q2
theorem Yr(S:M6 P s){f:FuncId}(hf:s f=true)(hbf:((P.funcs[f]?).bind (·.body)).isSome=true){args:Array Value}{w:World}(hb:M1 X w){R:World->Value->World->Prop}
  (hc:∀τ d,Calls P f args (E0 X w τ d) λe u'=>∃v,e=.returned v/\R (E0 X w τ d) v u') (bw:List Frame) :
  Bx P X (Left P X s (II P X w R) bw) (G (Frame.enter P f args .normal) bw) w:=by
 have h0:=RQ (AcJ S hf hbf w) args
 have a0:St P X s PD (II P X w R) (Frame.enter P f args .normal) [] w:=⟨h0,by simp,hb,λτ d=>by
  obtain⟨e,u',fr,⟨v,rfl,hR⟩,⟨N,hN⟩,_,hl⟩:=hc τ d [c0 P];have hs:Y7 X 0 w (E0 X w τ d):=He hb (λi q hi=>by omega);have a1:S6 (λ_=>False) (E0 X w τ d) (E0 X w τ d):=λn=>⟨rfl,λ_ h=>h.elim,λ_ _=>rfl,λ_ h=>h.elim,hs.pendU,rfl,rfl,λ_ _ _=>rfl⟩;exact⟨N,fr,u',hN,hl.1,τ,d,u',v,hR,hl,Wm S N h0 (seg:=[]) (by simp) a1 hN⟩⟩
 exact PE S KD bw a0
end
section
variable {P:Program} {X:Nat->Prop} {s:Nat->Bool} {α β:Type}
def Dt(P:Program)(q:Sem α):Prop:=∀w es a w' es',q.runT P w es=(.ok a w',es')->w'=w
theorem Aq(a:α):Dt P (Pure.pure a:Sem α):=λw es a w' es' h=>by cases h;rfl
theorem Jw(k:Halt):Dt P (Sem.halt k:Sem α):=λw es a w' es' h=>by cases h
theorem AR{q:Sem α}{f:α->Sem β}(h:Dt P q)(hf:∀a,Dt P (f a)):Dt P (q >>= f):=λw es a w' es' hr=>by
 have hr:(q.bind f).runT P w es=_:=hr;rw[Sem.runT_bind'] at hr;match hq:q.runT P w es,hr with
 | (.ok b w1,e1),hr=>rw[hf b _ _ _ _ _ hr,h _ _ _ _ _ hq]
 | (.halt k w1,e1),hr=>cases hr
theorem Ka{f:Program->Sem α}(h:Dt P (f P)):Dt P (program >>= f):=λw es a w' es' hr=>h w es a w' es' hr
theorem Nf(a:Addr)(m:Mode):Dt P (load a m):=λw es v w' es' hr=>by
 simp only[load,Sem.runT] at hr;split at hr
 ·cases hr;rfl
 ·split at hr
  ·cases hr;rfl
  ·cases hr
theorem Ys(t:TypeId):Dt P (underlying t):=by
 unfold underlying;refine Ka ?_;split<;>first|exact Aq _|exact Jw _
theorem Wn(t:TypeId):Dt P (typeInfo t):=by
 unfold typeInfo;refine Ka ?_;split<;>first|exact Aq _|exact Jw _
theorem LQ(a:Addr):∀(n i:Nat)(acc:Array Value),Dt P (loadCellsFrom a i n acc)
 | 0,_,_=>Aq _
 | n+1,i,_=>AR (Nf _ _) (λ_=>LQ a n (i+1) _)
theorem Qp(t:TypeId)(a:Addr):Dt P (loadVar t a):=by
 unfold loadVar;refine AR (by unfold isAgg;refine AR (Ys t) (λ_=>?_);split<;>exact Aq _) (λb=>?_);split
 ·exact AR (AR (Wn t) (λ_=>Aq _)) (λn=>AR (LQ a _ _ _) (λ_=>Aq _))
 ·exact Nf _ _
theorem Wo(v:Value):Dt P (asAddr v):=by
 unfold asAddr;split
 ·exact Aq _
 ·exact λw es a w' es' hr=>by cases hr
 ·exact Jw _
theorem Qq(fn:Func)(tmps:Array Value):Dt P (results fn tmps):=by
 unfold results;refine AR ?_ (λ_=>Aq _);rw[Array.mapM_eq_mapM_toList];refine AR (f:=λl=>Pure.pure (List.toArray l)) ?_ (λ_=>Aq _);induction fn.results.toList with
 | nil=>exact Aq _
 | cons x l ih =>
  rw[List.mapM_cons];refine AR ?_ (λ_=>AR ih (λ_=>Aq _));split
  ·exact Aq _
  ·exact AR (Wo _) (λ_=>Qp _ _)
theorem Ng{Y:Nat->Prop}{fn:Func}{tmps:Array Value}{x y:World}{v:Value}{es:Array Event}(hs:Y7 Y 0 x y)(h:(results fn tmps).runT P y #[]=(.ok v y,es)):
  (results fn tmps).runT P x #[]=(.ok v x,es)/\∀e∈es,AJ Y e:=by
 have ha:=KC (P:=P) (X:=Y) fn tmps 0 x y #[] hs (.inr (by rw[h];exact A3 _));rw[h] at ha;obtain⟨a0,x',hx,_⟩:=ha;have e:=Qq fn tmps _ _ _ _ _ hx;rw[e] at hx;exact⟨hx,λe he=>(a0 e he).elim (λh=>by simp at h) id⟩
theorem RY{w:World}{R:World->Value->World->Prop}{c:Frame}{cs:List Frame}{g:Goroutine}{w':World}(h:Left P X s (II P X w R) (c::cs) g w'):
  ∃v,(∀d,∃es,stepG P true g (w'.at d)=.go (G (c.finish v) cs) (w'.at d) es/\∀e∈es,AJ X e)/\M1 X w'/\∀τ d,∃τ0 d0 u0,R (E0 X w τ0 d0) v u0/\S6 (λ_=>False) u0 (E0 X w' τ d):=by
 obtain⟨fe,rfl,hm,a6,hb,hT⟩:=h
 have a4:∀{fn:Func} {u0:World} {v:Value},(results fn fe.tmps).run P u0=.ok v u0->∃es,(results fn fe.tmps).runT P u0 #[]=(.ok v u0,es):=λ{fn u0 v} hr=>by
  have e:=Sem.runT_fst P (results fn fe.tmps) u0 #[];rw[hr] at e;exact⟨_,Prod.ext e rfl⟩
 obtain⟨τ0,d0,u0,v,hR,⟨_,_,_,fn,a7,a5⟩,a8⟩:=hT (λ_ _=>0) 0;obtain⟨es,e0⟩:=a4 a5;have e1:=(Ng (a8.symm 0) e0).1;refine⟨v,λd=>?_,hb,λτ d=>?_⟩
 ·have hs:Y7 X 0 (w'.at d) (E0 X w' (λ_ _=>0) 0):=He (hb.at d) (λi q hi=>by omega);obtain⟨e2,a0⟩:=Ng hs e1;refine⟨seen P fe.fn es ++ #[],?_,λe he=>?_⟩
  ·simp only[stepG,G,hm,unwind,a6.defers,a7,e2,doReturn,a6.kind,GStep.after]
  ·rw[Array.append_empty] at he;exact a0 e (mem_seen he)
 ·obtain⟨τ1,d1,u1,v1,a9,⟨_,_,_,b1,a1,a2⟩,a3⟩:=hT τ d;rw[a7] at a1;cases a1
  obtain⟨b2,f0⟩:=a4 a2;have f1:=(Ng (a3.symm 0) f0).1;have b0:∀(τ:Nat->Question->Nat)(d:Nat),Y7 X 0 w' (E0 X w' τ d):=λτ d=>He hb (λi q hi=>by omega);have hy:Y7 (λ_=>False) 0 (E0 X w' (λ_ _=>0) 0) (E0 X w' τ d):=⟨rfl,λ_ h=>h.elim,λ_ _=>rfl,λ_ h=>h.elim,(b0 _ _).pendU,rfl,rfl,λi q hi=>by omega⟩;have f2:=(Ng hy f1).1;rw[e1] at f2;have hv:v=v1:=by cases f2;rfl
  subst hv;exact⟨τ1,d1,u1,a9,a3⟩
end
def Sa(P:Program)(l:List Nat)(x:List Nat:=[]):Bool:=(l.all λf=>match P.funcs[f]? with
 | some fn=>(match fn.body with|some b=>O0 P (λg=>l.contains g) b && !(fn.name == "runtime.NumGoroutine")|none=>x.contains f)
 | none=>false)&&P.funcs.all λf=>(f.body.map readies).all (·.all (· < gN))
theorem AcP{P:Program}(h:(P.funcs.all λf=>(f.body.map readies).all (·.all (· < gN)))=true)(g:Nat)(hg:gN<=g):P.stepOf g=none:=by
 unfold Program.stepOf;rw[Array.findIdx?_eq_none_iff];intro f hf;have h1:=Array.all_eq_true'.1 h f hf;cases hb:f.body with
 | none=>rfl
 | some b =>
  rw[hb] at h1;simp only[Option.map_some,Option.all_some,List.all_eq_true,decide_eq_true_eq] at h1;simp only[Option.map_some,Option.any_some];cases hc:(readies b).contains g with
  | false=>rfl
  | true=>have:=h1 g (by simpa using hc);omega
theorem PG{P:Program}{l x:List Nat}(hx:∀f∈x,Ce P f)(h:Sa P l x=true):M6 P (λg=>l.contains g):=⟨λf hf=>by
 have hm:f∈l:=by simpa using hf
 have h1:=List.all_eq_true.1 (Bool.and_eq_true_iff.1 h).1 f hm;cases hfn:P.funcs[f]? with
 | none=>simp only[hfn] at h1;cases h1
 | some fn =>
  simp only[hfn] at h1;cases hb:fn.body with
  | none=>simp only[hb] at h1;exact .inr (hx f (by simpa using h1))
  | some b =>
   simp only[hb,Bool.and_eq_true] at h1;exact .inl ⟨fn,b,hfn,hb,h1.1,by simpa using h1.2⟩,AcP (Bool.and_eq_true_iff.1 h).2⟩
theorem Aa9{P:Program}{l:List Nat}(h:Sa P l=true):M6 P (λg=>l.contains g):=PG (x:=[]) (λ_ h=>by cases h) h
theorem KE{P:Program}{Q:Next->Prop}{f:Program->Sem Next}(h:BD P Q (f P)):BD P Q (program >>= f):=λw es n w' es' hr=>h w es n w' es' hr
theorem Df{P:Program}{f:FuncId}{fn:Func}(hf:P.funcs[f]?=some fn)(hb:fn.body.isNone=true)(hn:(fn.name == "runtime.NumGoroutine")=false)(hx:(Extern.findNext fn).isNone=true){e:Array Value->Sem Value}(he:Extern.find fn=some e)(hs:∀(X:Nat->Prop) args,D3 P X (e args)):Ce P f:=λX args=>by
 have hx:Extern.findNext fn=none:=by simpa using hx
 constructor
 ·unfold callFunc;refine E2 ?_;simp only[hf,hn,hb,Bool.false_eq_true,if_false,if_true,hx,he];exact D3.bind (D3.extern (D3.pure _)) λ_=>D3.bind (hs X args) λ_=>D3.pure' _
 ·unfold callFunc;refine KE ?_;simp only[hf,hn,hb,Bool.false_eq_true,if_false,if_true,hx,he];exact EI λ_=>Yc _
def ext(k:List Item)(fr:Frame):Frame:={fr with todo:=fr.todo++k}
section
variable {P:Program} {X:Nat->Prop} {s:Nat->Bool}
theorem Jx{id:Nat}(k:List Item):∀{l l':List Item},exitTo id l=some l'->exitTo id (l++k)=some (l'++k)
 | [],_,h=>by cases h
 | it::l,l',h=>by
  cases it with
  | inBlock id' =>
   simp only[List.cons_append,exitTo] at h ⊢
   split at h
   ·rename_i hc;rw[if_pos hc];cases h;rfl
   ·rename_i hc;rw[if_neg hc];exact Jx k h
  | _=>simp only[List.cons_append,exitTo] at h ⊢;exact Jx k h
theorem EY{fr:Frame}(k:List Item)(hne:fr.todo≠[])(v:Value):(ext k fr).finish v=ext k (fr.finish v):=by
 obtain⟨fn,a2,a0,a1,a3,a4,rO⟩:=fr;cases a0 with
 | nil=>exact absurd rfl hne
 | cons it l =>
  cases it with
  | inRegion ops ord=>cases ord<;>rfl
  | _=>rfl
theorem PH(k:List Item)(fr:Frame)(c:List PanicEntry):(ext k fr).raise c=ext k (fr.raise c):=by
 obtain⟨fn,a2,a3,a0,a1,a4,rO⟩:=fr;cases a1<;>rfl
theorem Yt(S:M6 P s){fr:Frame}(h:O2 P s fr){ops:Array Oper}{l:List Nat}{k0:List Item}(ht:fr.todo=.inRegion ops l::k0){q:Sem Next}(he:BD P (λn=>BS n∨∃f args,DD P s f/\n=.enter f args) q)
  (hq:D3 P (λ_=>False) q) {cu:List Frame} {w:World} (hw:S6 (λ_=>False) w w) {g':Goroutine} {w':World} {es:Array Event} (hst:stepG.apply P true fr cu none q w=.go g' w' es) :
  (∃fr',g'=G fr' cu/\(∀cw,stepG.apply P true fr cw none q w=.go (G fr' cw) w' es)/\∀k cw,stepG.apply P true (ext k fr) cw none q w=.go (G (ext k fr') cw) w' es)∨
  (∃fr',g'=G fr' (fr::cu)/\(∀cw,stepG.apply P true fr cw none q w=.go (G fr' (fr::cw)) w' es)/\∀k cw,stepG.apply P true (ext k fr) cw none q w=.go (G fr' (ext k fr::cw)) w' es):=by
 have hk:(fr.kind==CallKind.early)=false:=by rw[h.kind];rfl
 have a3:fr.todo≠[]:=by rw[ht];simp
 have hx:∀k,(ext k fr).todo=.inRegion ops l::(k0++k):=λk=>by simp[ext,ht]
 have a0:∀k,((ext k fr).kind==CallKind.early)=false:=λk=>hk;have a1:∀k,(ext k fr).fn=fr.fn:=λk=>rfl;have a2:=λk w1 es=>D3.sane hq (hw 0) (k:=k) (w1:=w1) (es:=es);unfold stepG.apply at hst ⊢
 generalize hu:q.runT P w #[]=ru at hst;simp only[hk,ht,if_true,Bool.false_eq_true,if_false] at hst;match ru,hu,hst with
 | (.ok n u1,eu),hu,hst =>
  rcases he _ _ _ _ _ hu with (⟨v,rfl⟩|rfl)|⟨f,args,hf,rfl⟩<;>simp only[GStep.after] at hst<;>cases hst
  ·refine .inl ⟨fr.finish v,rfl,λcw=>?_,λk cw=>?_⟩
   ·simp only[hk,if_true,Bool.false_eq_true,if_false,GStep.after];rfl
   ·simp only[a0,a1,if_true,Bool.false_eq_true,if_false,GStep.after,EY k a3];rfl
  ·refine .inl ⟨fr.finish undef,rfl,λcw=>?_,λk cw=>?_⟩
   ·simp only[hk,if_true,Bool.false_eq_true,if_false,GStep.after];rfl
   ·simp only[a0,a1,if_true,Bool.false_eq_true,if_false,GStep.after,EY k a3];rfl
  ·refine .inr ⟨Frame.enter P f args .normal,rfl,λcw=>?_,λk cw=>?_⟩
   ·simp only[hk,ht,if_true,Bool.false_eq_true,if_false,GStep.after];rfl
   ·simp only[a0,hx,a1,if_true,Bool.false_eq_true,if_false,GStep.after];rfl
 | (.halt k u1,eu),hu,hst =>
  have h0:=a2 k u1 eu hu;cases k with
  | panic v =>
   simp only[GStep.after] at hst;cases hst
   refine .inl ⟨fr.raise [{v,recovered:=false}],rfl,λcw=>?_,λk cw=>?_⟩
   ·simp only[hk,if_true,Bool.false_eq_true,if_false,GStep.after];rfl
   ·simp only[a0,a1,if_true,Bool.false_eq_true,if_false,GStep.after,PH];rfl
  | stuck x=>simp only[GStep.after] at hst;cases hst
  | unsupported x =>
   cases x with
   | initOrder g =>
    have hg:gN<=g:=by simpa [Ek] using h0
    rcases FK (fr:=fr) S hg cu u1 with⟨o,x,es,e⟩|⟨c,t,hp,hfo,e⟩
    ·simp only[e,GStep.after] at hst;cases hst
    ·simp only[e,GStep.after] at hst;cases hst
     have ew:∀(fr:Frame)(cw:List Frame),early P fr cw none g u1=.go (G fr cw) {u1 with heap:=u1.heap.setIfInBounds g (.cells c t)} #[]:=λfr cw=>by
      unfold early;simp only[hfo,Bool.not_false,if_true,hp];rfl
     refine .inl ⟨fr,rfl,λcw=>?_,λk cw=>?_⟩
     ·simp only[hk,if_true,Bool.false_eq_true,if_false,GStep.after,ew]
     ·simp only[a0,a1,if_true,Bool.false_eq_true,if_false,GStep.after,ew]
   | _=>first|(cases h0;done)|(simp only[GStep.after] at hst;cases hst)
  | _=>cases h0
theorem Sb(S:M6 P s){fr:Frame}(h:O2 P s fr)(hm:fr.mode=.run){cu:List Frame}{w:World}(hw:S6 (λ_=>False) w w){g':Goroutine}{w':World}{es:Array Event}(hst:stepG P true (G fr cu) w=.go g' w' es):
  (∃fr',g'=G fr' cu/\(∀cw,stepG P true (G fr cw) w=.go (G fr' cw) w' es)/\(fr.todo≠[]->∀k cw,stepG P true (G (ext k fr) cw) w=.go (G (ext k fr') cw) w' es))∨
  (∃fr',g'=G fr' (fr::cu)/\fr.todo≠[]/\(∀cw,stepG P true (G fr cw) w=.go (G fr' (fr::cw)) w' es)/\∀k cw,stepG P true (G (ext k fr) cw) w=.go (G fr' (ext k fr::cw)) w' es):=by
 have hr:=h.round;have ht:=h.todo;have a6:∀k,(ext k fr).mode=.run:=λk=>hm;have a8:∀k,(ext k fr).roundOf=none:=λk=>hr
 have a0:∀{fr':Frame},(∀cs x,stepG P true (G fr cs) x=.go (G fr' cs) x #[])->(fr.todo≠[]->∀k cs x,stepG P true (G (ext k fr) cs) x=.go (G (ext k fr') cs) x #[])->
   (∃fr',g'=G fr' cu/\(∀cw,stepG P true (G fr cw) w=.go (G fr' cw) w' es)/\(fr.todo≠[]->∀k cw,stepG P true (G (ext k fr) cw) w=.go (G (ext k fr') cw) w' es)):=λe1 e2=>by
  rw[e1] at hst;cases hst
  exact⟨_,rfl,λcw=>e1 cw w,λa5 k cw=>e2 a5 k cw w⟩
 cases hto:fr.todo with
 | nil=>exact .inl (by
   have:=a0 (fr':={fr with mode:=.returning}) (λcs x=>by simp[stepG,stepG.exec,G,hm,hto,hr]) (λa5=>absurd hto a5);rwa [hto] at this)
 | cons it l =>
  rw[hto] at ht;have hi:X6 P s it:=ht it (by simp);have a7:∀k,(ext k fr).todo=it::(l++k):=λk=>by simp[ext,hto]
  rw[hto] at a0
  have a4:∀(l':List Item),(∀cs x,stepG P true (G fr cs) x=.go (G {fr with todo:=l'} cs) x #[])->(∀k cs x,stepG P true (G (ext k fr) cs) x=.go (G {fr with todo:=l'++k} cs) x #[])->
    (∃fr',g'=G fr' cu/\(∀cw,stepG P true (G fr cw) w=.go (G fr' cw) w' es)/\(it::l≠[]->∀k cw,stepG P true (G (ext k fr) cw) w=.go (G (ext k fr') cw) w' es)):=λl' e1 e2=>a0 e1 (λ_=>e2)
  cases it with
  | inBlock id=>exact .inl (a4 l (λcs x=>by simp[stepG,stepG.exec,G,hm,hto]) (λk cs x=>by simp[stepG,stepG.exec,G,ext,hm,hto]))
  | inScope b=>exact .inl (a4 l (λcs x=>by simp[stepG,stepG.exec,G,hm,hto]) (λk cs x=>by simp[stepG,stepG.exec,G,ext,hm,hto]))
  | inLoop b=>exact .inl (a4 (.code b::.inLoop b::l) (λcs x=>by simp[stepG,stepG.exec,G,hm,hto]) (λk cs x=>by simp[stepG,stepG.exec,G,ext,hm,hto]))
  | inRegion ops ord =>
   cases ord with
   | nil=>exact .inl (a4 l (λcs x=>by simp[stepG,stepG.exec,G,hm,hto]) (λk cs x=>by simp[stepG,stepG.exec,G,ext,hm,hto]))
   | cons i rest =>
    have a5:fr.todo≠[]:=by rw[hto];simp
    cases ho:ops[i]? with
    | none=>exact .inl (a0 (fr':=fr.finish undef) (λcs x=>by simp[stepG,stepG.exec,G,hm,hto,ho]) (λ_ k cs x=>by simp[stepG,stepG.exec,G,a6,a7,ho,EY k a5]))
    | some o =>
     cases hwt:Region.wanted o (yielded ops fr.tmps) with
     | false=>exact .inl (a0 (fr':=fr.finish undef) (λcs x=>by simp[stepG,stepG.exec,G,hm,hto,ho,hwt]) (λ_ k cs x=>by
       have:Region.wanted o (yielded ops (ext k fr).tmps)=false:=hwt;simp[stepG,stepG.exec,G,a6,a7,ho,this,EY k a5]))
     | true =>
      have a9:Gm P s o.op=true:=hi i (by simp) o ho;obtain⟨q1,q2⟩:=Qx (X:=λ_=>False) S fr o a9
      have e:∀cs x,stepG P true (G fr cs) x=stepG.apply P true fr cs none (execOp fr.eval o) x:=λcs x=>by
       simp[stepG,stepG.exec,G,hm,hto,ho,hwt,stepG.oper,Frame.oper?,hr]
      have ex:∀k cs x,stepG P true (G (ext k fr) cs) x=stepG.apply P true (ext k fr) cs none (execOp fr.eval o) x:=λk cs x=>by
       have e1:Region.wanted o (yielded ops (ext k fr).tmps)=true:=hwt;have e2:(ext k fr).eval=fr.eval:=rfl;simp[stepG,stepG.exec,G,a6,a7,ho,e1,stepG.oper,Frame.oper?,a8,e2]
      rw[e] at hst;rcases Yt S h hto q2 q1 hw hst with⟨fr',a1,a2,a3⟩|⟨fr',a1,a2,a3⟩
      ·exact .inl ⟨fr',a1,λcw=>(e cw w).trans (a2 cw),λ_ k cw=>(ex k cw w).trans (a3 k cw)⟩
      ·exact .inr ⟨fr',a1,by simp,λcw=>(e cw w).trans (a2 cw),λk cw=>(ex k cw w).trans (a3 k cw)⟩
  | code c =>
   have hc:O0 P s c=true:=hi;cases c with
   | skip=>exact .inl (a4 l (λcs x=>by simp[stepG,stepG.exec,G,hm,hto]) (λk cs x=>by simp[stepG,stepG.exec,G,ext,hm,hto]))
   | label b=>exact .inl (a4 l (λcs x=>by simp[stepG,stepG.exec,G,hm,hto]) (λk cs x=>by simp[stepG,stepG.exec,G,ext,hm,hto]))
   | seq a b=>exact .inl (a4 (.code a::.code b::l) (λcs x=>by simp[stepG,stepG.exec,G,hm,hto]) (λk cs x=>by simp[stepG,stepG.exec,G,ext,hm,hto]))
   | block id b=>exact .inl (a4 (.code b::.inBlock id::l) (λcs x=>by simp[stepG,stepG.exec,G,hm,hto]) (λk cs x=>by simp[stepG,stepG.exec,G,ext,hm,hto]))
   | loop b=>exact .inl (a4 (.code b::.inLoop b::l) (λcs x=>by simp[stepG,stepG.exec,G,hm,hto]) (λk cs x=>by simp[stepG,stepG.exec,G,ext,hm,hto]))
   | scope b=>exact .inl (a4 (.code b::.inScope b::l) (λcs x=>by simp[stepG,stepG.exec,G,hm,hto]) (λk cs x=>by simp[stepG,stepG.exec,G,ext,hm,hto]))
   | cond c a b =>
    cases hv:fr.eval c with
    | bool t =>
     have b0:∀k,(ext k fr).eval c=.bool t:=λk=>hv;exact .inl (a4 (.code (if t then a else b)::l) (λcs x=>by simp only[stepG,stepG.exec,G,hm,hto,hv]) (λk cs x=>by simp only[stepG,stepG.exec,G,a6,a7,b0];simp[ext,hm]))
    | _=>exact absurd hst (by simp only[stepG,stepG.exec,G,hm,hto,hv];intro e;cases e)
   | ret=>exact .inl (a0 (fr':={fr with mode:=.returning}) (λcs x=>by simp[stepG,stepG.exec,G,hm,hto,hr]) (λ_ k cs x=>by simp[stepG,stepG.exec,G,ext,hm,hto,hr]))
   | exit id =>
    cases hx:exitTo id l with
    | some l' =>
     have b1:∀k,exitTo id (l++k)=some (l'++k):=λk=>Jx k hx;exact .inl (a4 l' (λcs x=>by simp[stepG,stepG.exec,G,hm,hto,hx]) (λk cs x=>by simp[stepG,stepG.exec,G,ext,hm,hto,b1]))
    | none=>exact absurd hst (by simp[stepG,stepG.exec,G,hm,hto,hx,hr])
   | region id ops d =>
    cases d with
    | false=>exact .inl (a4 (.inRegion ops (List.range ops.size)::l) (λcs x=>by simp[stepG,stepG.exec,G,hm,hto]) (λk cs x=>by simp[stepG,stepG.exec,G,ext,hm,hto]))
    | true =>
     have e:∀cs x,stepG P true (G fr cs) x=.go (G {fr with todo:=.inRegion ops (Region.schedule (P.follows .mixedOrders) ops (x.tape x.drawn (.order fr.fn id)))::l} cs) {x with drawn:=x.drawn+1} #[]:=λcs x=>by
      simp[stepG,stepG.exec,G,hm,hto,choose,Sem.run,Question.forced,Question.cut]
     have ex:∀k cs x,stepG P true (G (ext k fr) cs) x=.go (G {fr with todo:=.inRegion ops (Region.schedule (P.follows .mixedOrders) ops (x.tape x.drawn (.order fr.fn id)))::(l++k)} cs) {x with drawn:=x.drawn+1} #[]:=λk cs x=>by
      simp[stepG,stepG.exec,G,ext,hm,hto,choose,Sem.run,Question.forced,Question.cut]
     rw[e] at hst;cases hst
     exact .inl ⟨_,rfl,λcw=>e cw w,λ_ k cw=>ex k cw w⟩
   | rangeFunc=>cases hc
   | goto=>cases hc
   | refuse=>cases hc
  | _=>exact hi.elim
end
end Go.Proofs.YtcgkgmmclfeohaaGreatDoor
namespace Go.Proofs.YtcgkgmmclfeohaaGreatDoor
open Go.Proofs.Tryz
open Go.Conc Go.ConcN
open Go.ConcR (KK wgBlock WgAt stA smA rd wr mk Payload DC0 g_of_ofEvents ofEvent_mk)
instance payZ:Payload:=⟨3⟩
structure L6 where
 P:Program
 ty:TypeId
 tS:TypeId
 Wg:Nat
 S:Nat
 Low:Nat
 m0:Nat
 n:Nat
 bit:Nat->Nat
 Shun:Loc->Prop
 t0:Trace
def L6.Sh(p:L6)(l:Loc):Prop:=p.Shun l∨ShN p.Wg l∨ShN p.S l
structure L6.Ok (p:L6):Prop where
 wg:p.Wg<p.Low
 s:p.S<p.Low
 ne:p.Wg≠p.S
 m0:1<=p.m0
 shun:∀l,p.Shun l->∃a,l=.cell a/\a.block<p.Low/\a.block≠p.Wg/\a.block≠p.S
 n:p.n<2147483648
 bits:sumTo p.n p.bit<4294967296
theorem L6.Ok.low{p:L6}(o:p.Ok){a:Addr}(h:p.Sh (.cell a)):a.block<p.Low:=by
 rcases h with h|⟨b,e,hb⟩|⟨b,e,hb⟩
 ·obtain⟨b,e,hb,_⟩:=o.shun _ h;cases e;exact hb
 ·cases e;rw[hb];exact o.wg
 ·cases e;rw[hb];exact o.s
def UF(p:L6)(ow:Nat->Nat)(h g:Nat)(x:Touch):Prop :=
 ((ShN p.Wg x.loc∨ShN p.S x.loc)/\x.kind≠.plain/\(x.kind=.said->g=0))∨
 (x.kind=.plain/\∃a,x.loc=.cell a/\¬p.Sh x.loc/\((a.block<p.Low/\x.write=false)∨(p.Low<=a.block/\a.block<h/\ow a.block=g)))
def TIn(p:L6)(t:Trace)(ow:Nat->Nat)(h N i:Nat)(op:MemOp)(x:Touch):Prop :=
 (op.g=0∨(p.m0<=op.g/\op.g<N))/\(((ShN p.Wg x.loc∨ShN p.S x.loc)/\x.kind≠.plain/\(x.kind=.said->op.g=0))∨(x.kind=.plain/\∃a,x.loc=.cell a/\¬p.Sh x.loc/\((a.block<p.Low/\x.write=false)∨(p.Low<=a.block/\a.block<h/\Knows t (ow a.block) i))))
structure TI (p:L6) (t:Trace) (ow:Nat->Nat) (h N:Nat):Prop where
 pre:∃u,t=p.t0++u
 nr:∀said,¬Race said t
 k0:∀k,(k=0∨(p.m0<=k/\k<N))->∀i a,i<p.t0.size->touchAt t i=some a->¬p.Shun a.loc->Knows t k i
 inn:∀i op x,p.t0.size<=i->t[i]?=some op->op.act.touch?=some x->TIn p t ow h N i op x
theorem TIn.app{p:L6}{t:Trace}{ow:Nat->Nat}{h N i:Nat}{op:MemOp}{x:Touch}(u:Trace)(k:TIn p t ow h N i op x):TIn p (t++u) ow h N i op x :=
 ⟨k.1,k.2.imp id λ⟨h1,a,h2,h3,h4⟩=>⟨h1,a,h2,h3,h4.imp id λ⟨h5,h6,h7⟩=>⟨h5,h6,h7.app u⟩⟩⟩
theorem TI.app{p:L6}{t u:Trace}{ow:Nat->Nat}{h N g:Nat}(o:p.Ok)(k:TI p t ow h N)(hg:∀op∈u,op.g=g)
  (hu:∀op∈u,∀x,op.act.touch?=some x->(g=0∨(p.m0<=g/\g<N))/\UF p ow h g x):TI p (t++u) ow h N:=by
 obtain⟨u0,e0⟩:=k.pre;have b0:p.t0.size<=t.size:=by rw[e0];simp
 have a8:∀{i:Nat} {a:Touch},i<p.t0.size->touchAt (t++u) i=some a->touchAt t i=some a:=λ{i a} hi ha=>by
  obtain⟨z,hz,a1⟩:=touch_of ha;rcases getElem?_append_cases hz with⟨_,hz'⟩|⟨hi',_⟩
  ·rw[touchAt_of hz'];exact a1
  ·omega
 refine⟨⟨u0++u,by rw[e0,Array.append_assoc]⟩,λsaid=>?_,λk' hk i a hi ha hs=>(k.k0 k' hk i a hi (a8 hi ha) hs).app u,λi op x hi ho hx=>?_⟩
 ·refine noRace_append (k.nr said) hg (λi a ha op a3 b hb hc=>?_);obtain⟨a4,h1|⟨a5,ad,hl,a2,a0⟩⟩:=hu op a3 b hb
  ·have a2:¬p.Shun a.loc:=λhs=>by
    obtain⟨ad,e,_,h2,h3⟩:=o.shun _ hs;rw[hc.1] at e;rcases h1.1 with⟨b',e',hb'⟩|⟨b',e',hb'⟩<;>(rw[e] at e';cases e';omega)
   rcases Nat.lt_or_ge i p.t0.size with hi|hi
   ·exact k.k0 g a4 i a hi ha a2
   ·obtain⟨z,hz,a1⟩:=touch_of ha;rcases (k.inn i z a hi hz a1).2 with⟨_,h2,h3⟩|⟨_,ad,hl,hns',_⟩
    ·obtain⟨_,_,_,a0⟩:=hc;rcases a0 with x|x|⟨_,x,y⟩
     ·exact absurd x h2
     ·exact absurd x h1.2.1
     ·have:=knows_own hz;rw[h3 x] at this;rw[h1.2.2 y];exact this
    ·exact absurd (.inr (by rw[hc.1];exact h1.1)) hns'
  ·have a9:a.loc=.cell ad:=hc.1.trans hl;have a6:¬p.Sh a.loc:=by rw[hc.1];exact a2
   rcases Nat.lt_or_ge i p.t0.size with hi|hi
   ·exact k.k0 g a4 i a hi ha λhs=>a6 (.inl hs)
   ·obtain⟨z,hz,a1⟩:=touch_of ha;rcases (k.inn i z a hi hz a1).2 with hs|⟨_,ad',hl',_,hcase'⟩
    ·exact absurd (.inr hs.1) a6
    ·rw[a9] at hl';cases hl'
     rcases a0 with⟨hlo,hrd⟩|⟨hlo,_,how⟩
     ·rcases hcase' with⟨_,hrd'⟩|⟨hlo',_⟩
      ·exact absurd hc.2.2.1 (by simp[hrd,hrd'])
      ·omega
     ·rcases hcase' with⟨hlo',_⟩|⟨_,_,hk⟩
      ·omega
      ·rw[how] at hk;exact hk
 ·rcases getElem?_append_cases ho with⟨_,ho'⟩|⟨_,hou⟩
  ·exact (k.inn i op x hi ho' hx).app u
  ·obtain⟨a4,a7⟩:=hu op hou x hx;have a3:=hg op hou;refine⟨by rw[a3];exact a4,?_⟩;rcases a7 with h1|⟨a5,ad,hl,a2,a0⟩
   ·exact .inl ⟨h1.1,h1.2.1,λe=>a3.trans (h1.2.2 e)⟩
   ·refine .inr ⟨a5,ad,hl,a2,a0.imp id λ⟨h1,h2,h3⟩=>⟨h1,h2,?_⟩⟩;have:=knows_own ho;rw[a3] at this;rw[h3];exact this
theorem TI.fresh{p:L6}{t:Trace}{ow:Nat->Nat}{h N:Nat}(g:Nat)(k:TI p t ow h N):TI p t (upd ow h g) (h+1) N :=
 ⟨k.pre,k.nr,k.k0,λi op x hi ho hx=>by
  obtain⟨h1,h2⟩:=k.inn i op x hi ho hx;refine⟨h1,h2.imp id λ⟨h3,a,h4,h5,h6⟩=>⟨h3,a,h4,h5,h6.imp id λ⟨h7,h8,h9⟩=>⟨h7,by omega,?_⟩⟩⟩;rw[upd_ne ow g (by omega)];exact h9⟩
theorem TI.fork{p:L6}{t:Trace}{ow ow':Nat->Nat}{h N:Nat}(k:TI p t ow h N)(hm:p.m0<=N)(hN:1<=N){x y:MemOp}(hx:x.g=0/\x.act=.go N)(hy:y.g=N/\y.act=.start)(h0:Deaf t 0=0)(hk:Deaf t N=0)
  (how:∀b,ow' b=ow b∨(ow b=0/\ow' b=N)):TI p (t ++ #[x,y]) ow' h (N+1):=by
 obtain⟨u0,e0⟩:=k.pre;have a4:p.t0.size<=t.size:=by rw[e0];simp
 have a1:∀op∈#[x,y],∀b,op.act.touch?=some b->False:=by
  intro op hop b hb;simp only[List.mem_toArray,List.mem_cons,List.not_mem_nil,or_false] at hop;rcases hop with rfl|rfl
  ·rw[hx.2] at hb;cases hb
  ·rw[hy.2] at hb;cases hb
 have a2:∀{i:Nat} {z:MemOp} {a:Touch},(t ++ #[x,y])[i]?=some z->z.act.touch?=some a->t[i]?=some z:=λ{i z a} hz a0=>by
  rcases getElem?_append_cases hz with⟨_,hz'⟩|⟨_,hzu⟩
  ·exact hz'
  ·exact (a1 z hzu a a0).elim
 refine⟨⟨u0 ++ #[x,y],by rw[e0,Array.append_assoc]⟩,λsaid=>?_,λk' hk' i a hi ha hs=>?_,λi op z hi ho hz=>?_⟩
 ·have e:t ++ #[x,y]=(t ++ #[x]) ++ #[y]:=by apply Array.ext';simp
  rw[e]
  refine noRace_append (g:=N) (noRace_append (g:=0) (k.nr said) (λop hop=>by simp at hop;rw[hop];exact hx.1) (λi a _ op hop b hb _=>(a1 op (by simp at hop ⊢;exact .inl hop) b hb).elim))
   (λop hop=>by simp at hop;rw[hop];exact hy.1) (λi a _ op hop b hb _=>(a1 op (by simp at hop ⊢;exact .inr hop) b hb).elim)
 ·obtain⟨z,hz,a0⟩:=touch_of ha;have a3:touchAt t i=some a:=by rw[touchAt_of (a2 hz a0)];exact a0
  by_cases e:k'=N
  ·subst e;exact fork_knows hx hy h0 hk (k.k0 0 (.inl rfl) i a hi a3 hs)
  ·exact (k.k0 k' (by omega) i a hi a3 hs).app _
 ·obtain⟨h1,h2⟩:=k.inn i op z hi (a2 ho hz) hz;refine⟨h1.imp id λh=>⟨h.1,by omega⟩,h2.imp id λ⟨h3,a,h4,h5,h6⟩=>⟨h3,a,h4,h5,h6.imp id λ⟨h7,h8,h9⟩=>⟨h7,h8,?_⟩⟩⟩;rcases how a.block with e|⟨e1,e2⟩
  ·rw[e];exact h9.app _
  ·rw[e1] at h9;rw[e2];exact fork_knows hx hy h0 hk h9
theorem TI.start{p:L6}{B h N:Nat}(hf:Fr p.Shun B p.t0)(hN:N<=p.m0):TI p p.t0 (λ_=>0) h N:=by
 refine⟨⟨#[],by simp⟩,hf.past.clean,λk hk i a hi ha hs=>?_,λi op x hi ho _=>?_⟩
 ·have e:k=0:=by omega
  subst e;exact (hf.known i a ha).elim id λh=>absurd h.1 hs
 ·have:=lt_size_of_getElem? ho;omega
def Lj(p:L6)(t:Trace):Prop:=∀i,p.t0.size<=i->t.act? i≠some (.mark (.release (stA p.Wg)))
theorem Lj.app{p:L6}{t u:Trace}(h:Lj p t)(hu:∀op∈u,op.act≠.mark (.release (stA p.Wg))):Lj p (t++u):=by
 intro i hi e;obtain⟨op,ho,a0⟩:=B6.1 e;rcases getElem?_append_cases ho with⟨_,ho'⟩|⟨_,hou⟩
 ·exact h i hi (by rw[act?_of ho',a0])
 ·exact hu op hou a0
theorem AaA(x:MemAct):∃B,x.low B:=by
 cases x with
 | access e =>
  obtain⟨l,wr,sy⟩:=e;cases l with
  | cell a=>exact⟨a.block+1,Nat.lt_succ_self _⟩
  | obj r=>exact⟨r+1,Nat.lt_succ_self _⟩
  | _=>exact⟨0,trivial⟩
 | mark m=>cases m<;>first|exact⟨0,trivial⟩|exact⟨_,Nat.lt_succ_self _⟩
 | go _|start=>exact⟨0,trivial⟩
 | send _ _|sendDone _ _|recv _ _ _|recvDone _ _|close _|recvClosed _=>exact⟨_,Nat.lt_succ_self _⟩
theorem AcQ(B:Nat)(t:Trace):∃B',B<=B'/\∀op∈t,op.act.low B':=by
 have a0:∀l:List MemOp,∃B',B<=B'/\∀op∈l,op.act.low B':=λl=>by
  induction l with
  | nil=>exact⟨B,A3 _,by simp⟩
  | cons x l ih =>
   obtain⟨b1,h1,h2⟩:=ih;obtain⟨b2,h3⟩:=AaA x.act;refine⟨max b1 b2,B4 h1 (Nat.le_max_left _ _),λe he=>?_⟩;rcases List.mem_cons.1 he with rfl|he
   ·exact MemAct.low_mono (Nat.le_max_right _ _) h3
   ·exact MemAct.low_mono (Nat.le_max_left _ _) (h2 e he)
 obtain⟨B',h1,h2⟩:=a0 t.toList;exact⟨B',h1,λop hop=>h2 op (by simpa using hop)⟩
theorem TI.close{p:L6}{t:Trace}{ow:Nat->Nat}{h N B:Nat}(o:p.Ok)(k:TI p t ow h N)(hf:Fr p.Shun B p.t0)(hn:Lj p t)(hd:Deaf t 0=0)
  (rel:∀g,p.m0<=g->g<N->∃r,RelBy (stA p.Wg) t g r/\p.t0.size<=r) {y:MemOp} (hy0:y.g=0) (hya:y.act=.mark (.acquire (stA p.Wg))):∃B',B<=B'/\Fr p.Sh B' (t ++ #[y]):=by
 obtain⟨u0,e0⟩:=k.pre;have b9:p.t0.size<=t.size:=by rw[e0];simp
 have a2:(t ++ #[y])[t.size]?=some y:=by rw[Array.getElem?_append_right (A3 _)];simp
 have hq:(t ++ #[y]).act? t.size=some (.mark (.acquire (stA p.Wg))):=by rw[act?_of a2,hya]
 have a9:(t ++ #[y]).g? t.size=some 0:=by simp[Trace.g?,hy0]
 have b3:(t ++ #[y]).heard t.size:=⟨0,a9,by rw[deaf_old (A3 _)];exact hd⟩;have b4:Lj p (t ++ #[y]):=hn.app λop hop=>by simp at hop;subst hop;rw[hya];simp
 have b0:∀b,y.act.touch?=some b->False:=λb hb=>by rw[hya] at hb;cases hb
 have a8:∀{i:Nat} {z:MemOp} {a:Touch},(t ++ #[y])[i]?=some z->z.act.touch?=some a->t[i]?=some z:=λ{i z a} hz a0=>by
  rcases getElem?_append_cases hz with⟨_,a1⟩|⟨_,hzu⟩
  ·exact a1
  ·simp at hzu;subst hzu;exact (b0 a a0).elim
 have wk:∀{i g:Nat} {x:Touch},(t ++ #[y]).g? i=some g->touchAt (t ++ #[y]) i=some x->p.m0<=g->g<N->(∃r,HappensBefore (t ++ #[y]) i t.size/\i<=r)∨¬(t ++ #[y]).counts i:=λ{i g x} hgi hx h1 h2=>by
  obtain⟨r,hr,b8⟩:=rel g h1 h2;obtain⟨z,hz,a0⟩:=touch_of hx;have a1:=a8 hz a0;have hi:=lt_size_of_getElem? a1;have a6:r<t.size:=lt_of_act? hr.act;have a5:HappensBefore (t ++ #[y]) r t.size:=.single (.inr ⟨.marked a6 (.inr (by rw[act?_old a6];exact hr.act)) hq (λk hk _=>b4 k (by omega)),(heard_old a6).2 hr.heard,b3⟩);rcases Nat.lt_trichotomy i r with hlt|rfl|hgt
  ·exact .inl ⟨r,.trans (.single (.inl ⟨hlt,g,hgi,by rw[g?_old a6];exact hr.g⟩)) a5,by omega⟩
  ·exact .inl ⟨i,a5,A3 _⟩
  ·refine .inr ?_;rw[counts_old hi];exact hr.after i hgt (by rw[← g?_old (u:=#[y]) hi];exact hgi)
 have a3:∀i a,touchAt (t ++ #[y]) i=some a->Knows (t ++ #[y]) 0 i∨(p.Sh a.loc/\a.kind=.atomic):=λi a ha=>by
  obtain⟨z,hz,a0⟩:=touch_of ha;have a1:=a8 hz a0;rcases Nat.lt_or_ge i p.t0.size with hi|hi
  ·have b5:p.t0[i]?=some z:=by rw[e0,getElem?_append_old hi] at a1;exact a1
   rcases hf.known i a (by rw[touchAt_of b5];exact a0) with h1|h1
   ·refine .inl ?_;rw[e0,Array.append_assoc];exact h1.app _
   ·exact .inr ⟨.inl h1.1,h1.2⟩
  ·obtain⟨hg,b2⟩:=k.inn i z a hi a1 a0;rcases hg with hg|⟨hg1,hg2⟩
   ·have:=knows_own hz;rw[hg] at this;exact .inl this
   ·rcases wk (g:=z.g) (by unfold Trace.g?;rw[hz];rfl) ha hg1 hg2 with⟨_,hb,_⟩|hc
    ·exact .inl ⟨t.size,y,a2,hy0,.inr hb⟩
    ·have b6:p.Sh a.loc->a.kind=.atomic:=λhs=>by
      by_cases e:a.kind=.atomic
      ·exact e
      ·refine absurd ⟨a,by simpa [touchAt] using ha,?_,.inl e⟩ hc;rcases hs with hs|⟨_,e1,_⟩|⟨_,e1,_⟩
       ·obtain⟨_,e1,_⟩:=o.shun _ hs;rw[e1];rfl
       ·rw[e1];rfl
       ·rw[e1];rfl
     rcases b2 with hs|⟨hp,ad,hl,_⟩
     ·exact .inr ⟨.inr hs.1,b6 (.inr hs.1)⟩
     ·exact absurd ⟨a,by simpa [touchAt] using ha,by rw[hl];rfl,.inl (by rw[hp];simp)⟩ hc
 obtain⟨B',hB,a7⟩:=AcQ B (t ++ #[y]);refine⟨B',hB,⟨λsaid=>noRace_append (g:=0) (k.nr said) (λop hop=>by simp at hop;subst hop;exact hy0) (λi a _ op hop b hb _=>by simp at hop;subst hop;exact (b0 b hb).elim),λi a ha _=>a3 i a ha,λi g hgi hne hc=>?_,?_,a7⟩,a3⟩
 ·obtain⟨x,hx,a4,hk⟩:=hc;have b1:touchAt (t ++ #[y]) i=some x:=by simpa [touchAt] using hx
  obtain⟨z,hz,a0⟩:=touch_of b1;have a1:=a8 hz a0;have c1:z.g=g:=by unfold Trace.g? at hgi;rw[hz] at hgi;exact A5 hgi
  rcases Nat.lt_or_ge i p.t0.size with hi|hi
  ·have e1:t ++ #[y]=p.t0++(u0 ++ #[y]):=by rw[e0,Array.append_assoc]
   rw[e1] at hgi hx hk ⊢
   obtain⟨j,hj,hb⟩:=hf.past.over i g (by rw[← g?_old (u:=u0 ++ #[y]) hi];exact hgi) hne ((counts_old hi).1 ⟨x,hx,a4,hk⟩)
   have b7:j<p.t0.size:=by
    unfold Trace.g? at hj;obtain⟨z,hz,_⟩:=B6.1 hj;exact lt_size_of_getElem? hz
   exact⟨j,by rw[g?_old b7];exact hj,hb_app _ hb⟩
  ·obtain⟨hg,_⟩:=k.inn i z x hi a1 a0;rcases wk hgi b1 (by omega) (by omega) with⟨_,hb,_⟩|hc
   ·exact⟨t.size,a9,hb⟩
   ·exact absurd ⟨x,hx,a4,hk⟩ hc
 ·have e:=Deaf_still t 0 #[y] (λop hop=>by simp at hop;subst hop;rw[hya];exact⟨by simp,by simp⟩);exact e.trans hd
def AE(p:L6)(w:World)(s:Int):Prop:=w.heap[p.S]?=some (.cells #[.int .u32 s] p.tS)
def Fu(p:L6)(w:World):Prop:=∃s,AE p w s
def sA(p:L6):Addr:=⟨p.S,0,none⟩
def NV(w:World):Prop:=∀(b:Nat)(c:Array Value)(t:TypeId),w.heap[b]?=some (Obj.pending c t)->gN<=b
theorem NV.one{w w₁:World}{C:Nat}{c:Array Value}{e:TypeId}{f:Nat×Nat}(h:NV w)(hb:∀b,b≠C->w₁.heap[b]?=w.heap[b]?)(hC:w₁.heap[C]?=some (.cells c e f)):NV w₁:=by
 intro b a t hx;by_cases hbc:b=C
 ·subst hbc;rw[hC] at hx;cases hx
 ·rw[hb b hbc] at hx;exact h b a t hx
structure RK (p:L6) (M:Nat->Prop) (w w₁:World):Prop where
 low:∀b,b<p.Low->b≠p.Wg->b≠p.S->w₁.heap[b]?=w.heap[b]?
 own:∀b,M b->w₁.heap[b]?=w.heap[b]?
 size:w.heap.size<=w₁.heap.size
 live:WgLive p.ty p.Wg w->WgLive p.ty p.Wg w₁
 sum:Fu p w->Fu p w₁
structure R0 (p:L6) (M:Nat->Prop) (w w₁:World):Prop where
 tape:w₁.tape=w.tape
 os:w₁.os=w.os
 output:w₁.output=w.output
 nv:NV w->NV w₁
 rk:RK p M w w₁
structure Ar (p:L6) (Z:Nat->Prop) (w w₁:World):Prop where
 tape:w₁.tape=w.tape
 os:w₁.os=w.os
 output:w₁.output=w.output
 nv:NV w->NV w₁
 size:w.heap.size<=w₁.heap.size
 block:∀b,¬Z b->b<w.heap.size->w₁.heap[b]?=w.heap[b]?
 live:WgLive p.ty p.Wg w->WgLive p.ty p.Wg w₁
 sum:Fu p w->Fu p w₁
section
variable {p:L6} {M Z:Nat->Prop} {w w₁ w₂:World}
theorem RK.refl(w:World):RK p M w w:=⟨λ_ _ _ _=>rfl,λ_ _=>rfl,A3 _,id,id⟩
theorem RK.trans(h:RK p M w w₁)(h':RK p M w₁ w₂):RK p M w w₂ :=
 ⟨λb x y z=>(h'.low b x y z).trans (h.low b x y z),λb x=>(h'.own b x).trans (h.own b x),B4 h.size h'.size,h'.live ∘ h.live,h'.sum ∘ h.sum⟩
theorem RK.tr:∀a b c,RK p M a b->RK p M b c->RK p M a c:=λ_ _ _=>RK.trans
theorem R0.refl(w:World):R0 p M w w:=⟨rfl,rfl,rfl,id,.refl w⟩
theorem R0.trans(h:R0 p M w w₁)(h':R0 p M w₁ w₂):R0 p M w w₂:=⟨h'.tape.trans h.tape,h'.os.trans h.os,h'.output.trans h.output,h'.nv ∘ h.nv,h.rk.trans h'.rk⟩
theorem R0.tr:∀a b c,R0 p M a b->R0 p M b c->R0 p M a c:=λ_ _ _=>R0.trans
theorem Ar.refl(w:World):Ar p Z w w:=⟨rfl,rfl,rfl,id,A3 _,λ_ _ _=>rfl,id,id⟩
theorem Ar.at(w:World)(d:Nat):Ar p Z w (w.at d):=⟨rfl,rfl,rfl,id,A3 _,λ_ _ _=>rfl,id,id⟩
theorem Ar.r0(h:Ar p Z w w₁)(hL:p.Low<=w.heap.size)(hZ:∀b,Z b->b=p.Wg∨b=p.S∨p.Low<=b)(hM:∀b,M b->¬Z b/\b<w.heap.size):R0 p M w w₁ :=
 ⟨h.tape,h.os,h.output,h.nv,λb x y z=>h.block b (λhz=>by have:=hZ b hz;omega) (by omega),λb x=>h.block b (hM b x).1 (hM b x).2,h.size,h.live,h.sum⟩
theorem Ar.wg(h:Go.Conc.Aside p.Wg w w₁)(hl:WgLive p.ty p.Wg w₁)(hne:p.Wg≠p.S):Ar p (·=p.Wg) w w₁ :=
 ⟨h.tape,h.os,h.output,λk=>let ⟨_,_,hx⟩:=hl;k.one h.block hx,Nat.le_of_eq h.size.symm,λb hb _=>h.block b hb,λ_=>hl,λ⟨s,hs⟩=>⟨s,(h.block p.S (Ne.symm hne)).trans hs⟩⟩
theorem Ar.su(h:Go.Conc.Aside p.S w w₁)(hl:Fu p w₁)(hne:p.Wg≠p.S):Ar p (·=p.S) w w₁ :=
 ⟨h.tape,h.os,h.output,λk=>let ⟨_,hx⟩:=hl;k.one h.block hx,Nat.le_of_eq h.size.symm,λb hb _=>h.block b hb,λ⟨s,m,hs⟩=>⟨s,m,hs.of_block (h.block p.Wg hne)⟩,λ_=>hl⟩
end
structure Wp (w w₁:World):Prop where
 tape:w₁.tape=w.tape
 os:w₁.os=w.os
 output:w₁.output=w.output
 nv:NV w->NV w₁
 size:w₁.heap.size=w.heap.size+1
 block:∀b,b<w.heap.size->w₁.heap[b]?=w.heap[b]?
def Yu(p:L6)(M:Nat->Prop)(e:Event):Prop :=
 (∀x,(MemAct.ofEvent e).touch?=some x->(ShN p.Wg x.loc/\x.kind≠.plain/\x.kind≠.said)∨
  (x.kind=.plain/\∃a,x.loc=.cell a/\¬p.Sh x.loc/\((a.block<p.Low/\x.write=false)∨M a.block)))/\
 e.loc≠.mark .disable/\e.loc≠.mark .enable/\e.loc≠.mark (.release (stA p.Wg))
structure Fv (M:Nat->Prop) (w w₁:World):Prop where
 tape:w₁.tape=w.tape
 os:w₁.os=w.os
 output:w₁.output=w.output
 nv:NV w->NV w₁
 size:w₁.heap.size=w.heap.size
 block:∀b,¬M b->w₁.heap[b]?=w.heap[b]?
theorem Fv.refl{M:Nat->Prop}(w:World):Fv M w w:=⟨rfl,rfl,rfl,id,rfl,λ_ _=>rfl⟩
def DK(p:L6)(M:Nat->Prop)(w w₁:World)(es:Array Event):Prop:=Fv M w w₁/\∀e∈es,Yu p M e
section
variable {p:L6} {M:Nat->Prop} {w w₁:World}
theorem Ar.gr(h:Wp w w₁)(o:p.Ok)(hL:p.Low<=w.heap.size):Ar p (λ_=>False) w w₁ :=
 ⟨h.tape,h.os,h.output,h.nv,by rw[h.size];omega,λb _ hb=>h.block b hb,λ⟨s,m,hs⟩=>⟨s,m,hs.of_block (h.block _ (by have:=o.wg;omega))⟩,λ⟨s,hs⟩=>⟨s,(h.block _ (by have:=o.s;omega)).trans hs⟩⟩
theorem Ar.ow(h:Fv M w w₁)(hW:¬M p.Wg)(hS:¬M p.S):Ar p M w w₁ :=
 ⟨h.tape,h.os,h.output,h.nv,Nat.le_of_eq h.size.symm,λb hb _=>h.block b hb,λ⟨s,m,hs⟩=>⟨s,m,hs.of_block (h.block _ hW)⟩,λ⟨s,hs⟩=>⟨s,(h.block _ hS).trans hs⟩⟩
end
abbrev No:Nat->Loc->Prop:=λ_ _=>False
def AeL(p:L6)(main:Bool)(K:Nat->Goroutine->World->Prop)(g:Goroutine)(w:World):Prop :=
 g.status=.running/\∃g' w',stepG p.P main g w=.go g' w' #[]/\Wp w w'/\K w.heap.size g' w'
def Ahw(p:L6)(i:Nat)(K:Goroutine->World->Prop)(g:Goroutine)(w:World):Prop :=
 g.status=.running/\∀s:Nat,s+p.bit i<4294967296->AE p w s->
  ∃g',stepG p.P false g w=.go g' (w.setCell (sA p) (.int .u32 ((s+p.bit i:Nat):Int))) #[rd (sA p),wr (sA p)]/\K g' (w.setCell (sA p) (.int .u32 ((s+p.bit i:Nat):Int)))
def Wk(p:L6)(i C:Nat)(v:Value):Nat->(Nat->Prop)->Nat->Goroutine->World->Prop
 | 0,M,m,g,w=>Goes p.P false (RK p M) (DK p M) (AtR0 p.P p.ty p.Wg C 1 0 1 v) m g w
 | 1,M,m,g,w=>Goes p.P false (RK p M) (DK p M) (Ahw p i λg' w'=>∃m',Wk p i C v 0 M m' g' w') m g w
 | e+2,M,m,g,w=>Goes p.P false (RK p M) (DK p M) (AeL p false λb g' w'=>∃m',(p.bit i≠0->Wk p i C v (e+1) (λx=>M x∨x=b) m' g' w')/\(p.bit i=0->Wk p i C v 0 (λx=>M x∨x=b) m' g' w')) m g w
inductive WS (p:L6) (i C:Nat) (v:Value) (M:Nat->Prop):Nat->Nat->Nat->Nat->Goroutine->World->Prop
 | pre {e m:Nat} {g:Goroutine} {w:World}:Wk p i C v e M m g w->WS p i C v M e 7 m 0 g w
 | post {s m d:Nat} {g:Goroutine} {w:World}:s<=6->WSit p.P p.ty p.Wg C 1 No No 0 1 v s m d g w->WS p i C v M 0 s m d g w
section
variable {p:L6} {i C:Nat} {v:Value} {M:Nat->Prop} {e s m d:Nat} {g:Goroutine} {w w₁:World}
theorem RK.rw(h:RK p M w w₁)(hC:M C):RW p.ty p.Wg C 1 0 0 w w₁ :=
 ⟨λb hb=>by omega,h.live,λ⟨cs,hc,hn⟩=>⟨cs,(h.own C hC).trans hc,hn⟩,cell_of_block (h.own C hC) 0⟩
theorem Wk.rely(h:Wk p i C v e M m g w)(hr:RK p M w w₁):Wk p i C v e M m g w₁:=by
 match e,h with
 | 0,h=>unfold Wk at h ⊢;exact Goes.rely RK.tr h hr
 | 1,h=>unfold Wk at h ⊢;exact Goes.rely RK.tr h hr
 | e+2,h=>unfold Wk at h ⊢;exact Goes.rely RK.tr h hr
theorem Wk.running(h:Wk p i C v e M m g w):g.status=.running:=by
 match e,h with
 | 0,h=>unfold Wk at h;exact Goes.running (λ_ _ x=>x.1) w (RK.refl w) h
 | 1,h=>unfold Wk at h;exact Goes.running (λ_ _ x=>x.1) w (RK.refl w) h
 | e+2,h=>unfold Wk at h;exact Goes.running (λ_ _ x=>x.1) w (RK.refl w) h
theorem WS.rely(h:WS p i C v M e s m d g w)(hC:M C)(hr:RK p M w w₁):WS p i C v M e s m d g w₁:=by
 cases h with
 | pre h=>exact .pre (h.rely hr)
 | post hs h=>exact .post hs (h.rely (by simpa using hr.rw hC))
theorem WS.status(h:WS p i C v M e s m d g w):g.status=.running∨g.status=.finished:=by
 cases h with
 | pre h=>exact .inl h.running
 | post _ h=>exact h.status
theorem WS.woken(h:WS p i C v M e s m d g w)(a a':Goroutine)(w':World):woken p.P a a' w' g=g:=by
 unfold Go.Conc.woken;split
 ·exact again_running _ h.status
 ·rfl
theorem WS.running_of(h:WS p i C v M e s m d g w)(hs:s≠1):g.status=.running:=by
 cases h with
 | pre h=>exact h.running
 | post _ h=>exact h.running_of hs
end
section
variable (p:L6) (M:Nat->Prop)
def Cy(k:Mark)(Next:Goroutine->World->Prop)(g:Goroutine)(w:World):Prop :=
 g.status=.running/\∃g',stepG p.P true g w=.go g' w #[mk k]/\∃m,Goes p.P true (R0 p M) DC0 Next m g' w
def AeM(Next:Goroutine->World->Prop)(g:Goroutine)(w:World):Prop :=
 g.status=.running/\∃g' w' es,stepG p.P true g w=.go g' w' es/\DK p M w w' es/\∃m,Goes p.P true (R0 p M) DC0 Next m g' w'
def OB(j:Nat)(Next:Goroutine->World->Prop)(g:Goroutine)(w:World):Prop :=
 g.status=.running/\∃g' child,stepG p.P true g w=.spawn g' child w #[]/\(∃C v e m,M C/\e<=2/\(e=0->p.bit j=0)/\Wk p j C v e M m child w)/\Next g' w
def AaB(Next:Goroutine->World->Prop)(g:Goroutine)(w:World):Prop :=
 g.status=.running/\∀v:Nat,v<2147483647->WgAt p.ty p.Wg w (v*KK) 0->
  ∃g',stepG p.P true g w=.go g' (w.setCell (stA p.Wg) (.int .u64 ((v+1)*KK))) #[rd (stA p.Wg),wr (stA p.Wg)]/\
   ∃m,Goes p.P true (R0 p M) DC0 (Cy p M (.read (smA p.Wg)) (Cy p M .enable Next)) m g' (w.setCell (stA p.Wg) (.int .u64 ((v+1)*KK)))∨Goes p.P true (R0 p M) DC0 (Cy p M .enable Next) m g' (w.setCell (stA p.Wg) (.int .u64 ((v+1)*KK)))
end
section
variable (p:L6)
abbrev Mt:Nat->Prop:=λ_=>False
abbrev T6 (b:Nat):Nat->Prop:=λx=>x=b
def L5(b r:Nat)(Next:Goroutine->World->Prop):Goroutine->World->Prop:=Cy p (T6 b) .disable (AaB p (T6 b) (OB p (T6 b) (p.n-(r+1)) Next))
def L7(r:Nat)(Next:Goroutine->World->Prop):Goroutine->World->Prop :=
 AeL p true λb g' w'=>∃m,Goes p.P true (R0 p (T6 b)) DC0 (AeM p (T6 b) (L5 p b r Next)) m g' w'
def Sp(Into:Goroutine->World->Prop):Nat->Goroutine->World->Prop
 | 0,g,w=>∃m,Goes p.P true (R0 p Mt) DC0 (Cy p Mt .disable Into) m g w
 | r+1,g,w=>∃m,Goes p.P true (R0 p Mt) DC0 (L7 p r (Sp Into r)) m g w
variable (Anch Fin:Goroutine->World->Prop)
def Qz(g:Goroutine)(w:World):Prop:=g.status=.running/\∃g',stepG p.P true g w=.go g' w #[mk (.acquire (stA p.Wg))]/\Fin g' w
def AeN(g:Goroutine)(w:World):Prop :=
 g.status=.running/\(WgAt p.ty p.Wg w 0 0->∃g',stepG p.P true g w=.go g' w #[rd (stA p.Wg)]/\∃m,Goes p.P true (R0 p Mt) DC0 (Cy p Mt .enable (Qz p Fin)) m g' w)
def Wq(g:Goroutine)(w:World):Prop :=
 g.status=.running/\g.offers=none/\((∃st,WgAt p.ty p.Wg w st 0)->stepG p.P true g w=.go {g with status:=.blocked} w #[])/\
  (WgAt p.ty p.Wg w 0 1->∃g',stepG p.P true g w=.go g' (w.setCell (smA p.Wg) (.int .u32 0)) (semEvents (smA p.Wg))/\∃m,Goes p.P true (R0 p Mt) DC0 (AeN p Fin) m g' (w.setCell (smA p.Wg) (.int .u32 0)))
def OC(vs:Nat)(g:Goroutine)(w:World):Prop :=
 g.status=.running/\∀v:Nat,v<2147483648->WgAt p.ty p.Wg w (v*KK) 0->
  (v=vs->∃g',stepG p.P true g w=.go g' (w.setCell (stA p.Wg) (.int .u64 (v*KK+1))) #[rd (stA p.Wg),wr (stA p.Wg)]/\∃m,Goes p.P true (R0 p Mt) DC0 (Cy p Mt (.write (smA p.Wg)) (Wq p Fin)) m g' (w.setCell (stA p.Wg) (.int .u64 (v*KK+1))))/\
  (v≠vs->∃g',stepG p.P true g w=.go g' w #[rd (stA p.Wg)]/\∃m,Goes p.P true (R0 p Mt) DC0 Anch m g' w)
def Gp(g:Goroutine)(w:World):Prop :=
 g.status=.running/\∀v:Nat,v<2147483648->WgAt p.ty p.Wg w (v*KK) 0->∃g',stepG p.P true g w=.go g' w #[rd (stA p.Wg)]/\
  (v=0->∃m,Goes p.P true (R0 p Mt) DC0 (Cy p Mt .enable (Qz p Fin)) m g' w)/\(v≠0->∃m,Goes p.P true (R0 p Mt) DC0 (OC p Anch Fin v) m g' w)
inductive CS:CTag->Nat->Nat->Nat->Nat->(Nat->Prop)->Goroutine->World->Prop
 | al {r m:Nat} {g:Goroutine} {w:World}:r<p.n->Goes p.P true (R0 p Mt) DC0 (L7 p r (Sp p Anch r)) m g w->CS (.sp r 7) 0 (p.n-(r+1)) m 0 Mt g w
 | ow {r m b:Nat} {g:Goroutine} {w:World}:r<p.n->Goes p.P true (R0 p (T6 b)) DC0 (AeM p (T6 b) (L5 p b r (Sp p Anch r))) m g w->CS (.sp r 6) 0 (p.n-(r+1)) m 0 (T6 b) g w
 | kd5 {r m b:Nat} {g:Goroutine} {w:World}:r<p.n->Goes p.P true (R0 p (T6 b)) DC0 (L5 p b r (Sp p Anch r)) m g w->CS (.sp r 5) 0 (p.n-(r+1)) m 0 (T6 b) g w
 | a1 {r m b:Nat} {g:Goroutine} {w:World}:r<p.n->Goes p.P true (R0 p (T6 b)) DC0 (AaB p (T6 b) (OB p (T6 b) (p.n-(r+1)) (Sp p Anch r))) m g w->CS (.sp r 4) 0 (p.n-(r+1)) m 1 (T6 b) g w
 | sr {r m b:Nat} {g:Goroutine} {w:World}:r<p.n->Goes p.P true (R0 p (T6 b)) DC0 (Cy p (T6 b) (.read (smA p.Wg)) (Cy p (T6 b) .enable (OB p (T6 b) (p.n-(r+1)) (Sp p Anch r)))) m g w->CS (.sp r 3) 0 (p.n-(r+1)) m 1 (T6 b) g w
 | ke2 {r m b:Nat} {g:Goroutine} {w:World}:r<p.n->Goes p.P true (R0 p (T6 b)) DC0 (Cy p (T6 b) .enable (OB p (T6 b) (p.n-(r+1)) (Sp p Anch r))) m g w->CS (.sp r 2) 0 (p.n-(r+1)) m 1 (T6 b) g w
 | go {r m b:Nat} {g:Goroutine} {w:World}:r<p.n->Goes p.P true (R0 p (T6 b)) DC0 (OB p (T6 b) (p.n-(r+1)) (Sp p Anch r)) m g w->CS (.sp r 1) 0 (p.n-(r+1)) m 0 (T6 b) g w
 | kd {m:Nat} {g:Goroutine} {w:World}:Goes p.P true (R0 p Mt) DC0 (Cy p Mt .disable Anch) m g w->CS .kd 0 p.n m 0 Mt g w
 | anch {m:Nat} {g:Goroutine} {w:World}:Goes p.P true (R0 p Mt) DC0 Anch m g w->CS .anch 0 p.n m 1 Mt g w
 | w1 {m:Nat} {g:Goroutine} {w:World}:Goes p.P true (R0 p Mt) DC0 (Gp p Anch Fin) m g w->CS .w1 0 p.n m 1 Mt g w
 | w2 {vs m:Nat} {g:Goroutine} {w:World}:Goes p.P true (R0 p Mt) DC0 (OC p Anch Fin vs) m g w->CS (.w2 vs) 0 p.n m 1 Mt g w
 | sw {m:Nat} {g:Goroutine} {w:World}:Goes p.P true (R0 p Mt) DC0 (Cy p Mt (.write (smA p.Wg)) (Wq p Fin)) m g w->CS .w3 1 p.n m 1 Mt g w
 | w3 {m:Nat} {g:Goroutine} {w:World}:Goes p.P true (R0 p Mt) DC0 (Wq p Fin) m g w->CS .w3 0 p.n (m+1) 1 Mt g w
 | blk {g:Goroutine} {w:World}:(∀w₁,R0 p Mt w w₁->Wq p Fin g w₁)->CS .blk 0 p.n 0 1 Mt {g with status:=.blocked} w
 | w4 {m:Nat} {g:Goroutine} {w:World}:Goes p.P true (R0 p Mt) DC0 (AeN p Fin) m g w->CS .w4 0 p.n m 1 Mt g w
 | ke {m:Nat} {g:Goroutine} {w:World}:Goes p.P true (R0 p Mt) DC0 (Cy p Mt .enable (Qz p Fin)) m g w->CS .ke 0 p.n m 1 Mt g w
 | acq {m:Nat} {g:Goroutine} {w:World}:Goes p.P true (R0 p Mt) DC0 (Qz p Fin) m g w->CS .acq 0 p.n m 0 Mt g w
end
end Go.Proofs.YtcgkgmmclfeohaaGreatDoor
namespace Go.Proofs.YtcgkgmmclfeohaaGreatDoor
open Go.Proofs.Tryz
open Go.RowKit
def Bo(w:World)(tb:Nat)(tg:List BA)(ts:List Tr):Prop :=
 ∃rv,CB w tb [rv,.int .u64 (G4 tg (U1 ts):Nat)]/\w.ownsRow (tb+1) 108 4 rv ts.length (AN tg ts)
theorem Bo.up{w w':World}{tb:Nat}{tg:List BA}{ts:List Tr}(h:Bo w tb tg ts)(hb:Up w w'):Bo w' tb tg ts:=by
 obtain⟨rv,h1,h2⟩:=h;exact⟨rv,h1.up hb h1.2.2,P0 h2 hb⟩
theorem Bo.drewN{w:World}{tb n:Nat}{tg:List BA}{ts:List Tr}(h:Bo w tb tg ts):Bo (w.drewN n) tb tg ts:=h
theorem Bo.lt{w:World}{tb:Nat}{tg:List BA}{ts:List Tr}(h:Bo w tb tg ts):tb<w.heap.size:=by
 obtain⟨rv,h1,-⟩:=h;exact h1.2.2
theorem EN{w:World}{base g cap:Nat}{tg:List BA}{ts:List Tr}(h:w.ownsRow base 108 4 (Sz g ts.length cap) ts.length (AN tg ts)){i:Nat}{p:Tr}(hp:ts[i]?=some p):
  w.cell? ⟨g,i*4,none⟩=some (Tz p.1.nm)/\w.cell? ⟨g,i*4+1,none⟩=some (.int .u64 (G4 tg (D7 p.1.has):Nat))/\w.cell? ⟨g,i*4+2,none⟩=some (.int .u64 (G4 tg (D7 p.1.nd):Nat))/\w.cell? ⟨g,i*4+3,none⟩=some (.bool p.2):=by
 have hi:=(A2.1 hp).1;refine⟨?_,?_,?_,?_⟩
 ·rw[show i*4=i*4+0 by omega,h.cellAt (i*4+0) (by omega),FX tg ts i 0 p hp (by omega)];rfl
 ·rw[h.cellAt (i*4+1) (by omega),FX tg ts i 1 p hp (by omega)];rfl
 ·rw[h.cellAt (i*4+2) (by omega),FX tg ts i 2 p hp (by omega)];rfl
 ·rw[h.cellAt (i*4+3) (by omega),FX tg ts i 3 p hp (by omega)];rfl
theorem KF(a b:Nat)(ha:a<256)(hb:b<512):bits .andNot .u64 (a:Int) (b:Int)=((a &&& (18446744073709551615-b):Nat):Int):=by
 have:=u64_andNot (a:Int) (b:Int) (by omega) (by omega) (by omega) (by omega);simpa using this
set_option maxHeartbeats 2000000 in
theorem AcR(tb at':Nat)(tg:List BA)(ts:List Tr)(p:Tr)(w:World)(h:Bo w tb tg ts)(h8:tg.length<=8)(hp:ts[at']?=some p)(h5:ts.length<=5):
  Calls prog 43 #[Pz tb 0,Iz at'] w λe w'=>e=.returned (.bool (!p.2&&decide (G4 tg (D7 p.1.nd) &&& (18446744073709551615-(G4 tg (U1 ts)+G4 tg (D7 p.1.has)))=0)))/\Up w w':=by
 obtain⟨rv,hC,a0⟩:=h;have hi:=(A2.1 hp).1;obtain⟨g,a6,rfl⟩:=U5 a0 (by omega);obtain⟨r0,r1,r2,r3⟩:=EN a0 hp;obtain⟨t0,t1⟩:=hC.c2';have a4:=hC.2.2;have n1:=U6 h8 (D7 p.1.has);have n2:=U6 h8 (D7 p.1.nd);have n3:=U6 h8 (U1 ts);generalize G4 tg (D7 p.1.has)=hb at *;generalize G4 tg (D7 p.1.nd)=nb at *;generalize G4 tg (U1 ts)=fb at *;clear a0 hC;obtain⟨W1,a3,kX,a1,a7⟩:=cbE1 w [Tz p.1.nm,.int .u64 (hb:Nat),.int .u64 (nb:Nat),.bool p.2] 108;go_in;go_upto_region 2 with fail;try rw[a3]
 clear a3 r0 r1 r2 r3;have x1:=kX.1 1 _ rfl;have x2:=kX.1 2 _ rfl;have x3:=kX.1 3 _ rfl;have f1:=(a1.cell (p:=⟨tb,1,none⟩) a4).trans t1;simp only[Nat.zero_add] at x1 x2 x3;have a5:IntKind.u64.wrap ((fb:Int)+(hb:Int))=((fb+hb:Nat):Int):=by rw[EW (by omega) (by omega)];omega
 have a2:=KF nb (fb+hb) n2 (by omega);cases hgone:p.2
 ·rw[hgone] at x3;go_wp2_with fail;go_quiet (fail);go_wp2_with fail;go_ret;refine⟨J5 ?_,N0 a1 _⟩;rw[hgone,← Int.natCast_add,a2];rw[Bool.eq_iff_iff,beq_iff_eq];simp
 ·rw[hgone] at x3;go_wp2_with fail;go_quiet (fail);go_wp2_with fail;go_ret;exact⟨J5 (by rw[hgone];rfl),N0 a1 _⟩
theorem PI{w:World}{base base' e e' s s' n n':Nat}{v v':Value}{xs xs':List Value}(h:w.ownsRow base e s v n xs)(h':w.ownsRow base' e' s' v' n' xs')(hne:e≠e'):∀g,v.ownBlock=some g->some g≠v'.ownBlock:=λg hg hg'=>by
 rcases h.2 with⟨rfl,_⟩|⟨g1,cap,cur,rfl,_,hh,_⟩
 ·simp[Value.ownBlock] at hg
 ·rcases h'.2 with⟨rfl,_⟩|⟨g2,cap',cur',rfl,_,hh',_⟩
  ·simp[Value.ownBlock] at hg'
  ·simp[Value.ownBlock] at hg hg';subst hg hg';rw[hh] at hh';simp at hh';exact hne hh'.2
theorem Sc{w w':World}{base e s n:Nat}{v:Value}{xs:List Value}{r:Option Nat}(h:w.ownsRow base e s v n xs)(hg:w.grownBy w' r)(hne:∀g,v.ownBlock=some g->some g≠r):w'.ownsRow base e s v n xs:=by
 refine⟨h.1,?_⟩;rcases h.2 with h0|⟨g,cap,cur,hv,hb,hh,q⟩
 ·exact .inl h0
 ·refine .inr ⟨g,cap,cur,hv,hb,?_,q⟩;rw[hg.block g (D2.1 hh).1 (hne g (by rw[hv];rfl))];exact hh
theorem Ll:∀(qs:List Bv)(k:Nat)(p:Bv),qs[k]?=some p->(V6 qs).Perm ((p.2.1,p.1.has)::(p.2.2,p.1.nd)::V6 (qs.eraseIdx k))
 | [],_,_,h=>by simp at h
 | q::r,0,p,h=>by
  obtain rfl:q=p:=by simpa using h
  simp[V6]
 | q::r,k+1,p,h=>by
  have ih:=Ll r k p (by simpa using h);simp only[V6,List.eraseIdx_cons_succ];refine ((ih.cons _).cons _).trans ?_;exact (List.perm_append_comm (l₁:=[(q.2.1,q.1.has),(q.2.2,q.1.nd)]) (l₂:=[(p.2.1,p.1.has),(p.2.2,p.1.nd)])).append_right (V6 (r.eraseIdx k))
theorem Wr{α:Type}(t a b:α)(l:List α):(t::a::b::l).Perm (a::b::t::l):=(List.perm_append_comm (l₁:=[t]) (l₂:=[a,b])).append_right l
theorem M2.front{w:World}{B:Nat}{q:Option Nat}{t:Value×List BA}{ps:List Bv}{k:Nat}{p:Bv}(h:M2 w B q (t::V6 ps))(hp:ps[k]?=some p):M2 w B q ((p.2.1,p.1.has)::(p.2.2,p.1.nd)::t::V6 (ps.eraseIdx k)) :=
 h.perm (((Ll ps k p hp).cons t).trans (Wr _ _ _ _))
theorem M2.back{w:World}{B:Nat}{q:Option Nat}{t:Value×List BA}{ps:List Bv}{k:Nat}{p:Bv}(h:M2 w B q ((p.2.1,p.1.has)::(p.2.2,p.1.nd)::t::V6 (ps.eraseIdx k)))(hk:k<ps.length):M2 w B q (t::V6 (ps.set k p)):=by
 refine h.perm (List.Perm.symm ?_);have h1:=Ll (ps.set k p) k p (by rw[List.getElem?_set_self hk]);rw[List.eraseIdx_set_eq] at h1;exact (h1.cons t).trans (Wr _ _ _ _)
theorem M2.over{w w':World}{B G:Nat}{u:Value}{ss ss':List BA}{fs:List (Value×List BA)}(h:M2 w B (some G) ((u,ss)::fs))(hG:G<w.heap.size)(hg:w.grownBy w' u.ownBlock)(hu:G3 w' B u ss'):M2 w' B (some G) ((u,ss')::fs) :=
 h.app hg hu (λ_ hg=>.inl hg) (λ_ h=>by cases h;exact hG)
theorem M2.off{w w':World}{B G:Nat}{u:Value}{ss:List BA}{fs:List (Value×List BA)}(h:M2 w B (some G) ((u,ss)::fs))(hG:G<w.heap.size)(hg:w.grownBy w' u.ownBlock):w'.heap[G]?=w.heap[G]? :=
 hg.block G hG (λe=>h.av _ List.mem_cons_self G e.symm rfl)
def UG(w:World)(base:Nat)(q:Option Nat)(v:Value)(b:Bk):Prop:=∃a1 c1 a2 c2 ps,v=.agg #[.slice a1 b.tg.length c1,.slice a2 b.bs.length c2]/\BM w base (.slice a2 b.bs.length c2) ps/\ps.map (·.1)=b.bs/\M2 w base q ((.slice a1 b.tg.length c1,b.tg)::V6 ps)/\∀g,(Value.slice a2 b.bs.length c2).ownBlock=some g->some g≠q
theorem K8.off{w:World}{base G:Nat}{v:Value}{b:Bk}(h:K8 w base v b)(hG:w.heap.size<=G):UG w base (some G) v b:=by
 obtain⟨a1,c1,a2,c2,ps,e,h1,h2,h3⟩:=h;refine⟨a1,c1,a2,c2,ps,e,h1,h2,h3.avoid hG,λg hg e=>?_⟩;have:=(h1.1.lt g hg).2;obtain rfl:=A5 e;omega
theorem UG.free{w:World}{base:Nat}{q:Option Nat}{v:Value}{b:Bk}(h:UG w base q v b):K8 w base v b:=by
 obtain⟨a1,c1,a2,c2,ps,e,h1,h2,h3,-⟩:=h;exact⟨a1,c1,a2,c2,ps,e,h1,h2,h3.free⟩
theorem UG.up{w w':World}{base:Nat}{q:Option Nat}{v:Value}{b:Bk}(h:UG w base q v b)(hb:Up w w'):UG w' base q v b:=by
 obtain⟨a1,c1,a2,c2,ps,e,h1,h2,h3,h4⟩:=h;exact⟨a1,c1,a2,c2,ps,e,h1.up hb,h2,h3.up hb,h4⟩
def Ea(bs:List Ba)(at':Int)(tg:List BA)(k:Nat):Prop:=∀(i:Nat)(x:Ba),i<k->(i:Int)≠at'->bs[i]?=some x->P3 x.has tg=false
def Z8(bs:List Ba)(at':Int)(tg:List BA):Prop:=∃(i:Nat)(x:Ba),(i:Int)≠at'/\bs[i]?=some x/\P3 x.has tg=true
theorem Ea.step{bs:List Ba}{a:Int}{tg:List BA}{k:Nat}(h:Ea bs a tg k)(hk:k<bs.length)(h1:(k:Int)=a∨P3 (bs[k]).has tg=false):Ea bs a tg (k+1):=λi x hi hne hx=>by
 by_cases e:i=k
 ·subst e;rw[A0 hk] at hx;obtain rfl:=A5 hx;exact h1.resolve_left hne
 ·exact h i x (by omega) hne hx
theorem AaC{bs:List Ba}{a:Int}{tg:List BA}{k:Nat}(h:Ea bs a tg k)(hk:¬k<bs.length):¬Z8 bs a tg:=λ⟨i,x,hne,hx,hs⟩=>by
 rw[h i x (by have:=(A2.1 hx).1;omega) hne hx] at hs;cases hs
set_option maxHeartbeats 2000000 in
theorem TQ(b:Bk)(v tv:Value)(at':Int)(tg:List BA)(w:World)(h:K6 w v b)(ht:Ls w tv tg):
  Calls prog 31 #[v,.int .i64 at',tv] w λe w'=>e=.returned (.bool (pB (Z8 b.bs at' tg)))/\Up w w':=by
 obtain⟨a1,c1,a2,c2,rfl,h1,h2⟩:=h.parts;obtain⟨a8,a9,rfl,-⟩:=id ht;have hC:CB (w.alloc (.cells #[.slice a1 (b).tg.length c1,.slice a2 (b).bs.length c2] 26)) w.heap.size [.slice a1 b.tg.length c1,.slice a2 b.bs.length c2]:=O7 w _ _;have a0:=(A4 w.heap.size w).alloc (A3 _) (.cells #[.slice a1 (b).tg.length c1,.slice a2 (b).bs.length c2] 26);have g2:=h2.at.1;unfold maxLen at g2;go_in;go_upto_region 1 with fail;generalize w.alloc (.cells #[.slice a1 (b).tg.length c1,.slice a2 (b).bs.length c2] 26)=W1 at *;have l2:=h2.up a0;have lt:=ht.up a0;clear h h1 h2 ht;obtain⟨e0,e1⟩:=hC.c2';obtain⟨-,a5⟩:=l2.at;go_wp2_with fail;go_loop [7] (λi=>∃k:Nat,k<=b.bs.length/\i=.int .i64 k/\Ea b.bs at' tg k) (λi=>b.bs.length-(intOf i).toNat)
 case atStart=>exact⟨0,by omega,rfl,λi _ hi=>by omega⟩
 case round =>
  obtain⟨k,hk,rfl,a6⟩:=hrel;have Hal:Hid (Ea b.bs at' tg k):=a6;clear a6;by_cases hp:k<b.bs.length
  ·obtain⟨bb,o,rfl,hS,hb⟩:=a5 (by omega);by_cases hka:(k:Int)=at'
   ·have a7:((k:Int) != at')=false:=by rw[bne_eq_false_iff_eq];exact hka
    have Hs:Hid (Ea b.bs at' tg (k+1)):=Hal.out.step hp (.inl hka);clear hka;go_wp2_with fail;go_round
    case rel=>exact⟨k+1,by omega,by go_num,Hs.out⟩
    case measure=>simp[intOf];omega
   have a7:((k:Int) != at')=true:=by rw[bne_iff_ne];exact hka
   obtain⟨a3,d3,a4,d4,-,c4,-,l3,-,-⟩:=(hS.at hp).cells;have HY:Hid (P3 (b.bs[k]).has tg=false->Ea b.bs at' tg (k+1)):=λh=>Hal.out.step hp (.inr h);have HN:Hid (P3 (b.bs[k]).has tg=true->Z8 b.bs at' tg):=λh=>⟨k,_,hka,A0 hp,h⟩;clear hka;generalize b.bs[k]=x0 at *;go_wp2_with fail;refine (FM x0.has tg _ _ _ l3 lt).mono ?_;rintro e w' ⟨rfl,hw⟩;obtain rfl:=hw.symm;clear hw;cases hs:P3 x0.has tg
   ·have Hs:Hid (Ea b.bs at' tg (k+1)):=HY.out hs;clear HY HN;go_wp2_with fail;go_round
    case rel=>exact⟨k+1,by omega,by go_num,Hs.out⟩
    case measure=>simp[intOf];omega
   ·have Hs:Hid (Z8 b.bs at' tg):=HN.out hs;clear HY HN;go_wp2_with fail;go_ret;exact⟨J5 (Au Hs.out).symm,a0⟩
  ·have Hs:Hid (¬Z8 b.bs at' tg):=AaC Hal.out hp;go_wp2_with fail;go_ret;exact⟨J5 (AL Hs.out).symm,a0⟩
end Go.Proofs.YtcgkgmmclfeohaaGreatDoor
