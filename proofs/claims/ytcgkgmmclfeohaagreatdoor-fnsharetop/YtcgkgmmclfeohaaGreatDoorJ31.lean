/- Runs carried over, 24: a piece of a function's text that returns. -/
import Derived.Test.YtcgkgmmclfeohaaGreatDoorJ28
import Derived.Test.YtcgkgmmclfeohaaGreatDoorSfx
import Derived.Test.YtcgkgmmclfeohaaGreatDoorRf2
import Derived.OwnWalkIn
import Derived.TacticsInMore
import Derived.LoopIn
import Derived.Shelf.RegionOpen
import Derived.Lib.SlicesCompact
set_option maxRecDepth 100000
set_option maxHeartbeats 2000000
namespace Go.Proofs.YtcgkgmmclfeohaaGreatDoor
open Go.Proofs.Tryz
open Go.Conc
section
variable {P:Program} {X:Nat->Prop} {s:Nat->Bool} {F:Frame->World->Prop}
theorem FQ(fr:Frame)(v:Value):(fr.finish v).mode=fr.mode:=by
 unfold Frame.finish;split<;>rfl
theorem Nq(fr:Frame)(c:List PanicEntry):(fr.raise c).mode≠.returning:=by
 unfold Frame.raise;split<;>simp_all
theorem YQ(S:M6 P s){fr fr':Frame}{cu cu':List Frame}{w w':World}{es:Array Event}(h:O2 P s fr)(hm:fr.mode=.run)(hne:fr.todo≠[])(hw:S6 (λ_=>False) w w)(hst:stepG P true (G fr cu) w=.go (G fr' cu') w' es)(hr':fr'.mode=.returning):fr'.todo≠[]:=by
 have hr:=h.round;have ht:=h.todo;have gi:∀{a b:Frame} {l l':List Frame},G a l=G b l'->a=b:=λe=>congrArg (·.frame) e
 have no:∀{f:Frame} {cs:List Frame} {x:World} {e:Array Event},stepG P true (G fr cu) w=.go (G f cs) x e->f.mode≠.returning->False:=λ{f cs x e} e1 hf=>by
  rw[e1] at hst;injection hst with e2
  exact hf (gi e2 ▸ hr')
 cases hto:fr.todo with
 | nil=>exact absurd hto hne
 | cons it l =>
  rw[hto] at ht;have hi:X6 P s it:=ht it (by simp);have a1:∀l':List Item,({fr with todo:=l'}:Frame).mode≠.returning:=λl'=>by simp[hm]
  have a0:∀(l':List Item)(x:World)(e:Array Event),stepG P true (G fr cu) w=.go (G {fr with todo:=l'} cu) x e->fr'.todo≠[]:=λl' x e e1=>(no e1 (a1 l')).elim;have a2:∀(v:Value)(x:World)(e:Array Event),stepG P true (G fr cu) w=.go (G (fr.finish v) cu) x e->fr'.todo≠[]:=λv x e e1=>(no e1 (by rw[FQ,hm];simp)).elim;cases it with
  | inBlock id=>exact a0 l w #[] (by simp[stepG,stepG.exec,G,hm,hto])
  | inScope b=>exact a0 l w #[] (by simp[stepG,stepG.exec,G,hm,hto])
  | inLoop b=>exact a0 (.code b::.inLoop b::l) w #[] (by simp[stepG,stepG.exec,G,hm,hto])
  | inRegion ops ord =>
   cases ord with
   | nil=>exact a0 l w #[] (by simp[stepG,stepG.exec,G,hm,hto])
   | cons i rest =>
    cases ho:ops[i]? with
    | none=>exact a2 undef w #[] (by simp[stepG,stepG.exec,G,hm,hto,ho])
    | some o =>
     cases hwt:Region.wanted o (yielded ops fr.tmps) with
     | false=>exact a2 undef w #[] (by simp[stepG,stepG.exec,G,hm,hto,ho,hwt])
     | true =>
      have a3:Gm P s o.op=true:=hi i (by simp) o ho;obtain⟨q1,q2⟩:=Qx (X:=λ_=>False) S fr o a3;have hk:(fr.kind==CallKind.early)=false:=by rw[h.kind];rfl
      have e:stepG P true (G fr cu) w=stepG.apply P true fr cu none (execOp fr.eval o) w:=by
       simp[stepG,stepG.exec,G,hm,hto,ho,hwt,stepG.oper,Frame.oper?,hr]
      rw[e] at hst;exfalso
      unfold stepG.apply at hst;generalize hu:(execOp fr.eval o).runT P w #[]=ru at hst;simp only[hk,hto,if_true,Bool.false_eq_true,if_false] at hst;match ru,hu,hst with
      | (.ok n u1,eu),hu,hst =>
       rcases q2 _ _ _ _ _ hu with (⟨v,rfl⟩|rfl)|⟨f,args,hf,rfl⟩<;>simp only[GStep.after] at hst<;>injection hst with e2
       ·have:=gi e2;rw[← this,FQ,hm] at hr';cases hr'
       ·have:=gi e2;rw[← this,FQ,hm] at hr';cases hr'
       ·have:=gi e2;rw[← this] at hr';cases hr'
      | (.halt k u1,eu),hu,hst =>
       have h0:=D3.sane q1 (hw 0) hu;cases k with
       | panic v =>
        simp only[GStep.after] at hst;injection hst with e2
        have:=gi e2;rw[← this] at hr';exact Nq _ _ hr'
       | stuck x=>simp only[GStep.after] at hst;cases hst
       | unsupported x =>
        cases x with
        | initOrder g =>
         have hg:gN<=g:=by simpa [Ek] using h0
         rcases FK (fr:=fr) S hg cu u1 with⟨o,x,es,e⟩|⟨c,t,hp,hfo,e⟩
         ·simp only[e,GStep.after] at hst;cases hst
         ·simp only[e,GStep.after] at hst;injection hst with e2
          have:=gi e2;rw[← this,hm] at hr';cases hr'
        | _=>first|(cases h0;done)|(simp only[GStep.after] at hst;cases hst)
       | _=>cases h0
  | code c =>
   have hc:O0 P s c=true:=hi;cases c with
   | skip=>exact a0 l w #[] (by simp[stepG,stepG.exec,G,hm,hto])
   | label b=>exact a0 l w #[] (by simp[stepG,stepG.exec,G,hm,hto])
   | seq a b=>exact a0 (.code a::.code b::l) w #[] (by simp[stepG,stepG.exec,G,hm,hto])
   | block id b=>exact a0 (.code b::.inBlock id::l) w #[] (by simp[stepG,stepG.exec,G,hm,hto])
   | loop b=>exact a0 (.code b::.inLoop b::l) w #[] (by simp[stepG,stepG.exec,G,hm,hto])
   | scope b=>exact a0 (.code b::.inScope b::l) w #[] (by simp[stepG,stepG.exec,G,hm,hto])
   | cond c a b =>
    cases hv:fr.eval c with
    | bool t=>exact a0 (.code (if t then a else b)::l) w #[] (by simp only[stepG,stepG.exec,G,hm,hto,hv])
    | _=>exact absurd hst (by simp only[stepG,stepG.exec,G,hm,hto,hv];intro e;cases e)
   | ret =>
    have e1:stepG P true (G fr cu) w=.go (G {fr with mode:=.returning} cu) w #[]:=by simp[stepG,stepG.exec,G,hm,hto,hr]
    rw[e1] at hst;injection hst with e2
    rw[← gi e2];simp[hto]
   | exit id =>
    cases hx:exitTo id l with
    | some l'=>exact a0 l' w #[] (by simp[stepG,stepG.exec,G,hm,hto,hx])
    | none=>exact absurd hst (by simp[stepG,stepG.exec,G,hm,hto,hx,hr])
   | region id ops d =>
    cases d with
    | false=>exact a0 (.inRegion ops (List.range ops.size)::l) w #[] (by simp[stepG,stepG.exec,G,hm,hto])
    | true=>exact a0 (.inRegion ops (Region.schedule (P.follows .mixedOrders) ops (w.tape w.drawn (.order fr.fn id)))::l) {w with drawn:=w.drawn+1} #[] (by simp[stepG,stepG.exec,G,hm,hto,choose,Sem.run,Question.forced,Question.cut])
   | rangeFunc=>cases hc
   | goto=>cases hc
   | refuse=>cases hc
  | _=>exact hi.elim
theorem YR{fr c:Frame}{cs:List Frame}{w w':World}{g':Goroutine}{es:Array Event}(h:O2 P s fr)(hm:fr.mode≠.run)(hst:stepG P true (G fr (c::cs)) w=.go g' w' es):(∃v,g'=G (c.finish v) cs)∨∃ch,g'=G (c.raise ch) cs:=by
 obtain⟨fn,hf⟩:=h.fn;cases hmo:fr.mode with
 | run=>exact absurd hmo hm
 | returning =>
  generalize hu:(results fn fr.tmps).runT P w #[]=ru at hst;simp only[stepG,G,hmo,unwind,h.defers,hf,hu,doReturn,h.kind] at hst;match ru,hst with
  | (.ok v u1,eu),hst=>simp only[GStep.after] at hst;injection hst with e;exact .inl ⟨v,e.symm⟩
  | (.halt k u1,eu),hst=>cases k<;>(simp only[GStep.after] at hst;cases hst)
 | panicking ch =>
  have a0:fr.catches P=false:=by unfold Frame.catches;rw[hf]
  simp only[stepG,G,hmo,unwind,h.defers,a0,Bool.false_eq_true,if_false] at hst;injection hst with e
  exact .inr ⟨ch,e.symm⟩
theorem AaS(S:M6 P s){fr fr':Frame}{seg seg' bw:List Frame}{w w':World}{es:Array Event}(h:O2 P s fr)(hg:EX fr seg)(hw:S6 (λ_=>False) w w)(hst:stepG P true (G fr (seg++bw)) w=.go (G fr' (seg'++bw)) w' es):
  (fr.mode=.run/\(seg'=seg∨seg'=fr::seg))∨∃c t,seg=c::t/\seg'=t/\((∃v,fr'=c.finish v)∨∃ch,fr'=c.raise ch):=by
 have gi:∀{a b:Frame} {l l':List Frame},G a l=G b l'->a=b/\l=l':=λe=>⟨congrArg (·.frame) e,congrArg (·.callers) e⟩;by_cases hm:fr.mode=.run
 ·refine .inl ⟨hm,?_⟩;rcases Sb S h hm hw hst with⟨f1,a1,-,-⟩|⟨f1,a1,-,-,-⟩
  ·exact .inl (List.append_cancel_right (gi a1).2)
  ·refine .inr ?_;have:=(gi a1).2;rw[← List.cons_append] at this;exact List.append_cancel_right this
 ·cases seg with
  | nil=>exact (hg.elim (λhg=>absurd hg hm) λhg=>absurd rfl hg)
  | cons c t =>
   refine .inr ⟨c,t,rfl,?_⟩;rcases YR h hm hst with⟨v,e⟩|⟨ch,e⟩
   ·obtain⟨e1,e2⟩:=gi e;exact⟨List.append_cancel_right e2,.inl ⟨v,e1⟩⟩
   ·obtain⟨e1,e2⟩:=gi e;exact⟨List.append_cancel_right e2,.inr ⟨ch,e1⟩⟩
theorem Afd{P:Program}{l:List Frame}(h:l++[c0 P]=[c0 P]):l=[]:=by
 cases l with
 | nil=>rfl
 | cons a t=>have:=congrArg List.length h;simp at this
theorem ON(S:M6 P s)(bar:Item)(hbar:∀(fr:Frame)(x:World),fr.mode=.run->fr.roundOf=none->fr.todo=[bar]->∃o y es,stepG P true (G fr [c0 P]) x=.ended o y es):
  ∀(N:Nat) {fr fe:Frame} {seg:List Frame} {u ue:World},O2 P s fr->(∀c∈seg,O2 P s c)->(∀c∈seg,c.todo≠[])->(∀c∈seg,c.mode=.run)->S6 (λ_=>False) u u->(seg=[]->fr.mode=.run)->runN P N (lone fr (seg++[c0 P]) u)=.next (lone fe [c0 P] ue)->fe.mode=.returning->fe.todo=[]->
   ∀(M:Nat) {f2:Frame} {u2:World},runN P M (lone (gx [bar] fr seg [c0 P]).frame (gx [bar] fr seg [c0 P]).callers u)=.next (lone f2 [c0 P] u2)->f2.mode=.returning->False
 | 0,fr,fe,seg,u,ue,h,hs,hn,hrm,hf,hmo,hrun,hre,hto=>by
  intro M f2 u2 hM h2;simp only[runN,Stepped.next.injEq] at hrun;obtain⟨e1,e2,e3⟩:=Aj hrun;have:=hmo (Afd e2);rw[e1,hre] at this;cases this
 | N+1,fr,fe,seg,u,ue,h,hs,hn,hrm,hf,hmo,hrun,hre,hto=>by
  intro M f2 u2 hM h2
  have hgo:EX fr seg:=by
   by_cases e:seg=[]
   ·exact .inl (hmo e)
   ·exact .inr e
  have a6:∀(q:Frame)(sq:List Frame),gx [bar] q sq [c0 P]=G (gx [bar] q sq [c0 P]).frame (gx [bar] q sq [c0 P]).callers:=λq sq=>by unfold gx;split<;>rfl
  by_cases hend:seg=[]/\fr.todo=[]
  ·obtain⟨rfl,a1⟩:=hend;obtain⟨o,y,es,he⟩:=hbar (ext [bar] fr) u (hmo rfl) h.round (by simp[ext,a1]);have e0:lone (gx [bar] fr [] [c0 P]).frame (gx [bar] fr [] [c0 P]).callers u=lone (ext [bar] fr) [c0 P] u:=rfl;rw[e0] at hM;cases M with
   | zero =>
    simp only[runN,Stepped.next.injEq] at hM;have:=(Aj hM).1;have hq:=hmo rfl;rw[← this] at h2;simp only[ext,hq] at h2;cases h2
   | succ M=>simp only[runN,DZ he] at hM;cases hM
  ·rcases (FN S (X:=λ_=>False) (bu:=[c0 P]) (bw:=[c0 P]) h hs hgo (hf 0)).1 hf with⟨o,x,es,e⟩|⟨fr',seg',u',v',es,e1,e2,a3,a4,⟨m,a5⟩,_⟩
   ·simp only[runN,DZ e] at hrun;cases hrun
   ·rw[e1] at e2;injection e2 with _ e22
    subst e22;have a8:=hf.on a5;have a0:seg=[]->fr.todo≠[]:=λe e'=>hend ⟨e,e'⟩;obtain⟨g1,g2⟩:=OH S [bar] h hgo a0 hn hf e1;rw[a6 fr seg,a6 fr' seg'] at g1;simp only[runN,Ci e1] at hrun;cases M with
    | zero =>
     simp only[runN,Stepped.next.injEq] at hM;obtain⟨q1,q2,_⟩:=Aj hM
     have a2:seg=[]:=by
      cases seg with
      | nil=>rfl
      | cons c t =>
       have hl:((gx [bar] fr (c::t) [c0 P]).callers).length=1:=by rw[q2];rfl
       have hx:∀(c:Frame)(t:List Frame),1<=(Wx [bar] (c::t)).length:=λc t=>by cases t<;>simp[Wx]
       have:=hx c t;simp only[gx,G,A9,List.length_singleton] at hl;omega
     subst a2;have q1:ext [bar] fr=f2:=q1;rw[← q1] at h2;simp only[ext,hmo rfl] at h2;cases h2
    | succ M =>
     simp only[runN,Ci g1] at hM;have a7:=AaS S h hgo hf e1;refine ON S bar hbar N a3 a4 g2 (λc hc=>?_) a8 (λe=>?_) hrun hre hto M hM h2
     ·rcases a7 with⟨hm,rfl|rfl⟩|⟨c1,t1,rfl,rfl,_⟩
      ·exact hrm c hc
      ·rcases List.mem_cons.1 hc with rfl|hc
       ·exact hm
       ·exact hrm c hc
      ·exact hrm c (by simp[hc])
     subst e;cases hm':fr'.mode with
     | run=>rfl
     | returning =>
      exfalso
      have hN:=DG S a3 (λhh=>hh.elim (λhh=>by rw[hm'] at hh;cases hh) λhh=>hh rfl) hrun;subst hN;simp only[runN,Stepped.next.injEq] at hrun;have e3:=(Aj hrun).1;rw[← e3] at hto;by_cases e:seg=[]
      ·subst e;exact YQ S h (hmo rfl) (a0 rfl) hf e1 hm' hto
      ·cases seg with
       | nil=>exact e rfl
       | cons c t =>
        rcases a7 with⟨_,h1|h1⟩|⟨c1,t1,h1,h2',⟨v,h3⟩|⟨ch,h3⟩⟩
        ·cases h1
        ·cases h1
        ·cases h1
         rw[h3,FQ,hrm _ (by simp)] at hm';cases hm'
        ·rw[h3] at hm';exact Nq _ _ hm'
     | panicking ch =>
      exfalso
      have hN:=DG S a3 (λhh=>hh.elim (λhh=>by rw[hm'] at hh;cases hh) λhh=>hh rfl) hrun;subst hN;simp only[runN,Stepped.next.injEq] at hrun;have e3:=(Aj hrun).1;rw[← e3,hm'] at hre;cases hre
abbrev IK (fr:Frame):Prop:=fr.mode=.returning/\fr.todo≠[]
def WF(P:Program)(X:Nat->Prop)(s:Nat->Bool)(F:Frame->World->Prop)(k:List Item)(bw:List Frame)(g:Goroutine)(w:World):Prop :=
 ∃fe,g=G (ext k fe) bw/\O2 P s fe/\M1 X w/\fe.mode=.returning/\∀τ d,F fe (E0 X w τ d)
theorem Afe(S:M6 P s){fr:Frame}{w:World}(h:St P X s IK F fr [] w)(hc:fr.mode≠.run)(k:List Item)(bw:List Frame)(d:Nat):WF P X s F k bw (gx k fr [] bw) (w.at d):=by
 have a0:∀τ d,IK fr/\F fr (E0 X w τ d):=λτ d=>by
  obtain⟨N,fe,ue,hr,a1,hF⟩:=h.ends τ d;have hN:=DG S h.top (λhh=>hh.elim hc (λh=>h rfl)) hr;subst hN;simp only[List.nil_append,runN,Stepped.next.injEq] at hr;obtain⟨e1,_,e3⟩:=Aj hr;subst e1 e3;exact⟨a1,hF⟩
 exact⟨fr,rfl,h.top,h.base.at d,(a0 (λ_ _=>0) 0).1.1,λτ d=>(a0 τ d).2⟩
theorem WG(S:M6 P s){fr:Frame}{w:World}(h:St P X s IK F fr [] w)(hm:fr.mode=.run):fr.todo≠[]:=λht=>by
 obtain⟨N,fe,ue,hr,hmo,hF⟩:=h.ends (λ_ _=>0) 0;have hstep:step P (lone fr [c0 P] (E0 X w (λ_ _=>0) 0))=.next (lone {fr with mode:=.returning} [c0 P] (E0 X w (λ_ _=>0) 0)):=Ci (es:=#[]) (by simp[stepG,stepG.exec,G,hm,ht,h.top.round]);simp only[List.nil_append] at hr;cases N with
 | zero =>
  simp only[runN,Stepped.next.injEq] at hr;have e1:=(Aj hr).1;have h1:=hmo.1;rw[← e1,hm] at h1;cases h1
 | succ N =>
  simp only[runN,hstep] at hr;have hN:=DG S (Le h.top .returning) (λhh=>hh.elim (λhh=>by cases hh) λhh=>hh rfl) hr;subst hN;simp only[runN,Stepped.next.injEq] at hr;have e1:=(Aj hr).1;rw[← e1] at hmo;exact hmo.2 ht
def AaT(P:Program)(X:Nat->Prop)(s:Nat->Bool)(F:Frame->World->Prop)(k:List Item)(bw:List Frame)(x:Frame×List Frame×World):Prop :=
 St P X s IK F x.1 x.2.1 x.2.2/\(∀c∈x.2.1,c.todo≠[])/\¬Bx P X (WF P X s F k bw) (gx k x.1 x.2.1 bw) x.2.2
theorem YS(S:M6 P s)(hF:∀fe u v,S6 (λ_=>False) u v->F fe u->F fe v){k0:List Item}{bw:List Frame}{x:Frame×List Frame×World}(h:AaT P X s F k0 bw x):
  (x.2.1=[]->¬IK x.1)/\∃(d k:Nat)(y:Frame×List Frame×World),AaT P X s F k0 bw y/\y.2.2.tape=x.2.2.tape/\
   ∀τ d0,(∀i q,i<k->τ (d0+i) q=x.2.2.tape (d+i) q)->step P (lone x.1 (x.2.1++[c0 P]) (E0 X x.2.2 τ d0))=.next (lone y.1 (y.2.1++[c0 P]) (E0 X y.2.2 τ (d0+k))):=by
 obtain⟨a0,a1,hn⟩:=h
 have hcut:x.2.1=[]->x.1.mode=.run/\x.1.todo≠[]:=λe=>by
  obtain⟨fr,a5,w⟩:=x;simp only at e;subst e;have hm:fr.mode=.run:=Classical.byContradiction λhno=>hn (.stop λd=>Afe S a0 hno k0 bw d);exact⟨hm,WG S a0 hm⟩
 have hg:EX x.1 x.2.1:=by
  by_cases e:x.2.1=[]
  ·exact .inl (hcut e).1
  ·exact .inr e
 have hE:x.2.1=[]->¬IK x.1:=λe h=>by have:=(hcut e).1;rw[h.1] at this;cases this
 refine⟨hE,Classical.byContradiction λhno=>hn ?_⟩;have hs:=λd=>OA S hF a0 hg hE bw d;let fr':=λd=>Classical.choose (hs d)
 let seg':=λd=>Classical.choose (Classical.choose_spec (hs d))
 let w':=λd=>Classical.choose (Classical.choose_spec (Classical.choose_spec (hs d)))
 let es:=λd=>Classical.choose (Classical.choose_spec (Classical.choose_spec (Classical.choose_spec (hs d))))
 have sp:∀d,∃k,stepG P true (G x.1 (x.2.1++bw)) (x.2.2.at d)=.go (G (fr' d) (seg' d++bw)) (w' d) (es d)/\(∀e∈es d,AJ X e)/\St P X s IK F (fr' d) (seg' d) (w' d)/\(w' d).tape=x.2.2.tape/\(w' d).drawn=d+k/\
   ∀τ d0,(∀i q,i<k->τ (d0+i) q=x.2.2.tape (d+i) q)->step P (lone x.1 (x.2.1++[c0 P]) (E0 X x.2.2 τ d0))=.next (lone (fr' d) (seg' d++[c0 P]) (E0 X (w' d) τ (d0+k))) :=
  λd=>Classical.choose_spec (Classical.choose_spec (Classical.choose_spec (Classical.choose_spec (hs d))))
 have a2:∀d,S6 (λ_=>False) (x.2.2.at d) (x.2.2.at d):=λd n=>⟨rfl,λ_ h=>h.elim,λ_ _=>rfl,λ_ h=>h.elim,a0.base.pend,rfl,rfl,λ_ _ _=>rfl⟩;have gs:=λd=>OH S k0 a0.top hg (λe=>(hcut e).2) a1 (a2 d) (sp d).choose_spec.1;refine .step (by unfold gx;split<;>rfl) (λd=>gx k0 (fr' d) (seg' d) bw) w' es (λd=>(gs d).1) (λd=>(sp d).choose_spec.2.1) (λd=>?_);refine Classical.byContradiction λhr=>hno ?_;obtain⟨k,_,_,a3,a4,_,a6⟩:=sp d;exact⟨d,k,(fr' d,seg' d,w' d),⟨a3,(gs d).2,hr⟩,a4,a6⟩
theorem Nr(S:M6 P s)(hF:∀fe u v,S6 (λ_=>False) u v->F fe u->F fe v)(k:List Item)(bw:List Frame){fr:Frame}{w:World}(h:St P X s IK F fr [] w):Bx P X (WF P X s F k bw) (G (ext k fr) bw) w :=
 Classical.byContradiction λhn=>Mq (B0:=AaT P X s F k bw) (λ_ hx=>YS S hF hx) ⟨h,by simp,hn⟩ h.ends
def EF(P:Program)(fn:Func)(R:Value->World->Prop):Exit->Act->World->Prop
 | .ret,a,u=>bodyPost P fn (λe u'=>∃v,e=.returned v/\R v u') .ret a u
 | _,_,_=>False
theorem Eb{fn:Func}{R:Value->World->Prop}{a:Act}{u:World}{v:Value}(hr:(results fn a.tmps).run P u=.ok v u)(hd:a.defers=[])(hR:R v u):EF P fn R .ret a u:=⟨hd,v,hr,v,rfl,hR⟩
def OO:Item:=.code (.exit 1000000)
theorem Su(fr:Frame)(x:World)(hm:fr.mode=.run)(hr:fr.roundOf=none)(ht:fr.todo=[OO]):∃o y es,stepG P true (G fr [c0 P]) x=.ended o y es :=
 ⟨.stuck "exit, goto: no such block or label" (Frame.pos P fr),x,#[],by simp[stepG,stepG.exec,G,hm,ht,OO,exitTo,hr]⟩
theorem AaU(S:M6 P s){r:Code}(hr:O0 P s r=true){b:Frame}(hb:Cm P b){a:Act}(hd:a.defers=[]){fn:Func}{R:Value->World->Prop}{u:World}(hu:S6 (λ_=>False) u u)(h:r.wp P (EF P fn R) a u){N:Nat}{a':Act}{todo:List Item}{u':World}
  (hN:runN P N (lone (b.at a [.code r]) ([]++[c0 P]) u)=.next (lone {b.at a' todo with mode:=.returning} [c0 P] u')):todo≠[]:=λe=>by
 subst e;have hok:O2 P s (b.at a [.code r]):=hb.ok hd (by intro i hi;simp at hi;subst hi;exact hr);obtain⟨e,a2,u2,hq,harr⟩:=h b [OO] [c0 P];cases e with
 | ret =>
  obtain⟨todo2,M,hM⟩:=harr;exact ON S OO (λfr x h1 h2 h3=>Su fr x h1 h2 h3) N hok (seg:=[]) (by simp) (by simp) (by simp) hu (λ_=>rfl) hN rfl rfl M hM rfl
 | _=>exact hq
theorem KJ(S:M6 P s){r:Code}(hr:O0 P s r=true){b:Frame}(hb:Cm P b){a:Act}(hd:a.defers=[]){fn:Func}(hf:P.funcs[b.fn]?=some fn){w:World}(hw:M1 X w){R:Value->World->Prop}
  (h:∀τ d,AG (λu=>r.wp P (EF P fn R) a u) (E0 X w τ d)) (k:List Item) (c:Frame) (cs:List Frame) :
  Bx P X (Wz X c cs R) (G (b.at a (.code r::k)) (c::cs)) w:=by
 have a3:O2 P s (b.at a [.code r]):=hb.ok hd (by intro i hi;simp at hi;subst hi;exact hr)
 have a7:St P X s IK (II P X w λ_=>R) (b.at a [.code r]) [] w:=by
  refine⟨a3,by simp,hw,λτ d=>?_⟩;obtain⟨u0,h1,h2⟩:=h τ d;obtain⟨e,a',u',hq,a0⟩:=h1 b [] [c0 P];cases e with
  | ret =>
   obtain⟨a4,N,hN⟩:=a0;have a8:=AaU S hr hb hd (h2.trans h2.symm) h1 hN;obtain⟨a5,v,a1,v',e1,hR⟩:=hq;cases e1
   obtain⟨ve,q1,q2⟩:=shift S N a3 (seg:=[]) (by simp) h2 hN;exact⟨N,_,ve,q1,⟨rfl,a8⟩,λ_ _=>0,0,u',v,hR,⟨rfl,a5,hb.kind,fn,hf,a1⟩,q2⟩
  | _=>exact hq.elim
 refine (Nr S KD k (c::cs) a7).bind λg w' ⟨fe,h1,h2,h3,h4,h5⟩=>?_;have hl:Left P X s (II P X w λ_=>R) (c::cs) (G fe (c::cs)) w':=⟨fe,rfl,h4,h2,h3,h5⟩;obtain⟨v,l1,l2,l3⟩:=RY hl;subst h1;refine .step rfl (λ_=>G (c.finish v) cs) (λd=>w'.at d) (λd=>(l1 d).choose) (λd=>?_) (λd=>(l1 d).choose_spec.2) (λd=>.stop λd'=>⟨v,rfl,(l2.at d).at d',λτ d''=>?_⟩)
 ·have hx:=(l1 d).choose_spec.1;generalize (l1 d).choose=ey at hx ⊢
  obtain⟨a6,a2⟩:=h2.fn;simp only[stepG,G,h4,unwind,h2.defers,a2,doReturn,h2.kind] at hx;simp only[stepG,G,ext,h4,unwind,h2.defers,a2,doReturn,h2.kind];generalize (results a6 fe.tmps).runT P (w'.at d) #[]=ru at hx ⊢
  match ru,hx with
  | (.ok v u1,eu),hx=>exact hx
  | (.halt k u1,eu),hx=>cases k<;>(simp only[GStep.after] at hx;cases hx)
 ·obtain⟨τ0,d0,u0,h4,h5⟩:=l3 τ d'';exact⟨u0,h4,h5⟩
end
end Go.Proofs.YtcgkgmmclfeohaaGreatDoor
namespace Go.Proofs.YtcgkgmmclfeohaaGreatDoor
open Go.Proofs.Tryz
open Go.RowKit
theorem AaV{b:Bk}(hok:I8 b){ts:List Tr}(h:ts.map (·.1)=b.bs){gone:List BA}(hG:Fe ts gone){a:Nat}{p:Tr}(hp:ts[a]?=some p):
  (!p.2&&decide (G4 b.tg (D7 p.1.nd) &&& (18446744073709551615-(G4 b.tg (U1 ts)+G4 b.tg (D7 p.1.has)))=0))=true↔Good b.bs gone a:=by
 have hb:=En h hp;rw[Bool.and_eq_true,Bool.not_eq_true',decide_eq_true_eq];constructor
 ·rintro⟨h1,h2⟩;exact⟨p.1,hb,by rw[← hG a p hp];exact h1,(Oi hok h hG hp h1).1 h2⟩
 ·rintro⟨x,hx,h1,h2⟩;rw[hb] at hx;obtain rfl:=A5 hx;have h3:p.2=false:=by rw[hG a p hp];exact h1
  exact⟨h3,(Oi hok h hG hp h3).2 h2⟩
theorem PP(tb:Nat)(b:Bk)(ts:List Tr)(gone:List BA)(w:World)(h:Bo w tb b.tg ts)(hok:I8 b)(hm:ts.map (·.1)=b.bs)(hG:Fe ts gone):
  Calls prog 70 #[Pz tb 0] w λe w'=>((∃k:Nat,e=.returned (.tuple #[Iz k,.bool true])/\Ag b.bs gone (k:Int))∨(e=.returned (.tuple #[Iz 0,.bool false])/\Ag b.bs gone (-1)))/\Up w w':=by
 have hT:=h;obtain⟨rv,hC,a0⟩:=h;have h8:=hok.1.1;have a2:ts.length=b.bs.length:=by rw[← hm];simp
 have h5:ts.length<=5:=by have:=hok.2.1;omega
 have Hlb:Hid (ts.length=b.bs.length):=a2;have HG:Hid (∀(a:Nat)(p:Tr),ts[a]?=some p->((!p.2&&decide (G4 b.tg (D7 p.1.nd) &&& (18446744073709551615-(G4 b.tg (U1 ts)+G4 b.tg (D7 p.1.has)))=0))=true↔Good b.bs gone a)):=λa p hp=>AaV hok hm hG hp
 obtain⟨a6,a7,rfl⟩:∃a c,rv=Vz a ts.length c:=by
  rcases a0.2 with⟨h0,h1⟩|⟨g,cap,_,hv,_⟩
  ·exact⟨none,0,by rw[h0,h1]⟩
  ·exact⟨_,cap,hv⟩
 obtain⟨t0,t1⟩:=hC.c2';clear hC a0 a2 hok hm hG;go_in;go_wp2_with fail;(try dsimp only[Iz,Sz,Sy,Nz,Vz,Tz,Ez,Pz]);go_loopw [4,10] (λ_ i w'=>∃k:Nat,k<=ts.length/\i=.int .i64 k/\(∀j,j<k->¬Good b.bs gone j)/\Up w w') (λ_ i _=>ts.length-(intOf i).toNat)
 case atStart=>exact⟨0,by omega,rfl,λj hj=>by omega,A4 _ _⟩
 case round =>
  obtain⟨k,hk,rfl,a1,hB⟩:=hrel;have Hal:Hid (∀j,j<k->¬Good b.bs gone j):=a1;clear a1;by_cases hp:k<ts.length
  ·have a3:=A0 hp;have HI:=HG.out k _ a3;have HI':Hid ((!(ts[k]).2&&decide (G4 b.tg (D7 (ts[k]).1.nd) &&& (18446744073709551615-(G4 b.tg (U1 ts)+G4 b.tg (D7 (ts[k]).1.has)))=0))=true↔Good b.bs gone k):=HI;clear HI;go_wp2_with fail;refine (AcR tb k b.tg ts _ _ (hT.up hB) h8 a3 h5).mono ?_;rintro e w2 ⟨rfl,a5⟩;have a4:=D4 hB a5;clear hB a5;revert HI'
   generalize (!(ts[k]).2&&decide (G4 b.tg (D7 (ts[k]).1.nd) &&& (18446744073709551615-(G4 b.tg (U1 ts)+G4 b.tg (D7 (ts[k]).1.has)))=0))=cb;intro HI';cases cb
   ·have Hs:Hid (∀j,j<k+1->¬Good b.bs gone j):=FI Hal.out λh=>by have:=HI'.out.2 h;cases this
    clear HI' HG;go_wp2_with fail;go_roundw
    case rel=>exact⟨k+1,by omega,by go_num,Hs.out,a4⟩
    case measure=>simp[intOf];omega
   ·have Hs:Hid (Ag b.bs gone (k:Int)):=.inr ⟨k,rfl,by have:=Hlb.out;omega,HI'.out.1 rfl,Hal.out⟩;clear HI' HG;go_wp2_with fail;go_returns
    exact⟨.inl ⟨k,rfl,Hs.out⟩,a4⟩
  ·have Hs:Hid (Ag b.bs gone (-1)):=.inl ⟨rfl,λj hj=>Hal.out j (by have:=Hlb.out;omega)⟩;go_wp2_with fail;go_returns
   exact⟨.inr ⟨rfl,Hs.out⟩,hB⟩
end Go.Proofs.YtcgkgmmclfeohaaGreatDoor
namespace Go.Proofs.YtcgkgmmclfeohaaGreatDoor
open Go.Proofs.Tryz
open Go.Conc
def xsW:List Nat:=[111,62,63,64,85,86,153,84,158,159,156,139,138]
def Fm:List Nat:=[25,19,87,50,27,28,51,29,21,34,52,22,20,23,26,45,46,47,6,8,10,12,30,31,32,33,53,66,35,44,14,41,43,36,37,38,39,58,54,55,56,67,80,70,71,57,110,72,68,89,88,119,120,123,13,146,60,79,82,113,122,145,4,18,142,61,81,83,112,121,124,49,65,151,143,147,148]++xsW
theorem R4:M6 prog (λg=>Fm.contains g):=PG (x:=xsW) (by
 intro f hf;simp only[xsW,List.mem_cons,List.not_mem_nil,or_false] at hf;rcases hf with rfl|rfl|rfl|rfl|rfl|rfl|rfl|rfl|rfl|rfl|rfl|rfl|rfl
 ·exact AeS
 ·exact Yy
 ·exact AcU
 ·exact AeT
 ·exact AcV
 ·exact AeU
 ·exact AcW
 ·exact AaF
 ·exact AcX
 ·exact AcY
 ·exact AeV
 ·exact AcZ
 ·exact Ada) (by kernel_rfl)
end Go.Proofs.YtcgkgmmclfeohaaGreatDoor
namespace Go.Proofs.YtcgkgmmclfeohaaGreatDoor
open Go.Proofs.Tryz
open Go.RowKit
theorem YT(tb at':Nat)(tg:List BA)(ts:List Tr)(p:Tr)(bs:List Ba)(w:World)(h:Bo w tb tg ts)(h8:tg.length<=8)(hp:ts[at']?=some p)(hg:p.2=false)(hm:ts.map (·.1)=bs)(ha:CQ bs)(h5:ts.length<=5):
  Calls prog 71 #[Pz tb 0,Iz at'] w λe w'=>(∃v,e=.returned v)/\Bo w' tb tg (ts.set at' (p.1,true))/\Below tb w w'/\∀(base:Nat)(u:Value)(ss:List BA),G3 w base u ss->tb<base->G3 w' base u ss:=by
 obtain⟨rv,hC,a0⟩:=h;have hi:=(A2.1 hp).1;obtain⟨g,a4,rfl⟩:=U5 a0 (by omega);have b2:=(a0.lt g rfl).1;obtain⟨r0,r1,r2,r3⟩:=EN a0 hp;obtain⟨⟨t0,t1⟩,u0,u1⟩:=hC.c2;have n1:=U6 h8 (D7 p.1.has);have n3:=U6 h8 (U1 ts);have b3:=VK ha hm hp hg tg;have f3:=a0.frozenAt (at'*4+3);have a5:=a0.stored (at'*4+3) (.bool true);rw[Pn tg ts at' p hp] at a5;obtain⟨W1,a6,a1,a3⟩:∃W1,w.setCell ⟨g,at'*4+3,none⟩ (.bool true)=W1/\W1.ownsRow (tb+1) 108 4 (Sz g ts.length a4) ts.length (AN tg (ts.set at' (p.1,true)))/\w.grownBy W1 (some g):=⟨_,rfl,a5.1,a5.2⟩;clear a5;have a7:=hC.kept a3 (by simp;omega);have a8:(ts.set at' (p.1,true)).length=ts.length:=List.length_set;have a2:W1.ownsRow (tb+1) 108 4 (Sz g (ts.set at' (p.1,true)).length a4) (ts.set at' (p.1,true)).length (AN tg (ts.set at' (p.1,true))):=by rw[a8];exact a1
 obtain⟨-,s1,-,-⟩:=EN a2 (i:=at') (p:=(p.1,true)) (by rw[List.getElem?_set,if_pos rfl,if_pos hi]);have hT:∀x,CB x tb [Sz g ts.length a4,.int .u64 (G4 tg (U1 (ts.set at' (p.1,true))):Nat)]->W1.grownBy x (some tb)->Bo x tb tg (ts.set at' (p.1,true)):=λx h1 h2=>⟨_,h1,by rw[a8];exact J0 a1 h2 (by omega)⟩;have HT:Hid (∀x,CB x tb [Sz g ts.length a4,.int .u64 (G4 tg (U1 (ts.set at' (p.1,true))):Nat)]->W1.grownBy x (some tb)->Bo x tb tg (ts.set at' (p.1,true))):=hT;have b0:Below tb w W1:=⟨a3.os,a3.tape,a3.output,a3.size,λi hi=>a3.block i (Nat.lt_trans hi hC.2.2) (by simp;omega)⟩
 have HO:Hid (∀(base:Nat)(u:Value)(ss:List BA),G3 w base u ss->tb<base->G3 W1 base u ss):=λbase u ss q1 q2=>Sc q1 a3 λg' hg'=>by
  have:=PI q1 a0 (by decide) g' hg';simpa [Value.ownBlock] using this
 clear hT a1 a2 a3 a0;generalize G4 tg (U1 (ts.set at' (p.1,true)))=fb2 at *;generalize G4 tg (D7 p.1.has)=hb at *;generalize G4 tg (U1 ts)=fb at *;have b1:IntKind.u64.wrap ((fb:Int)+(hb:Int))=(fb2:Int):=by rw[EW (by omega) (by omega)];omega
 go_in;go_upto_region 1 with fail;try rw[a6]
 clear a6 r0 r1 r2 r3 t0 t1 u0 u1 f3;obtain⟨⟨t0,t1⟩,u0,u1⟩:=a7.c2;have a9:CB ((W1.setCell ⟨tb,1,none⟩ (.int .u64 (fb2:Nat))).drew) tb [Sz g ts.length a4,.int .u64 (fb2:Nat)]:=CB.set (j:=1) a7 (by simp);have HTx:Hid (Bo ((W1.setCell ⟨tb,1,none⟩ (.int .u64 (fb2:Nat))).drew) tb tg (ts.set at' (p.1,true))):=HT.out _ a9 (Cb (E6 (F4 _ _) _));have HBx:Hid (Below tb w ((W1.setCell ⟨tb,1,none⟩ (.int .u64 (fb2:Nat))).drew)):=(b0.setCell (p:=⟨tb,1,none⟩) (A3 _) _).drew;clear a9 HT;go_wp2_with fail;go_region
 go_end0
 exact⟨⟨_,rfl⟩,HTx.out,HBx.out,λbase u ss q1 q2=>J0 (HO.out base u ss q1 q2) (Cb (E6 (F4 _ _) _)) q2⟩
end Go.Proofs.YtcgkgmmclfeohaaGreatDoor
namespace Go.Proofs.YtcgkgmmclfeohaaGreatDoor
open Go.Proofs.Tryz
open Go Go.RowKit Go.Shelf
attribute [local go_sem] Oper.semAt_some
theorem CB.c1'{w:World}{b:Nat}{x0:Value}(h:CB w b [x0]):At w b 0 x0/\w.frozen? ⟨b,0,none⟩=false:=⟨h.1 0 _ rfl,(h.2.1 0 (by simp)).2⟩
theorem AaW{Z:World}{r:Nat}{x:Value}(h:At Z r 0 x):(loadVar 23 ⟨r,0,none⟩).run prog Z=.ok x Z:=by
 simp[loadVar,isAgg,h,go_sem]
theorem AaX{Z:World}{r:Nat}{x:Value}(h:At Z r 0 x):(loadVar 4 ⟨r,0,none⟩).run prog Z=.ok x Z:=by
 simp[loadVar,isAgg,h,go_sem]
theorem WH{P:Program}{fn:Func}{q q2:Tmp}{T T2:TypeId}(h:fn.results=#[.cell q T,.cell q2 T2]){tmps:Array Value}{Z:World}{r r2:Nat}{x y:Value}
  (ht:tmps.getD q undef=Pz r 0) (ht2:tmps.getD q2 undef=Pz r2 0) (hZ:(loadVar T ⟨r,0,none⟩).run P Z=.ok x Z) (hZ2:(loadVar T2 ⟨r2,0,none⟩).run P Z=.ok y Z):(results fn tmps).run P Z=.ok (.tuple #[x,y]) Z:=by
 have ha:(asAddr (Pz r 0)).run P Z=.ok ⟨r,0,none⟩ Z:=by simp[go_sem]
 have a1:(asAddr (Pz r2 0)).run P Z=.ok ⟨r2,0,none⟩ Z:=by simp[go_sem]
 have a2:tmps[q]?.getD undef=Pz r 0:=by simpa using ht
 have a0:tmps[q2]?.getD undef=Pz r2 0:=by simpa using ht2
 simp only[results,h];simp[Sem.run_bind,Result.andThen,a2,a0,ha,a1,hZ,hZ2]
end Go.Proofs.YtcgkgmmclfeohaaGreatDoor
namespace Go.Proofs.YtcgkgmmclfeohaaGreatDoor
open Go.Proofs.Tryz
def QD(a:List BA)(b:List BA):List BA:=b.foldl U7 a
theorem OP:∀(x y:List UInt8),Op.bytesLess x y=decide (x<y)
 | [],[]=>by simp[Op.bytesLess]
 | _::_,[]=>by simp[Op.bytesLess]
 | [],_::_=>by simp[Op.bytesLess]
 | a::x,b::y=>by
  rw[Op.bytesLess,OP x y];simp only[List.cons_lt_cons_iff];by_cases h1:a<b<;>by_cases h2:a=b<;>by_cases h3:x<y<;>simp[h1,h2,h3]
abbrev Sv:=List UInt8
theorem JL(x:Sv):¬x<x:=List.lt_irrefl x
theorem PQ{x y z:Sv}(h:x<y)(k:y<z):x<z:=List.lt_trans h k
theorem Ado(x y:Sv):x<y∨x=y∨y<x:=by
 rcases Decidable.em (x<y) with h|h
 ·exact .inl h
 ·rcases Decidable.em (y<x) with k|k
  ·exact .inr (.inr k)
  ·exact .inr (.inl (List.le_antisymm (List.not_lt.1 k) (List.not_lt.1 h)))
theorem JM:∀(a b:List Sv),a.Pairwise (· < ·)->b.Pairwise (· < ·)->(∀x,x∈a↔x∈b)->a=b
 | [],[],_,_,_=>rfl
 | [],y::s,_,_,h=>by have:=(h y).2 (by simp);simp at this
 | x::r,[],_,_,h=>by have:=(h x).1 (by simp);simp at this
 | x::r,y::s,ha,hb,h=>by
  obtain⟨ha1,ha2⟩:=List.pairwise_cons.1 ha;obtain⟨hb1,hb2⟩:=List.pairwise_cons.1 hb
  have e:x=y:=by
   rcases List.mem_cons.1 ((h x).1 (by simp)) with e|e
   ·exact e
   ·rcases List.mem_cons.1 ((h y).2 (by simp)) with e'|e'
    ·exact e'.symm
    ·exact absurd (PQ (hb1 x e) (ha1 y e')) (JL _)
  subst e;rw[JM r s ha2 hb2 λz=>?_];constructor
  ·intro hz;rcases List.mem_cons.1 ((h z).1 (by simp[hz])) with e|e
   ·subst e;exact absurd (ha1 z hz) (JL _)
   ·exact e
  ·intro hz;rcases List.mem_cons.1 ((h z).2 (by simp[hz])) with e|e
   ·subst e;exact absurd (hb1 z hz) (JL _)
   ·exact e
def AH(ss:List BA):List Sv:=ss.map (·.toList)
theorem Adp{a b:BA}(h:a.toList=b.toList):a=b:=by
 rw[Go.ByteArray.toList_eq,Go.ByteArray.toList_eq] at h;cases a;cases b;simp at h;rw[h]
theorem AaY(ss:List BA)(x:BA):(∀z,z∈AH (U7 ss x)↔z∈AH ss∨z=x.toList)/\((AH ss).Pairwise (· < ·)->(AH (U7 ss x)).Pairwise (· < ·)):=by
 induction ss with
 | nil=>simp[U7,AH]
 | cons y r ih =>
  obtain⟨im,ip⟩:=ih;rw[U7];by_cases h1:FL y x=true
  ·rw[if_pos h1];have a0:y.toList<x.toList:=by rw[FL,OP] at h1;simpa using h1
   refine⟨λz=>?_,λhp=>?_⟩
   ·have:=im z;simp only[AH,List.map_cons,List.mem_cons] at this ⊢
    rw[this];constructor
    ·rintro (h|h|h)
     ·exact .inl (.inl h)
     ·exact .inl (.inr h)
     ·exact .inr h
    ·rintro ((h|h)|h)
     ·exact .inl h
     ·exact .inr (.inl h)
     ·exact .inr (.inr h)
   ·simp only[AH,List.map_cons] at hp ⊢
    obtain⟨p1,p2⟩:=List.pairwise_cons.1 hp;refine List.pairwise_cons.2 ⟨λz hz=>?_,ip p2⟩;rcases (im z).1 hz with h|h
    ·exact p1 z h
    ·subst h;exact a0
  ·rw[if_neg h1];have a0:¬y.toList<x.toList:=by rw[FL,OP] at h1;simpa using h1
   by_cases h2:Lf y x=true
   ·rw[if_pos h2];have e:y.toList=x.toList:=by simpa [Lf] using h2
    refine⟨λz=>?_,λhp=>hp⟩;simp only[AH,List.map_cons,List.mem_cons];rw[e];constructor
    ·exact .inl
    ·rintro (h|h)
     ·exact h
     ·exact .inl h
   ·rw[if_neg h2];have e:y.toList≠x.toList:=by simpa [Lf] using h2
    have lt:x.toList<y.toList:=by
     rcases Ado y.toList x.toList with k|k|k
     ·exact absurd k a0
     ·exact absurd k e
     ·exact k
    refine⟨λz=>?_,λhp=>?_⟩
    ·simp only[AH,List.map_cons,List.mem_cons];constructor
     ·rintro (h|h|h)
      ·exact .inr h
      ·exact .inl (.inl h)
      ·exact .inl (.inr h)
     ·rintro ((h|h)|h)
      ·exact .inr (.inl h)
      ·exact .inr (.inr h)
      ·exact .inl h
    ·simp only[AH,List.map_cons] at hp ⊢
     refine List.pairwise_cons.2 ⟨λz hz=>?_,hp⟩;rcases List.mem_cons.1 hz with h|h
     ·subst h;exact lt
     ·exact PQ lt ((List.pairwise_cons.1 hp).1 z h)
theorem YU(b:List BA):∀a:List BA,(∀z,z∈AH (QD a b)↔z∈AH a∨z∈AH b)/\((AH a).Pairwise (· < ·)->(AH (QD a b)).Pairwise (· < ·)):=by
 induction b with
 | nil=>intro a;exact⟨λz=>by simp[QD,AH],λh=>h⟩
 | cons x r ih =>
  intro a;obtain⟨im,ip⟩:=ih (U7 a x);obtain⟨jm,jp⟩:=AaY a x;refine⟨λz=>?_,λh=>ip (jp h)⟩;have h1:=im z;have h2:=jm z;show z∈AH (QD (U7 a x) r)↔_
  rw[h1,h2];simp only[AH,List.map_cons,List.mem_cons];constructor
  ·rintro ((h|h)|h)
   ·exact .inl h
   ·exact .inr (.inl h)
   ·exact .inr (.inr h)
  ·rintro (h|h|h)
   ·exact .inl (.inl h)
   ·exact .inl (.inr h)
   ·exact .inr h
def uniq(l:List Sv):List Sv:=Lib.compact (l.mergeSort λx y=>decide (x<=y))
end Go.Proofs.YtcgkgmmclfeohaaGreatDoor
