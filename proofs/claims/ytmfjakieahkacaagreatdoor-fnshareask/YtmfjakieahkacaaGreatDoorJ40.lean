/- Runs carried over, 24: a piece of a function's text that returns. -/
import Derived.Test.YtmfjakieahkacaaGreatDoorJ33
import Derived.Test.YtmfjakieahkacaaGreatDoorJ36
import Derived.Test.YtmfjakieahkacaaGreatDoorJ35
import Derived.Test.YtmfjakieahkacaaGreatDoorJ24
import Derived.Test.YtmfjakieahkacaaGreatDoorJ17
namespace Go.Proofs.YtmfjakieahkacaaGreatDoor
open Go.Conc
section
variable {P:Program} {X:Nat->Prop} {s:Nat->Bool} {F:Frame->World->Prop}
theorem EF(fr:Frame)(v:Value):(fr.finish v).mode=fr.mode:=by
 unfold Frame.finish;split<;>rfl
theorem Lr(fr:Frame)(c:List PanicEntry):(fr.raise c).mode≠.returning:=by
 unfold Frame.raise;split<;>simp_all
theorem Wa(S:N0 P s){fr fr':Frame}{cu cu':List Frame}{w w':World}{es:Array Event}(h:N8 P s fr)(hm:fr.mode=.run)(hne:fr.todo≠[])(hw:R4 (λ_=>False) w w)(hst:stepG P true (G fr cu) w=.go (G fr' cu') w' es)(hr':fr'.mode=.returning):fr'.todo≠[]:=by
 have hr:=h.round;have ht:=h.todo;have gi:∀{a b:Frame} {l l':List Frame},G a l=G b l'->a=b:=λe=>congrArg (·.frame) e
 have no:∀{f:Frame} {cs:List Frame} {x:World} {e:Array Event},stepG P true (G fr cu) w=.go (G f cs) x e->f.mode≠.returning->False:=λ{f cs x e} e1 hf=>by
  rw[e1] at hst;injection hst with e2
  exact hf (gi e2 ▸ hr')
 cases hto:fr.todo with
 | nil=>exact absurd hto hne
 | cons it l =>
  rw[hto] at ht;have hi:U2 P s it:=ht it (by simp);have hrun:∀l':List Item,({fr with todo:=l'}:Frame).mode≠.returning:=λl'=>by simp[hm]
  have go1:∀(l':List Item)(x:World)(e:Array Event),stepG P true (G fr cu) w=.go (G {fr with todo:=l'} cu) x e->fr'.todo≠[]:=λl' x e e1=>(no e1 (hrun l')).elim;have fin:∀(v:Value)(x:World)(e:Array Event),stepG P true (G fr cu) w=.go (G (fr.finish v) cu) x e->fr'.todo≠[]:=λv x e e1=>(no e1 (by rw[EF,hm];simp)).elim;cases it with
  | inBlock id=>exact go1 l w #[] (by simp[stepG,stepG.exec,G,hm,hto])
  | inScope b=>exact go1 l w #[] (by simp[stepG,stepG.exec,G,hm,hto])
  | inLoop b=>exact go1 (.code b::.inLoop b::l) w #[] (by simp[stepG,stepG.exec,G,hm,hto])
  | inRegion ops ord =>
   cases ord with
   | nil=>exact go1 l w #[] (by simp[stepG,stepG.exec,G,hm,hto])
   | cons i rest =>
    cases ho:ops[i]? with
    | none=>exact fin undef w #[] (by simp[stepG,stepG.exec,G,hm,hto,ho])
    | some o =>
     cases hwt:Region.wanted o (yielded ops fr.tmps) with
     | false=>exact fin undef w #[] (by simp[stepG,stepG.exec,G,hm,hto,ho,hwt])
     | true =>
      have hoo:ER P s o.op=true:=hi i (by simp) o ho;obtain⟨q1,q2⟩:=Oc (X:=λ_=>False) S fr o hoo;have hk:(fr.kind==CallKind.early)=false:=by rw[h.kind];rfl
      have e:stepG P true (G fr cu) w=stepG.apply P true fr cu none (execOp fr.eval o) w:=by
       simp[stepG,stepG.exec,G,hm,hto,ho,hwt,stepG.oper,Frame.oper?,hr]
      rw[e] at hst;exfalso
      unfold stepG.apply at hst;generalize hu:(execOp fr.eval o).runT P w #[]=ru at hst;simp only[hk,hto,if_true,Bool.false_eq_true,if_false] at hst;match ru,hu,hst with
      | (.ok n u1,eu),hu,hst =>
       rcases q2 _ _ _ _ _ hu with (⟨v,rfl⟩|rfl)|⟨f,args,hf,rfl⟩<;>simp only[GStep.after] at hst<;>injection hst with e2
       ·have:=gi e2;rw[← this,EF,hm] at hr';cases hr'
       ·have:=gi e2;rw[← this,EF,hm] at hr';cases hr'
       ·have:=gi e2;rw[← this] at hr';cases hr'
      | (.halt k u1,eu),hu,hst =>
       have h0:=D0.sane q1 (hw 0) hu;cases k with
       | panic v =>
        simp only[GStep.after] at hst;injection hst with e2
        have:=gi e2;rw[← this] at hr';exact Lr _ _ hr'
       | stuck x=>simp only[GStep.after] at hst;cases hst
       | unsupported x =>
        cases x with
        | initOrder g =>
         have hg:gN<=g:=by simpa [Du] using h0
         rcases EB (fr:=fr) S hg cu u1 with⟨o,x,es,e⟩|⟨c,t,hp,hfo,e⟩
         ·simp only[e,GStep.after] at hst;cases hst
         ·simp only[e,GStep.after] at hst;injection hst with e2
          have:=gi e2;rw[← this,hm] at hr';cases hr'
        | _=>first|(cases h0;done)|(simp only[GStep.after] at hst;cases hst)
       | _=>cases h0
  | code c =>
   have hc:N7 P s c=true:=hi;cases c with
   | skip=>exact go1 l w #[] (by simp[stepG,stepG.exec,G,hm,hto])
   | label b=>exact go1 l w #[] (by simp[stepG,stepG.exec,G,hm,hto])
   | seq a b=>exact go1 (.code a::.code b::l) w #[] (by simp[stepG,stepG.exec,G,hm,hto])
   | block id b=>exact go1 (.code b::.inBlock id::l) w #[] (by simp[stepG,stepG.exec,G,hm,hto])
   | loop b=>exact go1 (.code b::.inLoop b::l) w #[] (by simp[stepG,stepG.exec,G,hm,hto])
   | scope b=>exact go1 (.code b::.inScope b::l) w #[] (by simp[stepG,stepG.exec,G,hm,hto])
   | cond c a b =>
    cases hv:fr.eval c with
    | bool t=>exact go1 (.code (if t then a else b)::l) w #[] (by simp only[stepG,stepG.exec,G,hm,hto,hv])
    | _=>exact absurd hst (by simp only[stepG,stepG.exec,G,hm,hto,hv];intro e;cases e)
   | ret =>
    have e1:stepG P true (G fr cu) w=.go (G {fr with mode:=.returning} cu) w #[]:=by simp[stepG,stepG.exec,G,hm,hto,hr]
    rw[e1] at hst;injection hst with e2
    rw[← gi e2];simp[hto]
   | exit id =>
    cases hx:exitTo id l with
    | some l'=>exact go1 l' w #[] (by simp[stepG,stepG.exec,G,hm,hto,hx])
    | none=>exact absurd hst (by simp[stepG,stepG.exec,G,hm,hto,hx,hr])
   | region id ops d =>
    cases d with
    | false=>exact go1 (.inRegion ops (List.range ops.size)::l) w #[] (by simp[stepG,stepG.exec,G,hm,hto])
    | true=>exact go1 (.inRegion ops (Region.schedule (P.follows .mixedOrders) ops (w.tape w.drawn (.order fr.fn id)))::l) {w with drawn:=w.drawn+1} #[] (by simp[stepG,stepG.exec,G,hm,hto,choose,Sem.run,Question.forced,Question.cut])
   | rangeFunc=>cases hc
   | goto=>cases hc
   | refuse=>cases hc
  | _=>exact hi.elim
theorem Wb{fr c:Frame}{cs:List Frame}{w w':World}{g':Goroutine}{es:Array Event}(h:N8 P s fr)(hm:fr.mode≠.run)(hst:stepG P true (G fr (c::cs)) w=.go g' w' es):(∃v,g'=G (c.finish v) cs)∨∃ch,g'=G (c.raise ch) cs:=by
 obtain⟨fn,hf⟩:=h.fn;cases hmo:fr.mode with
 | run=>exact absurd hmo hm
 | returning =>
  generalize hu:(results fn fr.tmps).runT P w #[]=ru at hst;simp only[stepG,G,hmo,unwind,h.defers,hf,hu,doReturn,h.kind] at hst;match ru,hst with
  | (.ok v u1,eu),hst=>simp only[GStep.after] at hst;injection hst with e;exact .inl ⟨v,e.symm⟩
  | (.halt k u1,eu),hst=>cases k<;>(simp only[GStep.after] at hst;cases hst)
 | panicking ch =>
  have hcat:fr.catches P=false:=by unfold Frame.catches;rw[hf]
  simp only[stepG,G,hmo,unwind,h.defers,hcat,Bool.false_eq_true,if_false] at hst;injection hst with e
  exact .inr ⟨ch,e.symm⟩
theorem XU(S:N0 P s){fr fr':Frame}{seg seg' bw:List Frame}{w w':World}{es:Array Event}(h:N8 P s fr)(hg:DZ fr seg)(hw:R4 (λ_=>False) w w)(hst:stepG P true (G fr (seg++bw)) w=.go (G fr' (seg'++bw)) w' es):
  (fr.mode=.run/\(seg'=seg∨seg'=fr::seg))∨∃c t,seg=c::t/\seg'=t/\((∃v,fr'=c.finish v)∨∃ch,fr'=c.raise ch):=by
 have gi:∀{a b:Frame} {l l':List Frame},G a l=G b l'->a=b/\l=l':=λe=>⟨congrArg (·.frame) e,congrArg (·.callers) e⟩;by_cases hm:fr.mode=.run
 ·refine .inl ⟨hm,?_⟩;rcases PH S h hm hw hst with⟨f1,a1,-,-⟩|⟨f1,a1,-,-,-⟩
  ·exact .inl (List.append_cancel_right (gi a1).2)
  ·refine .inr ?_;have:=(gi a1).2;rw[← List.cons_append] at this;exact List.append_cancel_right this
 ·cases seg with
  | nil=>exact (hg.elim (λhg=>absurd hg hm) λhg=>absurd rfl hg)
  | cons c t =>
   refine .inr ⟨c,t,rfl,?_⟩;rcases Wb h hm hst with⟨v,e⟩|⟨ch,e⟩
   ·obtain⟨e1,e2⟩:=gi e;exact⟨List.append_cancel_right e2,.inl ⟨v,e1⟩⟩
   ·obtain⟨e1,e2⟩:=gi e;exact⟨List.append_cancel_right e2,.inr ⟨ch,e1⟩⟩
theorem Abl{P:Program}{l:List Frame}(h:l++[c0 P]=[c0 P]):l=[]:=by
 cases l with
 | nil=>rfl
 | cons a t=>have:=congrArg List.length h;simp at this
theorem Mx(S:N0 P s)(bar:Item)(hbar:∀(fr:Frame)(x:World),fr.mode=.run->fr.roundOf=none->fr.todo=[bar]->∃o y es,stepG P true (G fr [c0 P]) x=.ended o y es):
  ∀(N:Nat) {fr fe:Frame} {seg:List Frame} {u ue:World},N8 P s fr->(∀c∈seg,N8 P s c)->(∀c∈seg,c.todo≠[])->(∀c∈seg,c.mode=.run)->R4 (λ_=>False) u u->(seg=[]->fr.mode=.run)->runN P N (lone fr (seg++[c0 P]) u)=.next (lone fe [c0 P] ue)->fe.mode=.returning->fe.todo=[]->
   ∀(M:Nat) {f2:Frame} {u2:World},runN P M (lone (gx [bar] fr seg [c0 P]).frame (gx [bar] fr seg [c0 P]).callers u)=.next (lone f2 [c0 P] u2)->f2.mode=.returning->False
 | 0,fr,fe,seg,u,ue,h,hs,hn,hrm,hf,hmo,hrun,hre,hto=>by
  intro M f2 u2 hM h2;simp only[runN,Stepped.next.injEq] at hrun;obtain⟨e1,e2,e3⟩:=Y7 hrun;have:=hmo (Abl e2);rw[e1,hre] at this;cases this
 | N+1,fr,fe,seg,u,ue,h,hs,hn,hrm,hf,hmo,hrun,hre,hto=>by
  intro M f2 u2 hM h2
  have hgo:DZ fr seg:=by
   by_cases e:seg=[]
   ·exact .inl (hmo e)
   ·exact .inr e
  have hgx:∀(q:Frame)(sq:List Frame),gx [bar] q sq [c0 P]=G (gx [bar] q sq [c0 P]).frame (gx [bar] q sq [c0 P]).callers:=λq sq=>by unfold gx;split<;>rfl
  by_cases hend:seg=[]/\fr.todo=[]
  ·obtain⟨rfl,hto0⟩:=hend;obtain⟨o,y,es,he⟩:=hbar (ext [bar] fr) u (hmo rfl) h.round (by simp[ext,hto0]);have e0:lone (gx [bar] fr [] [c0 P]).frame (gx [bar] fr [] [c0 P]).callers u=lone (ext [bar] fr) [c0 P] u:=rfl;rw[e0] at hM;cases M with
   | zero =>
    simp only[runN,Stepped.next.injEq] at hM;have:=(Y7 hM).1;have hq:=hmo rfl;rw[← this] at h2;simp only[ext,hq] at h2;cases h2
   | succ M=>simp only[runN,Dl he] at hM;cases hM
  ·rcases (EC S (X:=λ_=>False) (bu:=[c0 P]) (bw:=[c0 P]) h hs hgo (hf 0)).1 hf with⟨o,x,es,e⟩|⟨fr',seg',u',v',es,e1,e2,a3,a4,⟨m,a5⟩,_⟩
   ·simp only[runN,Dl e] at hrun;cases hrun
   ·rw[e1] at e2;injection e2 with _ e22
    subst e22;have hf':=hf.on a5;have hne0:seg=[]->fr.todo≠[]:=λe e'=>hend ⟨e,e'⟩;obtain⟨g1,g2⟩:=Mq S [bar] h hgo hne0 hn hf e1;rw[hgx fr seg,hgx fr' seg'] at g1;simp only[runN,BR e1] at hrun;cases M with
    | zero =>
     simp only[runN,Stepped.next.injEq] at hM;obtain⟨q1,q2,_⟩:=Y7 hM
     have hseg:seg=[]:=by
      cases seg with
      | nil=>rfl
      | cons c t =>
       have hl:((gx [bar] fr (c::t) [c0 P]).callers).length=1:=by rw[q2];rfl
       have hx:∀(c:Frame)(t:List Frame),1<=(Ty [bar] (c::t)).length:=λc t=>by cases t<;>simp[Ty]
       have:=hx c t;simp only[gx,G,A8,List.length_singleton] at hl;omega
     subst hseg;have q1:ext [bar] fr=f2:=q1;rw[← q1] at h2;simp only[ext,hmo rfl] at h2;cases h2
    | succ M =>
     simp only[runN,BR g1] at hM;have hss:=XU S h hgo hf e1;refine Mx S bar hbar N a3 a4 g2 (λc hc=>?_) hf' (λe=>?_) hrun hre hto M hM h2
     ·rcases hss with⟨hm,rfl|rfl⟩|⟨c1,t1,rfl,rfl,_⟩
      ·exact hrm c hc
      ·rcases List.mem_cons.1 hc with rfl|hc
       ·exact hm
       ·exact hrm c hc
      ·exact hrm c (by simp[hc])
     subst e;cases hm':fr'.mode with
     | run=>rfl
     | returning =>
      exfalso
      have hN:=Dc S a3 (λhh=>hh.elim (λhh=>by rw[hm'] at hh;cases hh) λhh=>hh rfl) hrun;subst hN;simp only[runN,Stepped.next.injEq] at hrun;have e3:=(Y7 hrun).1;rw[← e3] at hto;by_cases e:seg=[]
      ·subst e;exact Wa S h (hmo rfl) (hne0 rfl) hf e1 hm' hto
      ·cases seg with
       | nil=>exact e rfl
       | cons c t =>
        rcases hss with⟨_,h1|h1⟩|⟨c1,t1,h1,h2',⟨v,h3⟩|⟨ch,h3⟩⟩
        ·cases h1
        ·cases h1
        ·cases h1
         rw[h3,EF,hrm _ (by simp)] at hm';cases hm'
        ·rw[h3] at hm';exact Lr _ _ hm'
     | panicking ch =>
      exfalso
      have hN:=Dc S a3 (λhh=>hh.elim (λhh=>by rw[hm'] at hh;cases hh) λhh=>hh rfl) hrun;subst hN;simp only[runN,Stepped.next.injEq] at hrun;have e3:=(Y7 hrun).1;rw[← e3,hm'] at hre;cases hre
abbrev Gz (fr:Frame):Prop:=fr.mode=.returning/\fr.todo≠[]
def TQ(P:Program)(X:Nat->Prop)(s:Nat->Bool)(F:Frame->World->Prop)(k:List Item)(bw:List Frame)(g:Goroutine)(w:World):Prop :=
 ∃fe,g=G (ext k fe) bw/\N8 P s fe/\N9 X w/\fe.mode=.returning/\∀τ d,F fe (E0 X w τ d)
theorem Abm(S:N0 P s){fr:Frame}{w:World}(h:St P X s Gz F fr [] w)(hc:fr.mode≠.run)(k:List Item)(bw:List Frame)(d:Nat):TQ P X s F k bw (gx k fr [] bw) (w.at d):=by
 have key:∀τ d,Gz fr/\F fr (E0 X w τ d):=λτ d=>by
  obtain⟨N,fe,ue,hr,hmo,hF⟩:=h.ends τ d;have hN:=Dc S h.top (λhh=>hh.elim hc (λh=>h rfl)) hr;subst hN;simp only[List.nil_append,runN,Stepped.next.injEq] at hr;obtain⟨e1,_,e3⟩:=Y7 hr;subst e1 e3;exact⟨hmo,hF⟩
 exact⟨fr,rfl,h.top,h.base.at d,(key (λ_ _=>0) 0).1.1,λτ d=>(key τ d).2⟩
theorem TR(S:N0 P s){fr:Frame}{w:World}(h:St P X s Gz F fr [] w)(hm:fr.mode=.run):fr.todo≠[]:=λht=>by
 obtain⟨N,fe,ue,hr,hmo,hF⟩:=h.ends (λ_ _=>0) 0;have hstep:step P (lone fr [c0 P] (E0 X w (λ_ _=>0) 0))=.next (lone {fr with mode:=.returning} [c0 P] (E0 X w (λ_ _=>0) 0)):=BR (es:=#[]) (by simp[stepG,stepG.exec,G,hm,ht,h.top.round]);simp only[List.nil_append] at hr;cases N with
 | zero =>
  simp only[runN,Stepped.next.injEq] at hr;have e1:=(Y7 hr).1;have h1:=hmo.1;rw[← e1,hm] at h1;cases h1
 | succ N =>
  simp only[runN,hstep] at hr;have hN:=Dc S (Jx h.top .returning) (λhh=>hh.elim (λhh=>by cases hh) λhh=>hh rfl) hr;subst hN;simp only[runN,Stepped.next.injEq] at hr;have e1:=(Y7 hr).1;rw[← e1] at hmo;exact hmo.2 ht
def XV(P:Program)(X:Nat->Prop)(s:Nat->Bool)(F:Frame->World->Prop)(k:List Item)(bw:List Frame)(x:Frame×List Frame×World):Prop :=
 St P X s Gz F x.1 x.2.1 x.2.2/\(∀c∈x.2.1,c.todo≠[])/\¬AU P X (TQ P X s F k bw) (gx k x.1 x.2.1 bw) x.2.2
theorem Wc(S:N0 P s)(hF:∀fe u v,R4 (λ_=>False) u v->F fe u->F fe v){k0:List Item}{bw:List Frame}{x:Frame×List Frame×World}(h:XV P X s F k0 bw x):
  (x.2.1=[]->¬Gz x.1)/\∃(d k:Nat)(y:Frame×List Frame×World),XV P X s F k0 bw y/\y.2.2.tape=x.2.2.tape/\
   ∀τ d0,(∀i q,i<k->τ (d0+i) q=x.2.2.tape (d+i) q)->step P (lone x.1 (x.2.1++[c0 P]) (E0 X x.2.2 τ d0))=.next (lone y.1 (y.2.1++[c0 P]) (E0 X y.2.2 τ (d0+k))):=by
 obtain⟨hst,hmid,hn⟩:=h
 have hcut:x.2.1=[]->x.1.mode=.run/\x.1.todo≠[]:=λe=>by
  obtain⟨fr,seg,w⟩:=x;simp only at e;subst e;have hm:fr.mode=.run:=Classical.byContradiction λhno=>hn (.stop λd=>Abm S hst hno k0 bw d);exact⟨hm,TR S hst hm⟩
 have hg:DZ x.1 x.2.1:=by
  by_cases e:x.2.1=[]
  ·exact .inl (hcut e).1
  ·exact .inr e
 have hE:x.2.1=[]->¬Gz x.1:=λe h=>by have:=(hcut e).1;rw[h.1] at this;cases this
 refine⟨hE,Classical.byContradiction λhno=>hn ?_⟩;have hs:=λd=>Mh S hF hst hg hE bw d;let fr':=λd=>Classical.choose (hs d)
 let seg':=λd=>Classical.choose (Classical.choose_spec (hs d))
 let w':=λd=>Classical.choose (Classical.choose_spec (Classical.choose_spec (hs d)))
 let es:=λd=>Classical.choose (Classical.choose_spec (Classical.choose_spec (Classical.choose_spec (hs d))))
 have sp:∀d,∃k,stepG P true (G x.1 (x.2.1++bw)) (x.2.2.at d)=.go (G (fr' d) (seg' d++bw)) (w' d) (es d)/\(∀e∈es d,Aj X e)/\St P X s Gz F (fr' d) (seg' d) (w' d)/\(w' d).tape=x.2.2.tape/\(w' d).drawn=d+k/\
   ∀τ d0,(∀i q,i<k->τ (d0+i) q=x.2.2.tape (d+i) q)->step P (lone x.1 (x.2.1++[c0 P]) (E0 X x.2.2 τ d0))=.next (lone (fr' d) (seg' d++[c0 P]) (E0 X (w' d) τ (d0+k))) :=
  λd=>Classical.choose_spec (Classical.choose_spec (Classical.choose_spec (Classical.choose_spec (hs d))))
 have self:∀d,R4 (λ_=>False) (x.2.2.at d) (x.2.2.at d):=λd n=>⟨rfl,λ_ h=>h.elim,λ_ _=>rfl,λ_ h=>h.elim,hst.base.pend,rfl,rfl,λ_ _ _=>rfl⟩;have gs:=λd=>Mq S k0 hst.top hg (λe=>(hcut e).2) hmid (self d) (sp d).choose_spec.1;refine .step (by unfold gx;split<;>rfl) (λd=>gx k0 (fr' d) (seg' d) bw) w' es (λd=>(gs d).1) (λd=>(sp d).choose_spec.2.1) (λd=>?_);refine Classical.byContradiction λhr=>hno ?_;obtain⟨k,_,_,a3,a4,_,a6⟩:=sp d;exact⟨d,k,(fr' d,seg' d,w' d),⟨a3,(gs d).2,hr⟩,a4,a6⟩
theorem Lt(S:N0 P s)(hF:∀fe u v,R4 (λ_=>False) u v->F fe u->F fe v)(k:List Item)(bw:List Frame){fr:Frame}{w:World}(h:St P X s Gz F fr [] w):AU P X (TQ P X s F k bw) (G (ext k fr) bw) w :=
 Classical.byContradiction λhn=>Ks (B0:=XV P X s F k bw) (λ_ hx=>Wc S hF hx) ⟨h,by simp,hn⟩ h.ends
def ET(P:Program)(fn:Func)(R:Value->World->Prop):Exit->Act->World->Prop
 | .ret,a,u=>bodyPost P fn (λe u'=>∃v,e=.returned v/\R v u') .ret a u
 | _,_,_=>False
theorem Ft{fn:Func}{R:Value->World->Prop}{a:Act}{u:World}{v:Value}(hr:(results fn a.tmps).run P u=.ok v u)(hd:a.defers=[])(hR:R v u):ET P fn R .ret a u:=⟨hd,v,hr,v,rfl,hR⟩
def My:Item:=.code (.exit 1000000)
theorem PU(fr:Frame)(x:World)(hm:fr.mode=.run)(hr:fr.roundOf=none)(ht:fr.todo=[My]):∃o y es,stepG P true (G fr [c0 P]) x=.ended o y es :=
 ⟨.stuck "exit, goto: no such block or label" (Frame.pos P fr),x,#[],by simp[stepG,stepG.exec,G,hm,ht,My,exitTo,hr]⟩
theorem XW(S:N0 P s){r:Code}(hr:N7 P s r=true){b:Frame}(hb:CC P b){a:Act}(hd:a.defers=[]){fn:Func}{R:Value->World->Prop}{u:World}(hu:R4 (λ_=>False) u u)(h:r.wp P (ET P fn R) a u){N:Nat}{a':Act}{todo:List Item}{u':World}
  (hN:runN P N (lone (b.at a [.code r]) ([]++[c0 P]) u)=.next (lone {b.at a' todo with mode:=.returning} [c0 P] u')):todo≠[]:=λe=>by
 subst e;have hok:N8 P s (b.at a [.code r]):=hb.ok hd (by intro i hi;simp at hi;subst hi;exact hr);obtain⟨e,a2,u2,hq,harr⟩:=h b [My] [c0 P];cases e with
 | ret =>
  obtain⟨todo2,M,hM⟩:=harr;exact Mx S My (λfr x h1 h2 h3=>PU fr x h1 h2 h3) N hok (seg:=[]) (by simp) (by simp) (by simp) hu (λ_=>rfl) hN rfl rfl M hM rfl
 | _=>exact hq
theorem Jg(S:N0 P s){r:Code}(hr:N7 P s r=true){b:Frame}(hb:CC P b){a:Act}(hd:a.defers=[]){fn:Func}(hf:P.funcs[b.fn]?=some fn){w:World}(hw:N9 X w){R:Value->World->Prop}
  (h:∀τ d,Aq (λu=>r.wp P (ET P fn R) a u) (E0 X w τ d)) (k:List Item) (c:Frame) (cs:List Frame) :
  AU P X (TF X c cs R) (G (b.at a (.code r::k)) (c::cs)) w:=by
 have hok:N8 P s (b.at a [.code r]):=hb.ok hd (by intro i hi;simp at hi;subst hi;exact hr)
 have hst:St P X s Gz (Gw P X w λ_=>R) (b.at a [.code r]) [] w:=by
  refine⟨hok,by simp,hw,λτ d=>?_⟩;obtain⟨u0,h1,h2⟩:=h τ d;obtain⟨e,a',u',hq,harr⟩:=h1 b [] [c0 P];cases e with
  | ret =>
   obtain⟨todo,N,hN⟩:=harr;have hne:=XW S hr hb hd (h2.trans h2.symm) h1 hN;obtain⟨hd',v,hres,v',e1,hR⟩:=hq;cases e1
   obtain⟨ve,q1,q2⟩:=shift S N hok (seg:=[]) (by simp) h2 hN;exact⟨N,_,ve,q1,⟨rfl,hne⟩,λ_ _=>0,0,u',v,hR,⟨rfl,hd',hb.kind,fn,hf,hres⟩,q2⟩
  | _=>exact hq.elim
 refine (Lt S Ja k (c::cs) hst).bind λg w' ⟨fe,h1,h2,h3,h4,h5⟩=>?_;have hl:Left P X s (Gw P X w λ_=>R) (c::cs) (G fe (c::cs)) w':=⟨fe,rfl,h4,h2,h3,h5⟩;obtain⟨v,l1,l2,l3⟩:=PF hl;subst h1;refine .step rfl (λ_=>G (c.finish v) cs) (λd=>w'.at d) (λd=>(l1 d).choose) (λd=>?_) (λd=>(l1 d).choose_spec.2) (λd=>.stop λd'=>⟨v,rfl,(l2.at d).at d',λτ d''=>?_⟩)
 ·have hx:=(l1 d).choose_spec.1;generalize (l1 d).choose=ey at hx ⊢
  obtain⟨fn',hf'⟩:=h2.fn;simp only[stepG,G,h4,unwind,h2.defers,hf',doReturn,h2.kind] at hx;simp only[stepG,G,ext,h4,unwind,h2.defers,hf',doReturn,h2.kind];generalize (results fn' fe.tmps).runT P (w'.at d) #[]=ru at hx ⊢
  match ru,hx with
  | (.ok v u1,eu),hx=>exact hx
  | (.halt k u1,eu),hx=>cases k<;>(simp only[GStep.after] at hx;cases hx)
 ·obtain⟨τ0,d0,u0,h4,h5⟩:=l3 τ d'';exact⟨u0,h4,h5⟩
end
end Go.Proofs.YtmfjakieahkacaaGreatDoor
namespace Go.Proofs.YtmfjakieahkacaaGreatDoor
open Go.Conc Go.RowKit
def P5(n:Nat)(T:Array Value)(l:List (Nat×Value)):Prop:=T.size=n/\∀p∈l,T[p.1]?=some p.2
theorem P5.get{n:Nat}{T:Array Value}{l:List (Nat×Value)}(h:P5 n T l)(x:Nat)(v:Value)(hm:(x,v)∈l):T[x]?=some v:=h.2 _ hm
theorem P5.ev{n:Nat}{T:Array Value}{l:List (Nat×Value)}{ds:List Deferred}(h:P5 n T l)(x:Nat)(v:Value)(hm:(x,v)∈l):(⟨T,ds⟩:Act).eval (.tmp x)=v:=by
 have:=h.get x v hm;simp[Act.eval,this]
theorem P5.put{n:Nat}{T:Array Value}{l:List (Nat×Value)}(h:P5 n T l)(d:Nat)(v:Value)(hd:d<n)(hn:∀p∈l,p.1≠d):P5 n (T.setIfInBounds d v) ((d,v)::l):=by
 refine⟨by simp[h.1],λp hp=>?_⟩;rcases List.mem_cons.1 hp with rfl|hp
 ·simp[h.1,hd]
 ·rw[Array.getElem?_setIfInBounds_ne (Ne.symm (hn p hp))];exact h.2 p hp
theorem P5.sub{n:Nat}{T:Array Value}{l l':List (Nat×Value)}(h:P5 n T l)(hs:∀p∈l',p∈l):P5 n T l':=⟨h.1,λp hp=>h.2 p (hs p hp)⟩
theorem S6{o:Oper}(h:o.guard=none)(f:Nat->Option Bool):Region.wanted o f=true:=by simp[Region.wanted,h]
theorem YE{o:Oper}{j:Nat}{t t':Bool}{ops:Array Oper}{T:Array Value}{oj:Oper}{s:Nat}(h:o.guard=some (j,t))(hj:ops[j]?=some oj)(hs:oj.dst=some s)(hT:T[s]?=some (.bool t')):Region.wanted o (yielded ops T)=(t'==t):=by
 simp[Region.wanted,h,yielded,hj,hs,hT]
section
variable {P:Program} {Shun:Loc->Prop} {Post:Value->World->Prop} {b:Frame} {a:Act} {k:List Item} {cs:List Frame} {gs:Array Goroutine} {sl:Option (Nat×Nat)} {t:Trace} {V:World}
theorem O9{g g':Goroutine}(hh:K1 P Shun gs g t)(hr:g.status=.running)(hs:∀w,stepG P true g w=.go g' w #[])(kk:∀gs' sl' t' d,K1 P Shun gs' g' t'->G4 P Post (crowd gs' (V.at d) sl') t'):G4 P Post (crowd gs V sl) t:=by
 have hG:Go.Conc.Goes P true AtRel (DE λ_=>False) (λg w'=>g=g'/\AtRel V w') 1 g V:=Go.Conc.Goes.step hr λw₁ h₁=>by
  rw[hs];simp only[goes_go];exact⟨λe he=>by simp at he,Go.Conc.Goes.stop λw₂ h₂=>⟨rfl,atRel_trans _ _ _ h₁ h₂⟩⟩
 refine X4 (D:=DE λ_=>False) (B0:=0) (λ_ _ _ h e he=>(h e he).elim) hh hG λgs' g'' w' sl' t' hh' hst=>?_;obtain⟨rfl,d,rfl⟩:=hst;exact kk _ _ _ _ hh'
theorem YF{ops:Array Oper}{i:Nat}{rest:List Nat}{o:Oper}{v:Value}{dst:Option Tmp}(B:Nat)(hh:K1 P Shun gs (G (b.at a (.inRegion ops (i::rest)::k)) cs) t)(ho:ops[i]?=some o)(hw:Region.wanted o (yielded ops a.tmps)=true)(hk:b.kind=.normal)(hdst:o.dst=dst)
  (hr:∀d,(execOp a.eval o).run P (V.at d)=.ok (.value v) (V.at d)) (he:∀d,∀e∈(execOp a.eval o).events P (V.at d) #[],EvL Shun B e)
  (kk:∀gs' sl' t' d,K1 P Shun gs' (G (b.at (a.put dst v) (.inRegion ops rest::k)) cs) t'->G4 P Post (crowd gs' (V.at d) sl') t'):G4 P Post (crowd gs V sl) t:=by
 subst hdst
 have hG:Go.Conc.Goes P true AtRel (DE (EvL Shun B)) (λg w'=>g=G (b.at (a.put o.dst v) (.inRegion ops rest::k)) cs/\AtRel V w') 1 (G (b.at a (.inRegion ops (i::rest)::k)) cs) V:=Go.Conc.Goes.step rfl λw₁ h₁=>by
  obtain⟨d,rfl⟩:=h₁;rw[stepG_value ho hw (by rw[hk];intro h;cases h) (hr d)];simp only[goes_go];exact⟨λe hx=>he d e (mem_listed hx),Go.Conc.Goes.stop λw₂ h₂=>⟨rfl,by obtain⟨d',rfl⟩:=h₂;exact⟨d',rfl⟩⟩⟩
 refine X4 (D:=DE (EvL Shun B)) (B0:=B) (λ_ _ _ h=>h) hh hG λgs' g'' w' sl' t' hh' hst=>?_;obtain⟨rfl,d,rfl⟩:=hst;exact kk _ _ _ _ hh'
theorem Abn{ops:Array Oper}{i:Nat}{rest:List Nat}{o:Oper}{v:Value}{x:Operand}{dst:Option Tmp}(hh:K1 P Shun gs (G (b.at a (.inRegion ops (i::rest)::k)) cs) t)(ho:ops[i]?=some o)(hw:Region.wanted o (yielded ops a.tmps)=true)(hk:b.kind=.normal)(hdst:o.dst=dst)(hop:o.op=.move x∨o.op=.assign x)(hx:a.eval x=v)
  (kk:∀gs' sl' t' d,K1 P Shun gs' (G (b.at (a.put dst v) (.inRegion ops rest::k)) cs) t'->G4 P Post (crowd gs' (V.at d) sl') t'):G4 P Post (crowd gs V sl) t:=by
 have e:execOp a.eval o=Pure.pure (.value v):=by unfold execOp;rcases hop with h|h<;>rw[h]<;>simp[hx]
 exact YF 0 hh ho hw hk hdst (λd=>by rw[e];rfl) (λd x hx=>by rw[e] at hx;simp at hx) kk
theorem Wd{ops:Array Oper}{i:Nat}{rest:List Nat}{o:Oper}{dst:Option Tmp}(hh:K1 P Shun gs (G (b.at a (.inRegion ops (i::rest)::k)) cs) t)(ho:ops[i]?=some o)(hw:Region.wanted o (yielded ops a.tmps)=false)(hdst:o.dst=dst)
  (kk:∀gs' sl' t' d,K1 P Shun gs' (G (b.at (a.put dst undef) (.inRegion ops rest::k)) cs) t'->G4 P Post (crowd gs' (V.at d) sl') t'):G4 P Post (crowd gs V sl) t:=by
 subst hdst;exact O9 hh rfl (λw=>by rw[stepG_unwanted ho hw]) kk
theorem We{ops:Array Oper}{i:Nat}{rest:List Nat}{o:Oper}{f:FuncId}{fn:Func}{args:Array Operand}{ats:Array TypeId}{vs:Array Value}(hh:K1 P Shun gs (G (b.at a (.inRegion ops (i::rest)::k)) cs) t)(ho:ops[i]?=some o)(hw:Region.wanted o (yielded ops a.tmps)=true)(hk:b.kind=.normal)(hop:o.op=.call {callee:=.value (.func f),args,argTypes:=ats})
  (hf:P.funcs[f]?=some fn) (hname:(fn.name == "runtime.NumGoroutine")=false) (hb:fn.body.isNone=false) (hvs:args.map a.eval=vs)
  (kk:∀gs' sl' t' d,K1 P Shun gs' (G (Frame.enter P f vs .normal) (b.at a (.inRegion ops (i::rest)::k)::cs)) t'->G4 P Post (crowd gs' (V.at d) sl') t'):G4 P Post (crowd gs V sl) t:=by
 have hs:∀w,stepG P true (G (b.at a (.inRegion ops (i::rest)::k)) cs) w=.go (G (Frame.enter P f vs .normal) (b.at a (.inRegion ops (i::rest)::k)::cs)) w #[]:=λw=>by
  subst hvs;rw[stepG_enter ho hw (by rw[hk];intro h;cases h) (run_call_body hop hf hname hb)];have:listed P b.fn a o w=#[]:=by unfold listed;rw[events_call_body hop hf hname hb];exact seen_none P _
  rw[this]
 exact O9 hh rfl hs kk
theorem Abo{X:Nat->Prop}{s:Nat->Bool}(S:N0 P s)(hX:AH Shun X)(hbV:N9 X V){ops:Array Oper}{i:Nat}{rest:List Nat}{o:Oper}{f:FuncId}{fn:Func}{args:Array Operand}{ats:Array TypeId}{vs:Array Value}{dst:Option Tmp}(hh:K1 P Shun gs (G (b.at a (.inRegion ops (i::rest)::k)) cs) t)(ho:ops[i]?=some o)(hw:Region.wanted o (yielded ops a.tmps)=true)(hk:b.kind=.normal)(hdst:o.dst=dst)(hop:o.op=.call {callee:=.value (.func f),args,argTypes:=ats})
  (hf:P.funcs[f]?=some fn) (hname:(fn.name == "runtime.NumGoroutine")=false) (hb:fn.body.isNone=false) (hsf:s f=true) (hvs:args.map a.eval=vs) {R:Value->World->Prop} (hR:∀v,P4 (R v))
  (hc:∀τ d,Calls P f vs (E0 X V τ d) λe u'=>(∃v,e=.returned v/\R v u')/\Below (E0 X V τ d).heap.size (E0 X V τ d) u')
  (kk:∀gs' w' sl' t' v,K1 P Shun gs' (G (b.at (a.put dst v) (.inRegion ops rest::k)) cs) t'->N9 X w'->(∀τ d,R v (E0 X w' τ d)/\Below V.heap.size (E0 X V τ d) (E0 X w' τ d))->G4 P Post (crowd gs' w' sl') t'):G4 P Post (crowd gs V sl) t:=by
 subst hdst;refine We hh ho hw hk hop hf hname hb hvs λgs1 sl1 t1 d1 hh1=>?_;refine Y8 hX hh1 (VN S hsf (hbV.at d1) (R:=λw v u=>R v u/\Below w.heap.size w u) (λτ d=>(show Calls P f vs (E0 X V τ d) _ from hc τ d).mono ?_) _ cs (by rw[hf];cases hx:fn.body with|none=>rw[hx] at hb;cases hb|some _=>simp[hx])) λgs2 g2 w2 sl2 t2 hh2 hst2=>?_
 ·rintro e u' ⟨⟨v,rfl,h1⟩,h2⟩;exact⟨v,rfl,h1,h2⟩
 obtain⟨v,rfl,hb2,hR2⟩:=hst2;rw[Frame.finish_at,ho] at hh2;exact kk _ _ _ _ v hh2 hb2 λτ d=>U6 (hR v) ((hR2 τ d).imp λu h=>let ⟨τ,d,h1,h2⟩:=h;⟨τ,d,h1,by rw[K5] at h2;exact h2⟩)
theorem AdR{X:Nat->Prop}{ops:Array Oper}{i:Nat}{rest:List Nat}{o:Oper}{f:FuncId}{fn:Func}{args:Array Operand}{ats:Array TypeId}{vs:Array Value}{dst:Option Tmp}(hh:K1 P Shun gs (G (b.at a (.inRegion ops (i::rest)::k)) cs) t)(ho:ops[i]?=some o)(hw:Region.wanted o (yielded ops a.tmps)=true)(hk:b.kind=.normal)(hdst:o.dst=dst)(hop:o.op=.call {callee:=.value (.func f),args,argTypes:=ats})
  (hf:P.funcs[f]?=some fn) (hname:(fn.name == "runtime.NumGoroutine")=false) (hb:fn.body.isNone=false) (hvs:args.map a.eval=vs) {R:Value->World->Prop}
  (hc:∀d,CD P f vs X Shun (V.at d) R)
  (kk:∀X' Shun' gs' w' sl' t' v,AH Shun' X'->(∀b,X' b->X b∨V.heap.size<=b)->K1 P Shun' gs' (G (b.at (a.put dst v) (.inRegion ops rest::k)) cs) t'->N9 X' w'->(∀τ d,R v (E0 X' w' τ d)/\Below V.heap.size (E0 X V τ d) (E0 X' w' τ d))->G4 P Post (crowd gs' w' sl') t'):G4 P Post (crowd gs V sl) t:=by
 subst hdst;refine We hh ho hw hk hop hf hname hb hvs λgs1 sl1 t1 d1 hh1=>?_;refine hc d1 Post _ cs gs1 sl1 t1 hh1 λX' Shun' gs' w' sl' t' v hX' hW' hh' hb' hR'=>?_;rw[Frame.finish_at,ho] at hh';exact kk X' Shun' gs' w' sl' t' v hX' hW' hh' hb' hR'
end
section
variable {P:Program} {Shun:Loc->Prop} {Post:Value->World->Prop} {b:Frame} {k:List Item} {cs:List Frame} {gs:Array Goroutine} {sl:Option (Nat×Nat)} {t:Trace} {V:World} {n:Nat} {T:Array Value} {l:List (Nat×Value)} {ops:Array Oper} {i:Nat} {rest:List Nat} {o:Oper}
theorem Cu{v:Value}{d:Nat}(B:Nat)(hh:K1 P Shun gs (G (b.at ⟨T,[]⟩ (.inRegion ops (i::rest)::k)) cs) t)(hT:P5 n T l)(ho:ops[i]?=some o)(hw:Region.wanted o (yielded ops T)=true)(hk:b.kind=.normal)(hdst:o.dst=some d)(hd:d<n)(hn:∀p∈l,p.1≠d)
  (hr:∀x,(execOp (Act.eval ⟨T,[]⟩) o).run P (V.at x)=.ok (.value v) (V.at x)) (he:∀x,∀e∈(execOp (Act.eval ⟨T,[]⟩) o).events P (V.at x) #[],EvL Shun B e)
  (kk:∀gs' sl' t' x T',K1 P Shun gs' (G (b.at ⟨T',[]⟩ (.inRegion ops rest::k)) cs) t'->P5 n T' ((d,v)::l)->G4 P Post (crowd gs' (V.at x) sl') t'):G4 P Post (crowd gs V sl) t :=
 YF B hh ho hw hk hdst hr he λgs' sl' t' x hh'=>kk gs' sl' t' x (T.setIfInBounds d v) hh' (hT.put d v hd hn)
theorem BW{v:Value}{d:Nat}{x:Operand}(hh:K1 P Shun gs (G (b.at ⟨T,[]⟩ (.inRegion ops (i::rest)::k)) cs) t)(hT:P5 n T l)(ho:ops[i]?=some o)(hw:Region.wanted o (yielded ops T)=true)(hk:b.kind=.normal)(hdst:o.dst=some d)(hop:o.op=.move x∨o.op=.assign x)(hx:(⟨T,[]⟩:Act).eval x=v)(hd:d<n)(hn:∀p∈l,p.1≠d)
  (kk:∀gs' sl' t' x T',K1 P Shun gs' (G (b.at ⟨T',[]⟩ (.inRegion ops rest::k)) cs) t'->P5 n T' ((d,v)::l)->G4 P Post (crowd gs' (V.at x) sl') t'):G4 P Post (crowd gs V sl) t :=
 Abn hh ho hw hk hdst hop hx λgs' sl' t' x hh'=>kk gs' sl' t' x (T.setIfInBounds d v) hh' (hT.put d v hd hn)
theorem Ad{d:Nat}(hh:K1 P Shun gs (G (b.at ⟨T,[]⟩ (.inRegion ops (i::rest)::k)) cs) t)(hT:P5 n T l)(ho:ops[i]?=some o)(hw:Region.wanted o (yielded ops T)=false)(hdst:o.dst=some d)(hd:d<n)(hn:∀p∈l,p.1≠d)
  (kk:∀gs' sl' t' x T',K1 P Shun gs' (G (b.at ⟨T',[]⟩ (.inRegion ops rest::k)) cs) t'->P5 n T' l->G4 P Post (crowd gs' (V.at x) sl') t'):G4 P Post (crowd gs V sl) t :=
 Wd hh ho hw hdst λgs' sl' t' x hh'=>kk gs' sl' t' x (T.setIfInBounds d undef) hh' ((hT.put d undef hd hn).sub (λ_ hp=>C5 _ hp))
theorem PV{X:Nat->Prop}{s:Nat->Bool}(S:N0 P s)(hX:AH Shun X)(hbV:N9 X V){f:FuncId}{fn:Func}{args:Array Operand}{ats:Array TypeId}{d:Nat}(vs:Array Value)(hh:K1 P Shun gs (G (b.at ⟨T,[]⟩ (.inRegion ops (i::rest)::k)) cs) t)(hT:P5 n T l)(ho:ops[i]?=some o)(hw:Region.wanted o (yielded ops T)=true)(hk:b.kind=.normal)(hdst:o.dst=some d)(hop:o.op=.call {callee:=.value (.func f),args,argTypes:=ats})
  (hf:P.funcs[f]?=some fn) (hname:(fn.name == "runtime.NumGoroutine")=false) (hb:fn.body.isNone=false) (hsf:s f=true) (hvs:args.map (Act.eval ⟨T,[]⟩)=vs) (hd:d<n) (hn:∀p∈l,p.1≠d) {R:Value->World->Prop} (hR:∀v,P4 (R v))
  (hc:∀τ d,Calls P f vs (E0 X V τ d) λe u'=>(∃v,e=.returned v/\R v u')/\Below (E0 X V τ d).heap.size (E0 X V τ d) u')
  (kk:∀gs' w' sl' t' v T',K1 P Shun gs' (G (b.at ⟨T',[]⟩ (.inRegion ops rest::k)) cs) t'->P5 n T' ((d,v)::l)->N9 X w'->(∀τ d,R v (E0 X w' τ d)/\Below V.heap.size (E0 X V τ d) (E0 X w' τ d))->G4 P Post (crowd gs' w' sl') t'):G4 P Post (crowd gs V sl) t :=
 Abo S hX hbV hh ho hw hk hdst hop hf hname hb hsf hvs hR hc λgs' w' sl' t' v hh' hb' hR'=>kk gs' w' sl' t' v (T.setIfInBounds d v) hh' (hT.put d v hd hn) hb' hR'
theorem Jh{X:Nat->Prop}{f:FuncId}{fn:Func}{args:Array Operand}{ats:Array TypeId}{d:Nat}(vs:Array Value)(hh:K1 P Shun gs (G (b.at ⟨T,[]⟩ (.inRegion ops (i::rest)::k)) cs) t)(hT:P5 n T l)(ho:ops[i]?=some o)(hw:Region.wanted o (yielded ops T)=true)(hk:b.kind=.normal)(hdst:o.dst=some d)(hop:o.op=.call {callee:=.value (.func f),args,argTypes:=ats})
  (hf:P.funcs[f]?=some fn) (hname:(fn.name == "runtime.NumGoroutine")=false) (hb:fn.body.isNone=false) (hvs:args.map (Act.eval ⟨T,[]⟩)=vs) (hd:d<n) (hn:∀p∈l,p.1≠d) {R:Value->World->Prop}
  (hc:∀d,CD P f vs X Shun (V.at d) R)
  (kk:∀X' Shun' gs' w' sl' t' v T',AH Shun' X'->(∀b,X' b->X b∨V.heap.size<=b)->K1 P Shun' gs' (G (b.at ⟨T',[]⟩ (.inRegion ops rest::k)) cs) t'->P5 n T' ((d,v)::l)->N9 X' w'->(∀τ d,R v (E0 X' w' τ d)/\Below V.heap.size (E0 X V τ d) (E0 X' w' τ d))->G4 P Post (crowd gs' w' sl') t'):G4 P Post (crowd gs V sl) t :=
 AdR hh ho hw hk hdst hop hf hname hb hvs hc λX' Shun' gs' w' sl' t' v hX' hW' hh' hb' hR'=>kk X' Shun' gs' w' sl' t' v (T.setIfInBounds d v) hX' hW' hh' (hT.put d v hd hn) hb' hR'
end
structure Ay (F:World->Prop):Prop where
 up:∀u u',F u->Below u.heap.size u u'->F u'
 tl:P4 F
theorem Ay.and{F F':World->Prop}(h:Ay F)(h':Ay F'):Ay λu=>F u/\F' u:=⟨λu u' hu hb=>⟨h.up u u' hu.1 hb,h'.up u u' hu.2 hb⟩,λu τ d hu=>⟨h.tl u τ d hu.1,h'.tl u τ d hu.2⟩⟩
theorem ND:Ay λ_=>True:=⟨λ_ _ _ _=>trivial,λ_ _ _ _=>trivial⟩
structure L8 (X0:Nat->Prop) (W0:World) (F:World->Prop) (X:Nat->Prop) (Shun:Loc->Prop) (V:World):Prop where
 hX:AH Shun X
 base:N9 X V
 hold:∀τ d,F (E0 X V τ d)
 low:∀τ d,Below W0.heap.size (E0 X0 W0 τ d) (E0 X V τ d)
 far:∀b,X b->X0 b∨W0.heap.size<=b
section
variable {X0 X:Nat->Prop} {W0 V:World} {F:World->Prop} {Shun:Loc->Prop}
theorem L8.at(h:L8 X0 W0 F X Shun V)(d:Nat):L8 X0 W0 F X Shun (V.at d):=⟨h.hX,h.base.at d,h.hold,h.low,h.far⟩
theorem L8.size(h:L8 X0 W0 F X Shun V):W0.heap.size<=V.heap.size:=by
 have:=(h.low (λ_ _=>0) 0).size;rwa [K5,K5] at this
theorem L8.mono{F':World->Prop}(h:L8 X0 W0 F X Shun V)(hF:∀u,F u->F' u):L8 X0 W0 F' X Shun V:=⟨h.hX,h.base,λτ d=>hF _ (h.hold τ d),h.low,h.far⟩
theorem L8.up{X':Nat->Prop}{Shun':Loc->Prop}{V':World}(h:L8 X0 W0 F X Shun V)(hF:Ay F)(hX:AH Shun' X')(hb:N9 X' V')(hW:∀k,X' k->X k∨V.heap.size<=k)(hB:∀τ d,Below V.heap.size (E0 X V τ d) (E0 X' V' τ d)):L8 X0 W0 F X' Shun' V' :=
 ⟨hX,hb,λτ d=>hF.up _ _ (h.hold τ d) (by rw[K5];exact hB τ d),λτ d=>(h.low τ d).trans ((hB τ d).mono h.size),λk hk=>(hW k hk).elim (h.far k) λhk=>.inr (B3 h.size hk)⟩
theorem L8.start(hX:AH Shun X0)(hb:N9 X0 W0)(hF:∀τ d,F (E0 X0 W0 τ d)):L8 X0 W0 F X0 Shun W0:=⟨hX,hb,hF,λ_ _=>A4 _ _,λ_ h=>.inl h⟩
theorem L8.cell{a:Addr}{v:Value}(h:L8 X0 W0 F X Shun V)(hc:∀u,F u->u.cell? a=some v):V.cell? a=some v/\a.block<V.heap.size/\¬Shun (.cell a):=by
 obtain⟨h1,h2⟩:=Dm (hc _ (h.hold (λ_ _=>0) 0));refine⟨h1,World.block_lt_of_cell? V a h1,λhs=>?_⟩;obtain⟨a',e,ha⟩:=h.hX _ hs;cases e
 exact h2 ha
variable {P:Program} {s:Nat->Bool} {Post:Value->World->Prop} {b:Frame} {a:Act} {k:List Item} {bw:List Frame} {gs:Array Goroutine} {sl:Option (Nat×Nat)} {t:Trace}
theorem Lu{G':Act->World->Prop}(hF:Ay F)(hG:∀a,P4 (G' a)){g:Goroutine}{V V':World}(hI:L8 X0 W0 F X Shun V)(hst:Jc X b k bw (λa u=>∃τ d,G' a u/\Below V.heap.size (E0 X V τ d) u) g V'):
  ∃a',g=G (b.at a' k) bw/\a'.defers=[]/\L8 X0 W0 (λu=>F u/\G' a' u) X Shun V':=by
 obtain⟨a',rfl,hd,hb',hQ⟩:=hst;have h1:=λτ d=>U6 (hG a') (hQ τ d);refine⟨a',rfl,hd,hI.hX,hb',λτ d=>⟨hF.up _ _ (hI.hold τ d) (by rw[K5];exact (h1 τ d).2),(h1 τ d).1⟩,λτ d=>(hI.low τ d).trans ((h1 τ d).2.mono hI.size),hI.far⟩
theorem DP(S:N0 P s){r:Code}(hr:N7 P s r=true)(hb:CC P b)(hd:a.defers=[])(hF:Ay F)(hI:L8 X0 W0 F X Shun V){G':Act->World->Prop}(hG:∀a,P4 (G' a))(h:∀u,F u->r.wp P (λe a' u'=>e=.normal/\G' a' u'/\Below u.heap.size u u') a u)
  (hh:K1 P Shun gs (G (b.at a (.code r::k)) bw) t) (kk:∀gs V sl t a',K1 P Shun gs (G (b.at a' k) bw) t->a'.defers=[]->L8 X0 W0 (λu=>F u/\G' a' u) X Shun V->G4 P Post (crowd gs V sl) t):G4 P Post (crowd gs V sl) t:=by
 refine Y8 hI.hX hh (EM S hr hb hd hI.base (Q:=λa u=>∃τ d,G' a u/\Below V.heap.size (E0 X V τ d) u) (λτ d=>AG hI.base (λτ d=>wp_mono (h _ (hI.hold τ d)) ?_) τ d) k bw) λgs' g' w' sl' t' hh' hst=>?_
 ·intro e a' u' hq;refine⟨hq.1,τ,d,hq.2.1,?_⟩;have:=hq.2.2;rwa [K5] at this
 obtain⟨a',rfl,hd',hI'⟩:=Lu hF hG hI hst;exact kk gs' w' sl' t' a' hh' hd' hI'
theorem NE{Q Q':Exit->Act->World->Prop}(hq:∀e a u,Q e a u->Q' e a u):∀{l:List Code} {a:Act} {u:World},Bb P l Q a u->Bb P l Q' a u
 | [],_,_,h=>hq _ _ _ h
 | _::_,_,_,h=>wp_mono h λe _ _ h1=>by
  cases e with
  | normal=>exact NE hq h1
  | _=>exact hq _ _ _ h1
theorem FT(S:N0 P s){l:List Code}{B:Code}(hl:∀r∈l,N7 P s r=true)(hb:CC P b)(hd:a.defers=[])(hF:Ay F)(hI:L8 X0 W0 F X Shun V){G':Act->World->Prop}(hG:∀a,P4 (G' a))(h:∀u,F u->Bb P l (λe a' u'=>e=.normal/\G' a' u'/\Below u.heap.size u u') a u)
  (hh:K1 P Shun gs (G (b.at a (.code (AM l B)::k)) bw) t) (kk:∀gs V sl t a',K1 P Shun gs (G (b.at a' (.code B::k)) bw) t->a'.defers=[]->L8 X0 W0 (λu=>F u/\G' a' u) X Shun V->G4 P Post (crowd gs V sl) t):G4 P Post (crowd gs V sl) t:=by
 refine Y8 hI.hX hh (Es S hb (Q:=λa u=>∃τ d,G' a u/\Below V.heap.size (E0 X V τ d) u) B k bw l hl hd hI.base (λτ d=>AG hI.base (λτ d=>NE ?_ (h _ (hI.hold τ d))) τ d)) λgs' g' w' sl' t' hh' hst=>?_
 ·intro e a' u' hq;refine⟨hq.1,τ,d,hq.2.1,?_⟩;have:=hq.2.2;rwa [K5] at this
 obtain⟨a',rfl,hd',hI'⟩:=Lu hF hG hI hst;exact kk gs' w' sl' t' a' hh' hd' hI'
theorem Fj(S:N0 P s){r:Code}(hr:N7 P s r=true)(hb:CC P b)(hd:a.defers=[]){fn:Func}(hf:P.funcs[b.fn]?=some fn)(hI:L8 X0 W0 F X Shun V){R:Value->World->Prop}(hR:∀v,P4 (R v))(h:∀u,F u->W0.heap.size<=u.heap.size->r.wp P (ET P fn λv u'=>R v u'/\Below W0.heap.size u u') a u){c:Frame}{cs:List Frame}
  (hh:K1 P Shun gs (G (b.at a (.code r::k)) (c::cs)) t) (kk:∀gs V sl t v,K1 P Shun gs (G (c.finish v) cs) t->L8 X0 W0 (R v) X Shun V->G4 P Post (crowd gs V sl) t):G4 P Post (crowd gs V sl) t:=by
 refine Y8 hI.hX hh (Jg S hr hb hd hf hI.base (R:=λv u=>∃τ d,R v u/\Below W0.heap.size (E0 X V τ d) u) (λτ d=>AG hI.base (λτ d=>wp_mono (h _ (hI.hold τ d) (by rw[K5];exact hI.size)) ?_) τ d) k c cs) λgs' g' w' sl' t' hh' hst=>?_
 ·intro e a' u' hq;cases e with
  | ret =>
   obtain⟨h1,v,h2,v',e1,h3,h4⟩:=hq;exact⟨h1,v,h2,v',e1,τ,d,h3,h4⟩
  | _=>exact hq.elim
 obtain⟨v,rfl,hb',hQ⟩:=hst;have h1:=λτ d=>U6 (hR v) (hQ τ d);exact kk gs' w' sl' t' v hh' ⟨hI.hX,hb',λτ d=>(h1 τ d).1,λτ d=>(hI.low τ d).trans (h1 τ d).2,hI.far⟩
def YG(P:Program)(ops:Array Oper)(l:List Nat)(Q:Exit->Act->World->Prop)(a:Act)(u:World):Prop:=∀b k cs,∃e a' w',Q e a' w'/\Arrives P (lone (b.at a (.inRegion ops l::k)) cs u) b k cs e a' w'
theorem XX{ops:Array Oper}{l:List Nat}{Q:Exit->Act->World->Prop}{a:Act}{u:World}(h:wpOps P ops Q l a u):YG P ops l Q a u:=wp_ops l a u h
theorem Aad(S:N0 P s){ops:Array Oper}{l:List Nat}(hl:U2 P s (.inRegion ops l))(hb:CC P b)(hd:a.defers=[]){w:World}(hw:N9 X w){Q:Act->World->Prop}
  (h:∀τ d,Aq (λu=>YG P ops l (λe a' u'=>e=.normal/\Q a' u') a u) (E0 X w τ d)) (k:List Item) (bw:List Frame) :
  AU P X (Jc X b k bw Q) (G (b.at a (.inRegion ops l::k)) bw) w:=by
 have hok:N8 P s (b.at a [.inRegion ops l]):=hb.ok hd (by intro i hi;simp at hi;subst hi;exact hl)
 have hst:St P X s Gx (λfe u=>∃a',fe=b.at a' []/\Aq (Q a') u) (b.at a [.inRegion ops l]) [] w:=by
  refine⟨hok,by simp,hw,λτ d=>?_⟩;obtain⟨u0,h1,h2⟩:=h τ d;obtain⟨e,a',u',⟨rfl,hq⟩,⟨N,hN⟩⟩:=h1 b [] [c0 P];obtain⟨ve,q1,q2⟩:=shift S N hok (seg:=[]) (by simp) h2 hN;exact⟨N,b.at a' [],ve,q1,⟨rfl,rfl⟩,a',rfl,_,hq,q2⟩
 refine (Li S (λfe u v hf ⟨a',h1,h3⟩=>⟨a',h1,h3.full hf⟩) k bw hst).mono λg w' ⟨fe,h1,h2,h3,h4,h5⟩=>?_;obtain⟨a',e,_⟩:=h5 (λ_ _=>0) 0;subst e;refine⟨a',h1,h2.defers,h3,λτ d=>?_⟩;obtain⟨a'',e,hq⟩:=h5 τ d;have e1:a'.tmps=a''.tmps:=congrArg Frame.tmps e;have e2:a'.defers=a''.defers:=congrArg Frame.defers e;obtain rfl:a'=a'':=by cases a';cases a'';simp_all
 exact hq
theorem Oh(S:N0 P s){ops:Array Oper}{l:List Nat}(hl:U2 P s (.inRegion ops l))(hb:CC P b)(hd:a.defers=[])(hI:L8 X0 W0 F X Shun V){G':Act->World->Prop}(hG:∀a,P4 (G' a))(h:∀u,F u->W0.heap.size<=u.heap.size->wpOps P ops (λe a' u'=>e=.normal/\G' a' u'/\Below W0.heap.size u u') l a u)
  (hh:K1 P Shun gs (G (b.at a (.inRegion ops l::k)) bw) t) (kk:∀gs V sl t a',K1 P Shun gs (G (b.at a' k) bw) t->a'.defers=[]->L8 X0 W0 (G' a') X Shun V->G4 P Post (crowd gs V sl) t):G4 P Post (crowd gs V sl) t:=by
 refine Y8 hI.hX hh (Aad S hl hb hd hI.base (Q:=λa u=>∃τ d,G' a u/\Below W0.heap.size (E0 X V τ d) u) (λτ d=>AG hI.base (λτ d b k cs=>?_) τ d) k bw) λgs' g' w' sl' t' hh' hst=>?_
 ·obtain⟨e,a',w',hq,harr⟩:=XX (h _ (hI.hold τ d) (by rw[K5];exact hI.size)) b k cs;exact⟨e,a',w',⟨hq.1,τ,d,hq.2.1,hq.2.2⟩,harr⟩
 obtain⟨a',rfl,hd',hb',hQ⟩:=hst;have h1:=λτ d=>U6 (hG a') (hQ τ d);exact kk gs' w' sl' t' a' hh' hd' ⟨hI.hX,hb',λτ d=>(h1 τ d).1,λτ d=>(hI.low τ d).trans (h1 τ d).2,hI.far⟩
end
end Go.Proofs.YtmfjakieahkacaaGreatDoor
namespace Go.Proofs.YtmfjakieahkacaaGreatDoor
open Go.RowKit
theorem PW{s:ByteArray}(h:s.toList=[]):s=⟨#[]⟩:=EG (by rw[h,Go.ByteArray.toList_eq])
theorem Sc{b:Bk}{nm:ByteArray}{tg:List ByteArray}(h:Bh b)(hn:∀s∈tg,s.size<=maxLen):Bh (X8 b (I3 b nm) (N6 tg)):=by
 cases hx:b.bs[I3 b nm]? with
 | none=>simp only[X8,hx];exact h
 | some x =>
  rw[Ck hx];refine⟨h.1,λy hy=>?_⟩;rcases List.mem_or_eq_of_mem_set hy with k|k
  ·exact h.2 y k
  ·subst k;have hm:=A6 hx;refine⟨λs hs=>?_,(h.2 x hm).2⟩;rcases DY x.has tg s hs with k|k
   ·exact (h.2 x hm).1 s k
   ·exact hn s k
end Go.Proofs.YtmfjakieahkacaaGreatDoor
