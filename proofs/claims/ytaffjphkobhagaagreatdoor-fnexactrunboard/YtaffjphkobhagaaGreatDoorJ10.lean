/- Runs carried over, 16: the return to the caller. -/
import Derived.Test.YtaffjphkobhagaaGreatDoorJ6
set_option maxRecDepth 100000
set_option maxHeartbeats 2000000
namespace Go.Proofs.YtaffjphkobhagaaGreatDoor
open Proofs.Tryz
variable{es:Array Event}{ops:Array Oper}{tmps:Array Value}{u:Bool}{R:Ending->World->Prop}{c fr:Frame}{fn:Func}{f:FuncId}{g g':Goroutine}{bs:List Ba}{gone l tg:List BA}{cs cu:List Frame}{k0:List Item}{x:List Nat}{a b k n o rk:Nat}{Y:Nat->Prop}{r:Option Nat}{T:TypeId}{v x0 x1 x2 x3 x4 x5 y0 y1 y2 y3 y4 y5:Value}{w w' y:World}
section
open Go.Conc
section
variable {P:Program} {X:Nat->Prop} {s:FZs} {α β:Type}
def Bx(P:Program)(q:Sem α):Prop:=∀w es a w' es',q.runT P w es=(.ok a w',es')->w'=w
theorem O5(a:α):Bx P (Pure.pure a:Sem α):=λw es a w' es' h=>by cases h;rfl
theorem Jg(k:Halt):Bx P (Sem.halt k:Sem α):=λw es a w' es' h=>by cases h
theorem Q7{q:Sem α}{f:α->Sem β}(h:Bx P q)(hf:∀a,Bx P (f a)):Bx P (q >>= f):=λw es a w' es' hr=>by
 have hr:(q.bind f).runT P w es=_:=hr;rw[Sem.runT_bind'] at hr;match hq:q.runT P w es,hr with
 | (.ok b w1,e1),hr=>rw[hf b _ _ _ _ _ hr,h _ _ _ _ _ hq]
 | (.halt k w1,e1),hr=>cases hr
theorem JO{f:Program->Sem α}(h:Bx P (f P)):Bx P (program >>= f):=λw es a w' es' hr=>h w es a w' es' hr
theorem Jh(a:Addr)(m:Mode):Bx P (load a m):=λw es v w' es' hr=>by
 simp only[load,Sem.runT] at hr;split at hr
 .cases hr;rfl
 .grind
theorem Ki(t:TypeId):Bx P (underlying t):=by
 unfold underlying;refine JO ?_;split<;>first|exact O5 _|exact Jg _
theorem MJ(t:TypeId):Bx P (typeInfo t):=by
 unfold typeInfo;refine JO ?_;split<;>first|exact O5 _|exact Jg _
theorem Lv(a:Addr):∀(n i:Nat)(acc:Array Value),Bx P (loadCellsFrom a i n acc)
 | 0,_,_=>O5 _
 | n+1,i,_=>Q7 (Jh _ _) (λ_=>Lv a n (i+1) _)
theorem PQ(t:TypeId)(a:Addr):Bx P (loadVar t a):=by
 unfold loadVar;refine Q7 (by unfold isAgg;refine Q7 (Ki t) (λ_=>?_);split<;>exact O5 _) (λb=>?_);split
 .exact Q7 (Q7 (MJ t) (λ_=>O5 _)) (λn=>Q7 (Lv a _ _ _) (λ_=>O5 _))
 .exact Jh _ _
theorem WE(v:Value):Bx P (asAddr v):=by
 unfold asAddr;split
 .exact O5 _
 .exact λw es a w' es' hr=>by cases hr
 .exact Jg _
theorem PS(fn:Func)(tmps:Array Value):Bx P (results fn tmps):=by
 unfold results;refine Q7 ?_ (λ_=>O5 _);rw[Array.mapM_eq_mapM_toList];refine Q7 (f:=λl=>Pure.pure (List.toArray l)) ?_ (λ_=>O5 _);induction fn.results.toList with
 | nil=>exact O5 _
 | cons x l ih =>
  rw[List.mapM_cons];refine Q7 ?_ (λ_=>Q7 ih (λ_=>O5 _));split
  .exact O5 _
  .exact Q7 (WE _) (λ_=>PQ _ _)
theorem MK{x:World}(hs:J0 Y 0 x y)(h:(results fn tmps).runT P y #[]=(.ok v y,es)):
  (results fn tmps).runT P x #[]=(.ok v x,es)/\∀e∈es,V7 Y e:=by
 have ha:=EC (P:=P) (X:=Y) fn tmps 0 x y #[] hs (.inr (by rw[h];exact A3 _));rw[h] at ha;obtain⟨a0,x',hx,_⟩:=ha;have e:=PS fn tmps _ _ _ _ _ hx;rw[e] at hx;exact⟨hx,λe he=>(a0 e he).elim (λh=>by simp at h) id⟩
theorem Abq{R:World->Value->World->Prop}(h:Left P X s (Rh P X w R) (c::cs) g w'):
  ∃v,(∀d,∃es,stepG P true g (w'.at d)=.go (G (c.finish v) cs) (w'.at d) es/\∀e∈es,V7 X e)/\Aq X w'/\∀τ d,∃τ0 d0 u0,R (F7 X w τ0 d0) v u0/\M4 (λ_=>False) u0 (F7 X w' τ d):=by
 obtain⟨fe,rfl,hm,a6,hb,hT⟩:=h
 have a4:∀{fn:Func} {u0:World} {v:Value},(results fn fe.tmps).run P u0=.ok v u0->∃es,(results fn fe.tmps).runT P u0 #[]=(.ok v u0,es):=λ{fn u0 v} hr=>by
  simp_all
 obtain⟨τ0,d0,u0,v,hR,⟨_,_,_,fn,a7,a5⟩,a8⟩:=hT (λ_ _=>0) 0;obtain⟨es,e0⟩:=a4 a5;have e1:=(MK (a8.symm 0) e0).1;refine⟨v,λd=>?_,hb,λτ d=>?_⟩
 .have hs:J0 X 0 (w'.at d) (F7 X w' (λ_ _=>0) 0):=FM (hb.at d) (λi q hi=>by omega);obtain⟨e2,a0⟩:=MK hs e1;refine⟨seen P fe.fn es ++ #[],?_,λe he=>?_⟩
  .simp only[stepG,G,hm,unwind,a6.defers,a7,e2,doReturn,a6.kind,GStep.after]
  .rw[Array.append_empty] at he;exact a0 e (mem_seen he)
 .obtain⟨τ1,d1,u1,v1,a9,⟨_,_,_,b1,a1,a2⟩,a3⟩:=hT τ d;rw[a7] at a1;cases a1
  obtain⟨b2,f0⟩:=a4 a2;have f1:=(MK (a3.symm 0) f0).1;have b0:∀(τ:Nat->Question->Nat)(d:Nat),J0 X 0 w' (F7 X w' τ d):=λτ d=>FM hb (λi q hi=>by omega);have hy:J0 (λ_=>False) 0 (F7 X w' (λ_ _=>0) 0) (F7 X w' τ d):=⟨rfl,λ_ h=>h.elim,λ_ _=>rfl,λ_ h=>h.elim,(b0 _ _).pendU,rfl,rfl,λi q hi=>by omega⟩;have f2:=(MK hy f1).1;rw[e1] at f2;have hv:v=v1:=by cases f2;rfl
  subst hv;exact⟨τ1,d1,u1,a9,a3⟩
end
abbrev Ci (l:List Nat) (u:Bool:=false) (sl:Nat->List Nat:=λ_=>[]):FZs:=⟨λg=>l.contains g,u,sl⟩
def Ri(P:Program)(l:List Nat)(x:List Nat:=[])(u:Bool:=false)(sl:Nat->List Nat:=λ_=>[]):Bool:=(l.all λf=>match P.funcs[f]? with
 | some fn=>(match fn.body with|some b=>M7 P (Ci l u sl) (sl f) b && !(fn.name == "runtime.NumGoroutine")|none=>x.contains f)
 | none=>false)&&P.funcs.all λf=>(f.body.map readies).all (·.all (· < gN))
theorem Vi{P:Program}(h:(P.funcs.all λf=>(f.body.map readies).all (·.all (· < gN)))=true)(g:Nat)(hg:gN<=g):P.stepOf g=none:=by
 unfold Program.stepOf;rw[Array.findIdx?_eq_none_iff];intro f hf;have h1:=Array.all_eq_true'.1 h f hf;cases hb:f.body with
 | none=>rfl
 | some b =>
  rw[hb] at h1;simp only[Option.map_some,Option.all_some,List.all_eq_true,decide_eq_true_eq] at h1;simp only[Option.map_some,Option.any_some];cases hc:(readies b).contains g with
  | false=>rfl
  | true=>have:=h1 g (by simpa using hc);omega
theorem Za{P:Program}{l:List Nat}{sl:Nat->List Nat}(hx:∀f∈x,KU P f)(h:Ri P l x u sl=true):I6 P (Ci l u sl):=⟨λf hf=>by
 have hm:f∈l:=by simpa using hf
 have h1:=List.all_eq_true.1 (Bool.and_eq_true_iff.1 h).1 f hm;cases hfn:P.funcs[f]? with
 | none=>simp only[hfn] at h1;cases h1
 | some fn =>
  simp only[hfn] at h1;cases hb:fn.body with
  | none=>simp only[hb] at h1;exact .inr (hx f (by simpa using h1))
  | some b =>
   simp only[hb,Bool.and_eq_true] at h1;exact .inl ⟨fn,b,hfn,hb,h1.1,by simpa using h1.2⟩,Vi (Bool.and_eq_true_iff.1 h).2⟩
theorem LV{P:Program}{l:List Nat}{sl:Nat->List Nat}(h:Ri P l [] u sl=true):I6 P (Ci l u sl):=Za (x:=[]) (λ_ h=>by cases h) h
theorem Rj{P:Program}{Q:Next->Prop}{f:Program->Sem Next}(h:Ends P Q (f P)):Ends P Q (program >>= f):=λw es n w' es' hr=>h w es n w' es' hr
theorem Zb{P:Program}(hf:P.funcs[f]?=some fn)(hb:fn.body.isNone=true)(hn:(fn.name == "runtime.NumGoroutine")=false)(hx:(Extern.findNext fn).isNone=true){e:Array Value->Sem Value}(he:Extern.find fn=some e)(hs:∀(X:Nat->Prop) args,Sound P X (e args)):KU P f:=λX args=>by
 have hx:Extern.findNext fn=none:=by simpa using hx
 constructor
 .unfold callFunc;refine G8 ?_;simp only[hf,hn,hb,Bool.false_eq_true,if_false,if_true,hx,he];exact Sound.bind (Sound.extern (Sound.pure _)) λ_=>Sound.bind (hs X args) λ_=>Sound.pure' _
 .unfold callFunc;refine Rj ?_;simp only[hf,hn,hb,Bool.false_eq_true,if_false,if_true,hx,he];exact EB λ_=>YT _
def ext(k:List Item)(fr:Frame):Frame:={fr with todo:=fr.todo++k}
section
variable {P:Program} {X:Nat->Prop} {s:FZs}
theorem Jl{id:Nat}(k:List Item):∀{l l':List Item},exitTo id l=some l'->exitTo id (l++k)=some (l'++k)
 | [],_,h=>by cases h
 | it::l,l',h=>by
  cases it with
  | inBlock id' =>
   simp only[List.cons_append,exitTo] at h ⊢
   split at h
   .simp_all
   .rename_i hc;rw[if_neg hc];exact Jl k h
  | _=>simp only[List.cons_append,exitTo] at h ⊢;exact Jl k h
theorem DD(k:List Item)(hne:fr.todo≠[])(v:Value):(ext k fr).finish v=ext k (fr.finish v):=by
 obtain⟨fn,a2,a0,a1,a3,a4,rO⟩:=fr;cases a0 with
 | nil=>exact absurd rfl hne
 | cons it l =>
  cases it with
  | inRegion ops ord=>cases ord<;>rfl
  | _=>rfl
theorem OY(k:List Item)(fr:Frame)(c:List PanicEntry):(ext k fr).raise c=ext k (fr.raise c):=by
 obtain⟨fn,a2,a3,a0,a1,a4,rO⟩:=fr;cases a1<;>rfl
theorem Ze(S:I6 P s)(h:M8 P s fr){l:List Nat}(ht:fr.todo=.inRegion ops l::k0){q:Sem Next}(he:Ends P (EZ P s) q)
  (hq:Sound P (λ_=>False) q) {cu:List Frame} {w:World} (hw:M4 (λ_=>False) w w) {g':Goroutine} {w':World} {es:Array Event} (hst:stepG.apply P true fr cu none q w=.go g' w' es) :
  (∃fr',g'=G fr' cu/\(∀cw,stepG.apply P true fr cw none q w=.go (G fr' cw) w' es)/\∀k cw,stepG.apply P true (ext k fr) cw none q w=.go (G (ext k fr') cw) w' es)\/
  (∃fr',g'=G fr' (fr::cu)/\(∀cw,stepG.apply P true fr cw none q w=.go (G fr' (fr::cw)) w' es)/\∀k cw,stepG.apply P true (ext k fr) cw none q w=.go (G fr' (ext k fr::cw)) w' es):=by
 have hk:(fr.kind==CallKind.early)=false:=by rw[h.kind];rfl
 have a3:fr.todo≠[]:=by rw[ht];simp
 have hx:∀k,(ext k fr).todo=.inRegion ops l::(k0++k):=λk=>by simp[ext,ht]
 have a0:∀k,((ext k fr).kind==CallKind.early)=false:=λk=>hk;have a1:∀k,(ext k fr).fn=fr.fn:=λk=>rfl;have a2:=λk w1 es=>Sound.sane hq (hw 0) (k:=k) (w1:=w1) (es:=es);unfold stepG.apply at hst ⊢
 generalize hu:q.runT P w #[]=ru at hst;simp only[hk,ht,if_true,Bool.false_eq_true,if_false] at hst;match ru,hu,hst with
 | (.ok n u1,eu),hu,hst =>
  rcases he _ _ _ _ _ hu with (⟨v,rfl⟩|rfl)|⟨f,args,hf,hfa,rfl⟩<;>simp only[GStep.after] at hst<;>cases hst
  .refine .inl ⟨fr.finish v,rfl,λcw=>?_,λk cw=>?_⟩
   .simp only[hk,if_true,Bool.false_eq_true,if_false,GStep.after];rfl
   .simp only[a0,a1,if_true,Bool.false_eq_true,if_false,GStep.after,DD k a3];rfl
  .refine .inl ⟨fr.finish undef,rfl,λcw=>?_,λk cw=>?_⟩
   .simp only[hk,if_true,Bool.false_eq_true,if_false,GStep.after];rfl
   .simp only[a0,a1,if_true,Bool.false_eq_true,if_false,GStep.after,DD k a3];rfl
  .refine .inr ⟨Frame.enter P f args .normal,rfl,λcw=>?_,λk cw=>?_⟩
   .simp only[hk,ht,if_true,Bool.false_eq_true,if_false,GStep.after];rfl
   .simp only[a0,hx,a1,if_true,Bool.false_eq_true,if_false,GStep.after];rfl
 | (.halt k u1,eu),hu,hst =>
  have h0:=a2 k u1 eu hu;cases k with
  | panic v =>
   simp only[GStep.after] at hst;cases hst
   refine .inl ⟨fr.raise [{v,recovered:=false}],rfl,λcw=>?_,λk cw=>?_⟩
   .simp only[hk,if_true,Bool.false_eq_true,if_false,GStep.after];rfl
   .simp only[a0,a1,if_true,Bool.false_eq_true,if_false,GStep.after,OY];rfl
  | stuck x=>simp only[GStep.after] at hst;cases hst
  | unsupported x =>
   cases x with
   | initOrder g =>
    have hg:gN<=g:=by simpa [Ca] using h0
    rcases CM (fr:=fr) S hg cu u1 with⟨o,x,es,e⟩|⟨c,t,hp,hfo,e⟩
    .simp only[e,GStep.after] at hst;cases hst
    .simp only[e,GStep.after] at hst;cases hst
     have ew:∀(fr:Frame)(cw:List Frame),early P fr cw none g u1=.go (G fr cw) {u1 with heap:=u1.heap.setIfInBounds g (.cells c t)} #[]:=λfr cw=>by
      unfold early;simp only[hfo,Bool.not_false,if_true,hp];rfl
     refine .inl ⟨fr,rfl,λcw=>?_,λk cw=>?_⟩
     .simp only[hk,if_true,Bool.false_eq_true,if_false,GStep.after,ew]
     .simp only[a0,a1,if_true,Bool.false_eq_true,if_false,GStep.after,ew]
   | _=>first|(cases h0;done)|(simp only[GStep.after] at hst;cases hst)
  | _=>cases h0
theorem Abr(S:I6 P s)(h:M8 P s fr)(hm:fr.mode=.run)(hw:M4 (λ_=>False) w w)(hst:stepG P true (G fr cu) w=.go g' w' es):
  (∃fr',g'=G fr' cu/\(∀cw,stepG P true (G fr cw) w=.go (G fr' cw) w' es)/\(fr.todo≠[]->∀k cw,stepG P true (G (ext k fr) cw) w=.go (G (ext k fr') cw) w' es))\/
  (∃fr',g'=G fr' (fr::cu)/\fr.todo≠[]/\(∀cw,stepG P true (G fr cw) w=.go (G fr' (fr::cw)) w' es)/\∀k cw,stepG P true (G (ext k fr) cw) w=.go (G fr' (ext k fr::cw)) w' es):=by
 have hr:=h.round;have ht:=h.todo;have a6:∀k,(ext k fr).mode=.run:=λk=>hm;have a8:∀k,(ext k fr).roundOf=none:=λk=>hr
 have a0:∀{fr':Frame},(∀cs x,stepG P true (G fr cs) x=.go (G fr' cs) x #[])->(fr.todo≠[]->∀k cs x,stepG P true (G (ext k fr) cs) x=.go (G (ext k fr') cs) x #[])->
   (∃fr',g'=G fr' cu/\(∀cw,stepG P true (G fr cw) w=.go (G fr' cw) w' es)/\(fr.todo≠[]->∀k cw,stepG P true (G (ext k fr) cw) w=.go (G (ext k fr') cw) w' es)):=λe1 e2=>by
  rw[e1] at hst;cases hst
  exact⟨_,rfl,λcw=>e1 cw w,λa5 k cw=>e2 a5 k cw w⟩
 cases hto:fr.todo with
 | nil=>exact .inl (by
   have:=a0 (fr':={fr with mode:=.returning}) (λcs x=>by simp[stepG,stepG.exec,G,hm,hto,hr]) (λa5=>absurd hto a5);rwa [hto] at this)
 | cons it l =>
  rw[hto] at ht;have hi:O8 P s (s.l fr.fn) it:=ht it (by simp);have a7:∀k,(ext k fr).todo=it::(l++k):=λk=>by simp[ext,hto]
  rw[hto] at a0
  have a4:∀(l':List Item),(∀cs x,stepG P true (G fr cs) x=.go (G {fr with todo:=l'} cs) x #[])->(∀k cs x,stepG P true (G (ext k fr) cs) x=.go (G {fr with todo:=l'++k} cs) x #[])->
    (∃fr',g'=G fr' cu/\(∀cw,stepG P true (G fr cw) w=.go (G fr' cw) w' es)/\(it::l≠[]->∀k cw,stepG P true (G (ext k fr) cw) w=.go (G (ext k fr') cw) w' es)):=λl' e1 e2=>a0 e1 (λ_=>e2)
  cases it with
  | inBlock id=>exact .inl (a4 l (λcs x=>by simp[stepG,stepG.exec,G,hm,hto]) (λk cs x=>by simp[stepG,stepG.exec,G,ext,hm,hto]))
  | inScope b=>exact .inl (a4 l (λcs x=>by simp[stepG,stepG.exec,G,hm,hto]) (λk cs x=>by simp[stepG,stepG.exec,G,ext,hm,hto]))
  | inLoop b=>exact .inl (a4 (.code b::.inLoop b::l) (λcs x=>by simp[stepG,stepG.exec,G,hm,hto]) (λk cs x=>by simp[stepG,stepG.exec,G,ext,hm,hto]))
  | inRegion ops ord =>
   cases ord with
   | nil=>exact .inl (a4 l (λcs x=>by simp[stepG,stepG.exec,G,hm,hto]) (λk cs x=>by simp[stepG,stepG.exec,G,ext,hm,hto]))
   | cons i rest =>
    have a5:fr.todo≠[]:=by rw[hto];simp
    cases ho:ops[i]? with
    | none=>exact .inl (a0 (fr':=fr.finish undef) (λcs x=>by simp[stepG,stepG.exec,G,hm,hto,ho]) (λ_ k cs x=>by simp[stepG,stepG.exec,G,a6,a7,ho,DD k a5]))
    | some o =>
     cases hwt:Region.wanted o (yielded ops fr.tmps) with
     | false=>exact .inl (a0 (fr':=fr.finish undef) (λcs x=>by simp[stepG,stepG.exec,G,hm,hto,ho,hwt]) (λ_ k cs x=>by
       have:Region.wanted o (yielded ops (ext k fr).tmps)=false:=hwt;simp[stepG,stepG.exec,G,a6,a7,ho,this,DD k a5]))
     | true =>
      have a9:Cf P s (s.l fr.fn) o=true:=hi i (by simp) o ho;obtain⟨q1,q2,-⟩:=Qk (X:=X0) S fr h.slots o a9
      have e:∀cs x,stepG P true (G fr cs) x=stepG.apply P true fr cs none (execOp fr.eval o) x:=λcs x=>by
       simp[stepG,stepG.exec,G,hm,hto,ho,hwt,stepG.oper,Frame.oper?,hr]
      have ex:∀k cs x,stepG P true (G (ext k fr) cs) x=stepG.apply P true (ext k fr) cs none (execOp fr.eval o) x:=λk cs x=>by
       have e1:Region.wanted o (yielded ops (ext k fr).tmps)=true:=hwt;have e2:(ext k fr).eval=fr.eval:=rfl;simp[stepG,stepG.exec,G,a6,a7,ho,e1,stepG.oper,Frame.oper?,a8,e2]
      rw[e] at hst;rcases Ze S h hto q2 q1 hw hst with⟨fr',a1,a2,a3⟩|⟨fr',a1,a2,a3⟩
      iterate 2 .grind
  | code c =>
   have hc:M7 P s (s.l fr.fn) c=true:=hi;cases c with
   | skip=>exact .inl (a4 l (λcs x=>by simp[stepG,stepG.exec,G,hm,hto]) (λk cs x=>by simp[stepG,stepG.exec,G,ext,hm,hto]))
   | label b=>exact .inl (a4 l (λcs x=>by simp[stepG,stepG.exec,G,hm,hto]) (λk cs x=>by simp[stepG,stepG.exec,G,ext,hm,hto]))
   | seq a b=>exact .inl (a4 (.code a::.code b::l) (λcs x=>by simp[stepG,stepG.exec,G,hm,hto]) (λk cs x=>by simp[stepG,stepG.exec,G,ext,hm,hto]))
   | block id b=>exact .inl (a4 (.code b::.inBlock id::l) (λcs x=>by simp[stepG,stepG.exec,G,hm,hto]) (λk cs x=>by simp[stepG,stepG.exec,G,ext,hm,hto]))
   | loop b=>exact .inl (a4 (.code b::.inLoop b::l) (λcs x=>by simp[stepG,stepG.exec,G,hm,hto]) (λk cs x=>by simp[stepG,stepG.exec,G,ext,hm,hto]))
   | scope b=>exact .inl (a4 (.code b::.inScope b::l) (λcs x=>by simp[stepG,stepG.exec,G,hm,hto]) (λk cs x=>by simp[stepG,stepG.exec,G,ext,hm,hto]))
   | cond c a b =>
    cases hv:fr.eval c with
    | bool t =>
     have b0:∀k,(ext k fr).eval c=.bool t:=λk=>hv;exact .inl (a4 (.code (if t then a else b)::l) (λcs x=>by simp only[stepG,stepG.exec,G,hm,hto,hv]) (λk cs x=>by simp only[stepG,stepG.exec,G,a6,a7,b0];simp[ext,hm]))
    | _=>exact absurd hst (by simp only[stepG,stepG.exec,G,hm,hto,hv];intro e;cases e)
   | ret=>exact .inl (a0 (fr':={fr with mode:=.returning}) (λcs x=>by simp[stepG,stepG.exec,G,hm,hto,hr]) (λ_ k cs x=>by simp[stepG,stepG.exec,G,ext,hm,hto,hr]))
   | exit id =>
    cases hx:exitTo id l with
    | some l' =>
     have b1:∀k,exitTo id (l++k)=some (l'++k):=λk=>Jl k hx;exact .inl (a4 l' (λcs x=>by simp[stepG,stepG.exec,G,hm,hto,hx]) (λk cs x=>by simp[stepG,stepG.exec,G,ext,hm,hto,b1]))
    | none=>exact absurd hst (by simp[stepG,stepG.exec,G,hm,hto,hx,hr])
   | region id ops d =>
    cases d with
    | false=>exact .inl (a4 (.inRegion ops (List.range ops.size)::l) (λcs x=>by simp[stepG,stepG.exec,G,hm,hto]) (λk cs x=>by simp[stepG,stepG.exec,G,ext,hm,hto]))
    | true =>
     have e:∀cs x,stepG P true (G fr cs) x=.go (G {fr with todo:=.inRegion ops (Region.schedule (P.follows .mixedOrders) ops (x.tape x.drawn (.order fr.fn id)))::l} cs) {x with drawn:=x.drawn+1} #[]:=λcs x=>by
      simp[stepG,stepG.exec,G,hm,hto,choose,Sem.run,Question.forced,Question.cut]
     have ex:∀k cs x,stepG P true (G (ext k fr) cs) x=.go (G {fr with todo:=.inRegion ops (Region.schedule (P.follows .mixedOrders) ops (x.tape x.drawn (.order fr.fn id)))::(l++k)} cs) {x with drawn:=x.drawn+1} #[]:=λk cs x=>by
      simp[stepG,stepG.exec,G,ext,hm,hto,choose,Sem.run,Question.forced,Question.cut]
     rw[e] at hst;cases hst
     exact .inl ⟨_,rfl,λcw=>e cw w,λ_ k cw=>ex k cw w⟩
   | rangeFunc=>cases hc
   | goto=>cases hc
   | refuse m=>exact absurd hst (by simp only[stepG,stepG.exec,G,hm,hto];intro e;cases e)
  | _=>exact hi.elim
end
end
section
open Go.RowKit
theorem WQ(ss:List BA)(v:Value)(s:BA)(w:World)(h:Ls w v ss):
  cE prog 191 #[v,Tz s] w (Iz (Ar ss s)):=by
 obtain⟨a,c,rfl,hn,-,a0⟩:=h;unfold maxLen at hn;delta cE;go_in;go_wp2;go_loop [8] (λi=>∃k:Nat,k<=ss.length/\i=.int .i64 k/\E1 (ss.take k) s=false) (λi=>ss.length-(intOf i).toNat)
 case atStart=>exact⟨0,oM,rfl,rfl⟩
 case round =>
  obtain⟨k,hk,rfl,a1⟩:=hrel;have Hal:Hid (E1 (ss.take k) s=false):=a1;clear a1;by_cases hp:k<ss.length
  .obtain⟨b,o,rfl,hS,hb⟩:=a0 oM;have c0:=hS.cell hp;cases hq:(s.toList==(ss[k]).toList)
   .have Hq:Hid (((ss[k]).toList==s.toList)=false):=by show _=_;rw[Jk];exact hq
    go_wp2;go_round
    case rel=>exact⟨k+1,oM,mO,ED hp Hal.out Hq.out⟩
    case measure=>simp[intOf];omega
   .have Hq:Hid (((ss[k]).toList==s.toList)=true):=by show _=_;rw[Jk];exact hq
    go_wp2;go_ret;exact⟨K8 (Bz hp Hal.out Hq.out).symm,rfl⟩
  .go_wp2;go_ret;exact⟨K8 (Dq (FO hp Hal.out)).symm,rfl⟩
theorem JP(ss:List BA)(v:Value)(s:BA)(w:World)(h:Ls w v ss):
  cE prog 144 #[v,Tz s] w (.bool (E1 ss s)):=by
 obtain⟨a,c,rfl,-⟩:=id h;delta cE;go_in;go_wp2_with (refine Swz (WQ ss _ _ _ h) ?_)
 all_goals
  go_ret;rw[← Ro];try simp_all
theorem Vv(ss:List BA)(u:Value)(w:World)(h:Ls w u ss):
  cU prog 145 #[u] w (.bool (pB (Y4 ss))):=by
 obtain⟨a,c,rfl,hn,-,a1⟩:=h;unfold maxLen at hn;delta cU;go_in;go_wp2;(try dsimp only[Iz,Sy,Sx,Nz,Vz,Tz,Ez,Pz]);go_loopw [3] (λi w'=>∃k:Nat,(k+1<=ss.length\/k=0)/\i=.int .i64 (k+1)/\Q8 ss (k+1)/\Up w w') (λi _=>ss.length-(intOf i).toNat)
 case atStart=>exact⟨0,.inr rfl,rfl,Q8.one _,A4 _ _⟩
 case round =>
  obtain⟨k,hk,rfl,a0,hB⟩:=hrel;have Hasc:Hid (Q8 ss (k+1)):=a0;clear a0;by_cases hp:k+1<ss.length
  .obtain⟨b,o,rfl,hS,hb⟩:=a1 oM;have c0:=(hS.up hB hb).cell hp;have c1:=(hS.up hB hb).cell (k:=k) oM;clear hk;cases hl:U1 ss[k] ss[k+1]
   .have Hl:Hid (¬Y4 ss):=λh=>by rw[Rl h hp] at hl;cases hl
    unfold U1 at hl;go_wp2_with fail;go_quiet (fail);go_wp2;go_ret;exact⟨D4 (F3 Hl.out).symm,E5 hB _⟩
   .have Hl:Hid (Q8 ss (k+2)):=Hasc.out.step hp hl;unfold U1 at hl;go_wp2_with fail;go_quiet (fail);go_wp2;go_roundw
    case rel=>exact⟨k+1,.inl oM,mO,Hl.out,E5 hB _⟩
    case measure=>simp[intOf];omega
  .go_wp2;go_ret;exact⟨D4 (M5 (KY Hasc.out hp)).symm,hB⟩
theorem GW(ss:List BA)(u:Value)(w:World)(h:Ls w u ss):
  cU prog 202 #[u] w (.bool (pB (CY ss/\Y4 ss))):=by
 have h0:=h;obtain⟨a,c,rfl,hn,hz,a1⟩:=h;unfold maxLen at hn;delta cU;go_in;go_wp2;(try dsimp only[Iz,Sy,Sx,Nz,Vz,Tz,Ez,Pz]);go_loopw [4,7] (λ_ i w'=>∃k:Nat,k<=ss.length/\i=.int .i64 k/\S1 ss k/\Up w w') (λ_ i _=>ss.length-(intOf i).toNat)
 case atStart=>exact⟨0,oM,rfl,S1.zero _,A4 _ _⟩
 case round =>
  obtain⟨k,hk,rfl,a2,hB⟩:=hrel;have Hal:Hid (S1 ss k):=a2;clear a2;by_cases hp:k<ss.length
  .obtain⟨b,o,rfl,hS,hb⟩:=a1 oM;have c0:=(hS.up hB hb).cell hp;have z0:=hz ss[k] dC;cases hq:E4 ss[k]
   .have Hq:Hid (¬(CY ss/\Y4 ss)):=λh=>by rw[LX h.1 hp] at hq;cases hq
    go_wp2_with (go_at_call 80;refine (Z8 _ _ z0).mono ?_;rintro e w1 ⟨rfl,a0⟩;obtain⟨hB,hc,hf⟩:=gr a0)
    go_ret;exact⟨D4 (F3 Hq.out).symm,hB⟩
   .have Hq:Hid (S1 ss (k+1)):=Hal.out.step hp hq;go_wp2_with (go_at_call 80;refine (Z8 _ _ z0).mono ?_;rintro e w1 ⟨rfl,a0⟩;obtain⟨hB,hc,hf⟩:=gr a0)
    go_roundw
    case rel=>exact⟨k+1,oM,mO,Hq.out,hB⟩
    case measure=>simp[intOf];omega
  .have Hq:Hid (CY ss):=Kj Hal.out hp
   have Hp:Hid (pB (CY ss/\Y4 ss)=pB (Y4 ss)):=by
    show _=_
    have:=Hq.out;unfold pB;simp[this]
   go_wp2_with (go_at_call 145;refine (Vv ss _ _ (h0.up hB)).mono ?_;rintro e w1 ⟨rfl,a0⟩;obtain⟨hB,hc,hf⟩:=gr a0)
   go_ret;exact⟨D4 Hp.out.symm,hB⟩
theorem Fh(ss all:List BA)(u v:Value)(w:World)(h:Ls w u ss)(h2:Ls w v all):
  cU prog 90 #[u,v] w (.bool (pB (O0 ss all))):=by
 have h0:=h;obtain⟨a,c,rfl,hn,hz,a0⟩:=h;obtain⟨a2,c2,rfl,-⟩:=id h2;unfold maxLen at hn;delta cU;go_in;go_wp2;(try dsimp only[Iz,Sy,Sx,Nz,Vz,Tz,Ez,Pz]);go_loopw [6,9] (λ_ i w'=>∃k:Nat,k<=ss.length/\i=.int .i64 k/\U2 ss all k/\Up w w') (λ_ i _=>ss.length-(intOf i).toNat)
 case atStart=>exact⟨0,oM,rfl,U2.zero _ _,A4 _ _⟩
 case round =>
  obtain⟨k,hk,rfl,a1,hB⟩:=hrel;have Hal:Hid (U2 ss all k):=a1;clear a1;by_cases hp:k<ss.length
  .obtain⟨b,o,rfl,hS,hb⟩:=a0 oM;have c0:=(hS.up hB hb).cell hp;cases hq:E1 all ss[k]
   .have Hq:Hid (¬O0 ss all):=λh=>by rw[KZ h.1 hp] at hq;cases hq
    go_wp2_with (go_at_call 144;refine Swz (JP all _ _ _ (h2.up hB)) ?_)
    go_ret;exact⟨D4 (F3 Hq.out).symm,hB⟩
   .have Hq:Hid (U2 ss all (k+1)):=Hal.out.step hp hq;go_wp2_with (go_at_call 144;refine Swz (JP all _ _ _ (h2.up hB)) ?_)
    go_roundw
    case rel=>exact⟨k+1,oM,mO,Hq.out,hB⟩
    case measure=>simp[intOf];omega
  .have Hq:Hid (CI ss all):=LW Hal.out hp
   have Hp:Hid (pB (O0 ss all)=pB (Y4 ss)):=by
    show _=_
    have:=Hq.out;unfold pB O0;simp[this]
   go_wp2_with (go_at_call 145;refine (Vv ss _ _ (h0.up hB)).mono ?_;rintro e w1 ⟨rfl,a3⟩;obtain⟨hB,hc,hf⟩:=gr a3)
   go_ret;exact⟨D4 Hp.out.symm,hB⟩
theorem Uk(x:Ba)(tg:List BA)(hv nv tv:Value)(w:World)(h1:Ls w hv x.has)(h2:Ls w nv x.nj)(h3:Ls w tv tg):
  cU prog 203 #[.agg #[Tz x.nm,hv,nv],tv] w (.bool (pB (GR tg x))):=by
 obtain⟨a1,c1,rfl,-⟩:=id h1;obtain⟨a2,c2,rfl,-⟩:=id h2;obtain⟨a3,c3,rfl,-⟩:=id h3;have hC:CB (w.alloc (Kz [Tz x.nm,Vz a1 x.has.length c1,Vz a2 x.nj.length c2] 80)) w.heap.size [Tz x.nm,Vz a1 x.has.length c1,Vz a2 x.nj.length c2]:=E9 w _ _;have a0:=(A4 w.heap.size w).alloc (A3 _) (Kz [Tz x.nm,Vz a1 x.has.length c1,Vz a2 x.nj.length c2] 80);delta cU;go_in;go_upto_region 1 with fail;generalize w.alloc (Kz [Tz x.nm,Vz a1 x.has.length c1,Vz a2 x.nj.length c2] 80)=W1 at *;obtain⟨⟨d0,d1,d2⟩,-⟩:=hC.c3;have a5:=hC.2.2;have l1:=h1.up a0;have l2:=h2.up a0;have l3:=h3.up a0;have hB:Up W1 W1:=A4 _ _;obtain⟨hc,hf⟩:=E2 hB;cases hq:pB (O0 x.nj tg)
 .have Hq:Hid (pB (GR tg x)=false):=F3 λh=>N8.1 hq h.1;go_wp2_with (go_at_call 90;refine (Fh x.nj tg _ _ _ (l2.up hB) (l3.up hB)).mono ?_;rintro e w1 ⟨rfl,a4⟩;obtain⟨hB,hc,hf⟩:=gr a4)
  go_ret;exact⟨D4 Hq.out.symm,D3 a0 hB⟩
 .have Hq:Hid (pB (GR tg x)=pB (O0 x.has x.nj)):=by
   show _=_
   have:=G7.1 hq;unfold pB GR;simp[this]
  go_wp2_with (first|(revert hq;intro hq;(go_at_call 90;refine (Fh x.nj tg _ _ _ (l2.up hB) (l3.up hB)).mono ?_;rintro e w1 ⟨rfl,a4⟩;obtain⟨hB,hc,hf⟩:=gr a4);clear l3)|(go_at_call 90;refine (Fh x.has x.nj _ _ _ (l1.up hB) (l2.up hB)).mono ?_;rintro e w1 ⟨rfl,a4⟩;obtain⟨hB,hc,hf⟩:=gr a4))
  go_ret;exact⟨D4 Hq.out.symm,D3 a0 hB⟩
end
section
open Go.RowKit Go.Maps
theorem Ab6(bs:List Ba)(k:Nat)(hk:k<bs.length):G9 (bs.take (k+1))=G9 (bs.take k)++[(bs[k]).nm]:=by
 rw[Rm,Rm,A7 (by rw[K0];exact hk),Cs bs k hk]
theorem GV.batch{x:Ba}(h:GV w b o x):x.nm.size<=maxLen:=by
 obtain⟨_,_,_,_,_,h3⟩:=h;exact h3
theorem Cx(bs:List Ba)(v:Value)(w:World)(h:Bs w v bs)(hn:bs.length<=1048576):
  Calls prog 84 #[v] w λe w'=>(∃u,e=.returned u/\F9 w' w.heap.size u (G9 bs)/\Ls w' u (G9 bs))/\Up w w':=by
 obtain⟨a,c,rfl,-,a5⟩:=h;obtain⟨ii,hi,a8,a9,b0⟩:=info_parts Av;go_in;go_wp2_with fail;(try dsimp only[Iz,Sy,Sx,Nz,Vz,Tz,Ez,Pz]);go_loopw [3,5,8] (λu _ i w'=>∃k:Nat,k<=bs.length/\i=.int .i64 k/\w'.ownsRow w.heap.size 9 1 u k ((G9 (bs.take k)).map Value.string)/\Up w w') (λ_ _ i _=>bs.length-(intOf i).toNat)
 case atStart=>exact⟨0,oM,rfl,⟨by simp[G9],.inl ⟨rfl,rfl⟩⟩,A4 _ _⟩
 case round =>
  obtain⟨k,hk,rfl,a3,hB⟩:=hrel;by_cases hp:k<bs.length
  .obtain⟨b,o,rfl,hS,hb⟩:=a5 oM;obtain⟨a1,d1,a2,d2,c0,c1,c2,l1,l2,z0⟩:=((hS.at hp).up hB hb).cells
   have Hs:Hid ((G9 (bs.take (k+1))).map Value.string=(G9 (bs.take k)).map Value.string++[Tz (bs[k]).nm]):=by
    show _=_
    rw[Ab6 bs k hp,List.map_append];rfl
   generalize bs[k]=x0 at *;clear l1 l2 hS;have a6:=hB.alloc hB.size (Kz [Tz (x0).nm,Vz a1 (x0).has.length d1,Vz a2 (x0).nj.length d2] 80);have a4:=R8 a3 ((A4 wr.heap.size wr).alloc (A3 _) (Kz [Tz (x0).nm,Vz a1 (x0).has.length d1,Vz a2 (x0).nj.length d2] 80));have hC:CB (wr.alloc (Kz [Tz (x0).nm,Vz a1 (x0).has.length d1,Vz a2 (x0).nj.length d2] 80)) wr.heap.size [Tz x0.nm,Vz a1 x0.has.length d1,Vz a2 x0.nj.length d2]:=E9 wr _ _;have hz:=hB.size;go_upto_region 5 with fail;generalize wr.alloc (Kz [Tz (x0).nm,Vz a1 (x0).has.length d1,Vz a2 (x0).nj.length d2] 80)=W1 at *;obtain⟨⟨e0,-⟩,-⟩:=hC.c3;clear c0 c1 c2 a3 hB;have a0:=R8 a4 ((A4 W1.heap.size W1).alloc (A3 _) (Kz [Tz x0.nm] 9));have a7:=a6.alloc a6.size (Kz [Tz x0.nm] 9);go_wp2_with (at_builtin;refine wpList_append_own _ rfl _ _ 132 rfl w.heap.size 9 ii _ 1 16 underlying132 hi a8 a9 b0 rfl aS _ _ _ rfl a0 ⟨W1.heap.size,0,none⟩ 1 1 [Tz x0.nm] rfl rfl (Eb _ _ _) (LL _) (by unfold maxLen;omega) oM a7.size ?_)
   intro v1 w1 hown3 hgrow3 _;rw[← Hs.out] at hown3;have b1:=S0 a7 a0 hgrow3 (A3 _);clear a4 a0 hgrow3 a6 a7 hC e0;go_wp2_with fail;go_roundw
   case rel=>exact⟨k+1,oM,mO,hown3,b1⟩
   case measure=>simp[intOf];omega
  .have hz:∀s∈G9 bs,s.size<=maxLen:=λs hs=>by
    obtain⟨x,hx,rfl⟩:=List.mem_map.1 hs;obtain⟨i,hi,rfl⟩:=B7 hx;obtain⟨b,o,rfl,hS,hb⟩:=a5 oM;exact (hS.at hi).batch
   have Ho:Hid (∀u,wr.ownsRow w.heap.size 9 1 u k ((G9 (bs.take k)).map Value.string)->F9 wr w.heap.size u (G9 bs)):=λu h=>by
    obtain rfl:k=bs.length:=oM
    rw[List.take_length] at h;unfold F9;rw[K0];exact h
   have Hz:Hid (∀s∈G9 bs,s.size<=maxLen):=hz;clear hz;go_wp2_with fail;go_ret;exact⟨⟨_,rfl,Ho.out _ a3,(Ho.out _ a3).lst.ls Hz.out⟩,hB⟩
theorem RV:Keyed prog 9:=string_keyed underlying9
theorem Vy(w:World):(zeroValue 3).run prog w=.ok (Iz 0) w:=sI
abbrev WZ (w:World) (M n:Nat) (D:DataW Unit):Prop:=w.ownsMap prog 9 (plainElem prog 3) M n D
theorem Um(bs:List Ba)(v:Value)(w:World)(h:Bs w v bs)(hn:bs.length<=5)(h8:∀x∈bs,Y4 x.has/\x.has.length<=8):
  Calls prog 204 #[v] w λe w' =>
   ((BT bs/\∃M n D,e=.returned (.tuple #[.map (some M),.bool true])/\WZ w' M n D/\Q9 D bs bs.length 0/\w.heap.size<=M)\/(¬BT bs/\e=.returned (.tuple #[.map none,.bool false])))/\Up w w':=by
 obtain⟨a,c,rfl,-,a6⟩:=h;have b3:=@run_makeMap prog;go_in;go_wp2_with fail;(try dsimp only[Iz,Sy,Sx,Nz,Vz,Tz,Ez,Pz]);go_loopw [5,6,8,9,10,14] (λ_ _ _ _ _ i w'=>∃(k:Nat)(D:DataW Unit),k<=bs.length/\i=.int .i64 k/\WZ w' w.heap.size (k*8) D/\Q9 D bs k 0/\Up w w') (λ_ _ _ _ _ i _=>bs.length-(intOf i).toNat)
 case atStart=>exact⟨0,_,oM,rfl,World.ownsMap_made _ _ _ _,Q9.start bs,(A4 _ _).alloc (A3 _) _⟩
 case round =>
  obtain⟨k,D,hk,rfl,a0,hD,hB⟩:=hrel;have HD:Hid (Q9 D bs k 0):=hD;clear hD;by_cases hp:k<bs.length
  .obtain⟨b,o,rfl,hS,hb⟩:=a6 oM;obtain⟨a1,d1,a2,d2,c0,c1,c2,l1,-,-⟩:=(hS.at hp).cells;obtain⟨a7,b2⟩:=h8 bs[k] dC
   have HS:Hid (∀(D:DataW Unit)(m:Nat)(s:BA),(bs[k]).has[m]?=some s->Q9 D bs k m->Maps.has D (kl s)=false->Q9 (D.put (kl s) (.lit (.int .i64 (k:Int)))) bs k (m+1)):=λD m s hs h hn=>by
    obtain⟨hm,rfl⟩:=A2.1 hs;exact h.step hp hm hn
   have HT:Hid (∀(D:DataW Unit)(m:Nat)(s:BA),(bs[k]).has[m]?=some s->Q9 D bs k m->Maps.has D (kl s)=true->¬BT bs):=λD m s hs h hn=>by
    obtain⟨hm,rfl⟩:=A2.1 hs;exact h.twice hp hm a7 hn
   have HN:Hid (∀(D:DataW Unit)(m:Nat),¬m<(bs[k]).has.length->Q9 D bs k m->Q9 D bs (k+1) 0):=λD m hm h=>h.next hp hm;obtain⟨-,hz,a8⟩:=l1.inv;clear a7 l1;generalize bs[k]=x0 at *;obtain⟨hc,hf⟩:=E2 hB;have a5:=hB.alloc hB.size (Kz [Tz (x0).nm,Vz a1 (x0).has.length d1,Vz a2 (x0).nj.length d2] 80);have a3:=a0.alloc (Kz [Tz (x0).nm,Vz a1 (x0).has.length d1,Vz a2 (x0).nj.length d2] 80);have hC:CB (wr.alloc (Kz [Tz (x0).nm,Vz a1 (x0).has.length d1,Vz a2 (x0).nj.length d2] 80)) wr.heap.size [Tz x0.nm,Vz a1 x0.has.length d1,Vz a2 x0.nj.length d2]:=E9 wr _ _;have b4:=hB.size;go_upto_region 5 with fail;generalize wr.alloc (Kz [Tz (x0).nm,Vz a1 (x0).has.length d1,Vz a2 (x0).nj.length d2] 80)=W1 at *;obtain⟨⟨e0,e1,e2⟩,-⟩:=hC.c3;clear c0 c1 c2 hc hf a0 hB hS;go_wp2_with fail;clear e0 e1 e2 hC;(try dsimp only[Iz,Sy,Sx,Nz,Vz,Tz,Ez,Pz]);go_loopw [8,9,10,22] (λ_ _ _ j w'=>∃(m:Nat)(D':DataW Unit),m<=x0.has.length/\j=.int .i64 m/\WZ w' w.heap.size (k*8+m) D'/\Q9 D' bs k m/\Up w w') (λ_ _ _ j _=>x0.has.length-(intOf j).toNat)
   case atStart=>exact⟨0,D,oM,rfl,a3,HD.out,a5⟩
   case round =>
    clear a5 a3 HD;obtain⟨m,D',hm,rfl,a0,hD,hB⟩:=hrel;have HD:Hid (Q9 D' bs k m):=hD;clear hD;by_cases hq:m<x0.has.length
    .obtain⟨b1,o1,rfl,a9,b0⟩:=a8 oM;have c0:=(hB.cell (p:=⟨b1,o1+m,none⟩) b0).trans (a9.cell hq);have z0:=hz x0.has[m] dC;have hx:=A0 hq;generalize x0.has[m]=s at *;have Hy:Hid (Maps.has D' (kl s)=false->Q9 (D'.put (kl s) (.lit (.int .i64 (k:Int)))) bs k (m+1)):=HS.out D' m s hx HD.out;have Ht:Hid (Maps.has D' (kl s)=true->¬BT bs):=HT.out D' m s hx HD.out;have a4:keyOf prog 9 (Tz s)=some (kl s):=WideMaps.keyOf_string_mk underlying9 z0;clear HS HT HN hx HD;cases ht:Maps.has D' (kl s)
     .go_wp2_with (first
       | (at_lookup;refine wpList_lookup_own_ok_int _ rfl _ _ 252 rfl 9 3 .i64 RV underlying252 underlying3 (Vy _) w.heap.size (k*8+m) D' rfl a0 _ _ rfl a4 ?_;intro cc _ _)
       | (at_mapUpdate;refine wpList_mapUpdate_own _ rfl _ _ _ 252 rfl 9 3 RV underlying252 _ w.heap.size (k*8+m) D' rfl a0 (by unfold maxLen;omega) _ _ _ rfl rfl a4 _ [] (plainElem_int underlying3 (WalkArith.wf_i64 oM)) ?_;intro w1 hown1 hgrow1))
      have HD1:Hid (Q9 (D'.put (kl s) (.lit (.int .i64 (k:Int)))) bs k (m+1)):=Hy.out ht;have a5:=QJ hB hgrow1 (A3 _);clear Hy Ht hgrow1 a0 hB c0;go_wp2_with fail;go_roundw
      case rel=>exact⟨m+1,_,oM,mO,hown1,HD1.out,a5⟩
      case measure=>simp[intOf];omega
     .go_wp2_with (first
       | (at_lookup;refine wpList_lookup_own_ok_int _ rfl _ _ 252 rfl 9 3 .i64 RV underlying252 underlying3 (Vy _) w.heap.size (k*8+m) D' rfl a0 _ _ rfl a4 ?_;intro cc _ _))
      go_returns
      exact⟨.inr ⟨Ht.out ht,rfl⟩,hB⟩
    .go_wp2_with fail;go_roundw
     case rel=>exact⟨k+1,D',oM,mO,a0.mono oM,HN.out D' m hq HD.out,hB⟩
     case measure=>simp[intOf];omega
  .have Hk:Hid (k=bs.length):=by show _=_;omega
   go_wp2_with fail;go_returns
   exact⟨.inl ⟨HD.out.apart hp,_,_,D,rfl,a0,by rw[← Hk.out];exact HD.out,A3 _⟩,hB⟩
theorem AdR(h8:tg.length<=8)(h:Z7 tg bs bs.length):∀x∈bs,Y4 x.has/\x.has.length<=8:=λx hx=>by
 obtain⟨i,hi,rfl⟩:=B7 hx;obtain⟨h1,h2⟩:=h.at hi hi;have e1:=Ff h1;have e2:=Ff h2;exact⟨h2.2,oM⟩
theorem Xg(b:Bk)(v:Value)(w:World)(h:Z5 w v b):
  cU prog 168 #[v] w (.bool (Z1 b)):=by
 obtain⟨a1,c1,a2,c2,rfl,h1,h2⟩:=h.parts;have hC:CB (w.alloc (Kz [Vz a1 (b).tg.length c1,Vz a2 (b).bs.length c2] 34)) w.heap.size [Vz a1 b.tg.length c1,Vz a2 b.bs.length c2]:=E9 w _ _;have a0:=(A4 w.heap.size w).alloc (A3 _) (Kz [Vz a1 (b).tg.length c1,Vz a2 (b).bs.length c2] 34);have g1:=h1.inv.1;have g2:=h2.at.1;unfold maxLen at g1 g2;delta cU;go_in;go_upto_region 1 with fail;generalize w.alloc (Kz [Vz a1 (b).tg.length c1,Vz a2 (b).bs.length c2] 34)=W1 at *;have l1:=h1.up a0;have l2:=h2.up a0;obtain⟨e0,e1⟩:=hC.c2';have c6:=hC.2.2;clear h h1 h2;by_cases h8:8<b.tg.length
 .have Hq:Hid (Z1 b=false):=F3 λh=>by have:=h.1.1;omega
  go_wp2_with fail;go_ret;exact⟨D4 Hq.out.symm,a0⟩
 by_cases h5:5<b.bs.length
 .have Hq:Hid (Z1 b=false):=F3 λh=>by have:=h.2.1;omega
  go_wp2_with fail;go_ret;exact⟨D4 Hq.out.symm,a0⟩
 cases ho:pB (CY b.tg/\Y4 b.tg)
 .have Hq:Hid (Z1 b=false):=F3 λh=>N8.1 ho ⟨h.1.2.1,h.1.2.2⟩;go_wp2_with fail;refine (GW b.tg _ _ l1).mono ?_;rintro e w2 ⟨rfl,hB⟩;rw[ho];go_wp2_with fail;go_ret;exact⟨D4 Hq.out.symm,D3 a0 hB⟩
 have Ho:Hid (Cj b.tg):=⟨oM,(G7.1 ho).1,(G7.1 ho).2⟩;go_wp2_with fail;refine (GW b.tg _ _ l1).mono ?_;rintro e w2 ⟨rfl,a8⟩;rw[ho];clear ho;obtain⟨hc,hf⟩:=E2 a8;go_wp2_with fail;refine (Cx b.bs _ _ (l2.up a8) oM).mono ?_;rintro e w3 ⟨⟨u,rfl,-,hu⟩,b6⟩;clear hc hf;obtain⟨au,cu,rfl,-⟩:=id hu;go_wp2_with fail;refine (GW (G9 b.bs) _ _ hu).mono ?_;rintro e w4 ⟨rfl,b7⟩;have hB:=D3 (D3 a8 b6) b7;clear a8 b6 b7 hu;cases hn:pB (CY (G9 b.bs)/\Y4 (G9 b.bs))
 .have Hq:Hid (Z1 b=false):=F3 λh=>N8.1 hn ⟨h.2.2.1,h.2.2.2.1⟩;go_wp2_with fail;go_ret;exact⟨D4 Hq.out.symm,D3 a0 hB⟩
 have Hn:Hid (CY (G9 b.bs)/\Y4 (G9 b.bs)):=G7.1 hn;clear hn;obtain⟨hc,hf⟩:=E2 hB;obtain⟨-,b0⟩:=l2.at;have b8:=hB.size;go_wp2_with fail;clear hc hf;(try dsimp only[Iz,Sy,Sx,Nz,Vz,Tz,Ez,Pz]);go_loopw [4,31] (λ_ i w'=>∃k:Nat,k<=b.bs.length/\i=.int .i64 k/\Z7 b.tg b.bs k/\Up W1 w') (λ_ i _=>b.bs.length-(intOf i).toNat)
 case atStart=>exact⟨0,oM,rfl,Z7.zero _ _,hB⟩
 case round =>
  clear hB b8;obtain⟨k,hk,rfl,b1,hB⟩:=hrel;have Hal:Hid (Z7 b.tg b.bs k):=b1;clear b1;by_cases hp:k<b.bs.length
  .obtain⟨bb,o,rfl,hS,hb⟩:=b0 oM;obtain⟨a3,d3,a4,d4,c3,c4,c5,l3,l4,-⟩:=((hS.at hp).up hB hb).cells;have HS:Hid (GR b.tg b.bs[k]->Z7 b.tg b.bs (k+1)):=λh=>Hal.out.step hp h;have HN:Hid (¬GR b.tg b.bs[k]->Z1 b=false):=λh=>F3 λhb=>h (hb.2.2.2.2.1.at hp hp);generalize b.bs[k]=x0 at *;have b2:CB (wr.alloc (Kz [Tz (x0).nm,Vz a3 (x0).has.length d3,Vz a4 (x0).nj.length d4] 80)) wr.heap.size [Tz x0.nm,Vz a3 x0.has.length d3,Vz a4 x0.nj.length d4]:=E9 wr _ _;have a6:=(A4 wr.heap.size wr).alloc (A3 _) (Kz [Tz (x0).nm,Vz a3 (x0).has.length d3,Vz a4 (x0).nj.length d4] 80);go_upto_region 8 with fail;generalize wr.alloc (Kz [Tz (x0).nm,Vz a3 (x0).has.length d3,Vz a4 (x0).nj.length d4] 80)=W2 at *;have a7:=D3 hB a6;have b3:=l3.up a6;have b4:=l4.up a6;have b5:=l1.up a7;obtain⟨⟨q0,q1,q2⟩,-⟩:=b2.c3;obtain⟨hc,hf⟩:=E2 a7;clear c3 c4 c5 l3 l4 a6 hB hS;go_wp2_with fail;refine (Uk x0 b.tg _ _ _ _ b3 b4 b5).mono ?_;rintro e w6 ⟨rfl,a9⟩;have a5:=D3 a7 a9;clear hc hf q0 q1 q2 b3 b4 b5 a7 a9 b2;cases hq:pB (GR b.tg x0)
   .have Hq:Hid (Z1 b=false):=HN.out (N8.1 hq);go_wp2_with fail;go_ret;exact⟨D4 Hq.out.symm,D3 a0 a5⟩
   .have Hq:Hid (Z7 b.tg b.bs (k+1)):=HS.out (G7.1 hq);go_wp2_with fail;go_roundw
    case rel=>exact⟨k+1,oM,mO,Hq.out,a5⟩
    case measure=>simp[intOf];omega
  .have Hq:Hid (Z7 b.tg b.bs b.bs.length):=Vj Hal.out hp;have b9:∀x∈b.bs,Y4 x.has/\x.has.length<=8:=AdR oM Hq.out;obtain⟨hc,hf⟩:=E2 hB;go_wp2_with fail;refine (Um b.bs _ _ (l2.up hB) oM b9).mono ?_;rintro e w6 ⟨hh,a9⟩;have a5:=D3 hB a9;clear hc hf;rcases hh with⟨hA,M,n,D,rfl,-,-,-⟩|⟨hA,rfl⟩
   .have Hy:Hid (Z1 b=true):=M5 ⟨Ho.out,oM,Hn.out.1,Hn.out.2,Hq.out,hA⟩;go_wp2_with fail;go_ret;exact⟨D4 Hy.out.symm,D3 a0 a5⟩
   .have Hy:Hid (Z1 b=false):=F3 λh=>hA h.2.2.2.2.2;go_wp2_with fail;go_ret;exact⟨D4 Hy.out.symm,D3 a0 a5⟩
end
section
def E3:List BA->(BA->Bool)->Nat
 | [],_=>0
 | t::r,P=>(if P t=true then 1 else 0)+2*E3 r P
theorem MZ(P:BA->Bool)(t:BA):∀l:List BA,E3 (l++[t]) P=E3 l P+(if P t=true then 2 ^ l.length else 0)
 | []=>by simp[E3]
 | x::r=>by
  rw[List.cons_append,E3,E3,MZ P t r,List.length_cons,Nat.pow_succ];split<;>split<;>omega
theorem Sf(P:BA->Bool):∀l:List BA,E3 l P<2 ^ l.length
 | []=>by simp[E3]
 | x::r=>by
  have:=Sf P r;rw[E3,List.length_cons,Nat.pow_succ];split<;>omega
theorem S8(h:l.length<=8)(P:BA->Bool):E3 l P<256 :=
 A1 (Sf P l) (Nat.pow_le_pow_right oM h)
theorem CT{P Q:BA->Bool}:∀{l:List BA},(∀t∈l,P t=Q t)->E3 l P=E3 l Q
 | [],_=>rfl
 | x::r,h=>by rw[E3,E3,h x dC,CT λt ht=>h t (by simp[ht])]
theorem GG{P Q:BA->Bool}:∀{l:List BA},(∀t∈l,P t=true->Q t=false)->E3 l P+E3 l Q=E3 l λt=>P t || Q t
 | [],_=>rfl
 | x::r,h=>by
  have h1:=GG (P:=P) (Q:=Q) (l:=r) λt ht=>h t (by simp[ht]);have h2:=h x dC;rw[E3,E3,E3,← h1];cases hp:P x<;>cases hq:Q x<;>simp_all<;>omega
theorem ZB{P Q:BA->Bool}(h:∀t∈l,Q t=true->P t=true):E3 l P=E3 l Q+E3 l λt=>P t && !Q t:=by
 rw[GG (λt _ hq=>by simp[hq])];refine CT λt ht=>?_;cases hq:Q t
 .simp
 .simp[h t ht hq]
theorem DJ(P:BA->Bool):∀(l:List BA)(i:Nat),(E3 l P).testBit i=(l[i]?.map P).getD false
 | [],i=>by simp[E3]
 | x::r,0=>by
  rw[E3,Nat.testBit_zero];have e:((if P x=true then 1 else 0)+2*E3 r P) % 2=(if P x=true then 1 else 0):=by split<;>omega
  rw[e];cases h:P x<;>simp[h]
 | x::r,i+1=>by
  rw[E3,Nat.testBit_succ,List.getElem?_cons_succ,← DJ P r i];congr 1
  split<;>omega
theorem ZC{P Q:BA->Bool}(hl:l.length<=8):(E3 l P &&& (18446744073709551615-E3 l Q)=0)↔∀t∈l,P t=true->Q t=true:=by
 have hQ:=S8 hl Q;have e:18446744073709551615-E3 l Q=2 ^ 64-(E3 l Q+1):=oM
 constructor
 .intro h t ht hp;obtain⟨i,hi,rfl⟩:=B7 ht;have h1:=congrArg (Nat.testBit · i) h;simp only[Nat.testBit_and,Nat.zero_testBit] at h1;rw[e,Nat.testBit_two_pow_sub_succ oM,DJ,DJ,A0 hi] at h1;simp[hp] at h1;exact h1 oM
 .intro h;refine Nat.eq_of_testBit_eq λi=>?_;rw[Nat.testBit_and,Nat.zero_testBit,e,Nat.testBit_two_pow_sub_succ oM,DJ,DJ];rcases Nat.lt_or_ge i l.length with hi|hi
  iterate 2 .simp_all
def BU(bs:List Ba)(at':Nat)(gone:List BA)(k:Nat):Prop:=∀(i:Nat)(x y:Ba),i<k->i≠at'->bs[i]?=some x->bs[at']?=some y->E1 gone x.nm=false->J9 x.has y.nj=false
def JR(bs:List Ba)(at':Nat)(gone:List BA):Prop:=BU bs at' gone bs.length
theorem BU.zero(bs:List Ba)(a:Nat)(gone:List BA):BU bs a gone 0:=λi _ _ h=>by omega
theorem AdS(h:BU bs a gone k)(hk:¬k<bs.length):JR bs a gone:=λi x y hi hne hx hy hm=>h i x y oM hne hx hy hm
theorem BU.step(h:BU bs a gone k)(hk:k<bs.length)(ha:a<bs.length)(h1:k=a\/E1 gone (bs[k]).nm=true\/J9 (bs[k]).has (bs[a]).nj=false):BU bs a gone (k+1):=λi x y hi hne hx hy hm=>by
 by_cases e:i=k
 .simp_all
 .exact h i x y oM hne hx hy hm
theorem Af5(hk:k<bs.length)(ha:a<bs.length)(hne:k≠a)(hm:E1 gone (bs[k]).nm=false)(hs:J9 (bs[k]).has (bs[a]).nj=true):¬JR bs a gone:=λh=>by
 have:=h k _ _ hk hne (A0 hk) (A0 ha) hm;rw[hs] at this;cases this
def Qo(bs:List Ba)(G:Nat->Bool)(k:Nat)(t:BA):Bool:=(List.range k).all λi=>G i || !((bs[i]?.map λx=>E1 x.has t).getD false)
theorem Kp(bs:List Ba)(G:Nat->Bool)(k:Nat)(t:BA):Qo bs G k t=true↔∀(i:Nat)(x:Ba),i<k->bs[i]?=some x->G i=false->E1 x.has t=false:=by
 simp only[Qo,List.all_eq_true,List.mem_range];constructor
 .grind
 .grind
theorem Ab9{b:Bk}(hok:J3 b)(ha:a<b.bs.length){G:Nat->Bool}(hG:∀(i:Nat)(hi:i<b.bs.length),G i=E1 gone (b.bs[i]).nm)(hga:G a=false):
  (∀t∈b.tg,E1 (b.bs[a]).nj t=true->(Qo b.bs G b.bs.length t || E1 (b.bs[a]).has t)=true)↔JR b.bs a gone:=by
 have hb:=hok.2.2.2.2.1.at ha ha;constructor
 .intro h i x y hi hne hx hy hm;rw[A0 hi] at hx;rw[A0 ha] at hy;obtain rfl:=A5 hx;obtain rfl:=A5 hy;rw[Az];intro s h1 h2;have h3:=h s (Jj hb.1.1 h2) ((Ag _ _).2 h2);rcases Bool.or_eq_true_iff.1 h3 with h4|h4
  .have:=(Kp _ _ _ _).1 h4 i _ hi (A0 hi) (by rw[hG i hi];exact hm);rw[Cr] at this;exact this h1
  .have h5:=(Ag _ _).1 h4;rcases Nat.lt_or_gt_of_ne hne with h6|h6
   .have:=hok.2.2.2.2.2.at ha h6;rw[Az] at this;exact this s h5 h1
   .have:=hok.2.2.2.2.2.at hi h6;rw[Az] at this;exact this s h1 h5
 .intro h t ht hn;cases hh:E1 (b.bs[a]).has t
  .rw[Bool.or_false,Kp];intro i x hi hx hg;rw[A0 hi] at hx;obtain rfl:=A5 hx;by_cases e:i=a
   .subst e;exact hh
   .have:=h i _ _ hi e (A0 hi) (A0 ha) (by rw[← hG i hi];exact hg);rw[Az] at this;rw[Cr];exact λh1=>this t h1 ((Ag _ _).1 hn)
  .simp
def NV(w:World):Prop:=∀(b:Nat)(c:Array Value)(t:TypeId),w.heap[b]?=some (Obj.pending c t)->gN<=b
end
section
open Go.RowKit
theorem AcW:(prog.info? 126).map (·.size)=some 8:=sI
theorem Y7(ps:List Ph)(b o c:Nat)(nm:BA)(w:World)(hr:G4 w b o ps)(hn:ps.length<=1048576):
  cE prog 72 #[Sx b o ps.length c,Tz nm] w (Iz (M6 ps nm)):=by
 delta cE;go_in;go_wp2;go_loop [5] (λi=>∃k:Nat,k<=ps.length/\i=.int .i64 k/\H7 (ps.take k) nm=false) (λi=>ps.length-(intOf i).toNat)
 case atStart=>exact⟨0,oM,rfl,rfl⟩
 case round =>
  obtain⟨k,hk,rfl,a0⟩:=hrel;have Hal:Hid (H7 (ps.take k) nm=false):=a0;clear a0;by_cases hp:k<ps.length
  .obtain⟨c0,-⟩:=hr.cells k hp;cases hq:((ps[k]).nm.toList==nm.toList)
   .have Hq:Hid (((ps[k]).nm.toList==nm.toList)=false):=hq;go_wp2;go_round
    case rel=>exact⟨k+1,oM,mO,by rw[OJ ps nm k hp,Hal.out,Hq.out];rfl⟩
    case measure=>simp[intOf];omega
   .have Hq:Hid (((ps[k]).nm.toList==nm.toList)=true):=hq;go_wp2;go_ret;exact⟨K8 (OK ps nm k hp Hal.out Hq.out).symm,rfl⟩
  .go_wp2;go_ret;exact⟨K8 (LQ ps nm (LP ps nm k hp Hal.out)).symm,rfl⟩
def Ph.none:Ph:=⟨⟨#[]⟩,0,⟨#[]⟩,⟨#[]⟩,0,0,⟨#[]⟩,⟨#[]⟩⟩
theorem GZ(ps:List Ph)(b o c:Nat)(nm:BA)(w:World)(hr:G4 w b o ps)(hb:b<w.heap.size)(hn:ps.length<=1048576):
  Calls prog 136 #[Sx b o ps.length c,Tz nm] w λe w' =>
   (∃p:Ph,e=.returned (.tuple #[.agg #[Tz (p).nm,Iz (p).k,Tz (p).a,Tz (p).b,Iz (p).n,Iz (p).wi,Tz (p).t,Tz (p).e],.bool (H7 ps nm)])/\∀(k:Nat)(hk:k<ps.length),M6 ps nm=(k:Int)->p=ps[k])/\Up w w':=by
 go_in;go_wp2;(try dsimp only[Iz,Sy,Sx,Nz,Vz,Tz,Ez,Pz]);go_loopw [10] (λi w'=>∃k:Nat,k<=ps.length/\i=.int .i64 k/\H7 (ps.take k) nm=false/\Up w w'/\CB w' w.heap.size Ph.none.cells) (λi _=>ps.length-(intOf i).toNat)
 case atStart=>exact⟨0,oM,rfl,rfl,(A4 _ _).alloc (A3 _) _,E9 w Ph.none.cells 126⟩
 case round =>
  obtain⟨k,hk,rfl,a0,hB,hC⟩:=hrel;have Hal:Hid (H7 (ps.take k) nm=false):=a0;clear a0;by_cases hp:k<ps.length
  .obtain⟨c0,c1,c2,c3,c4,c5,c6,c7⟩:=(hr.up hB hb).cells k hp;have a1:=hC.2.2;have a5:¬w.heap.size=wr.heap.size:=oM
   have a6:¬wr.heap.size=w.heap.size:=oM
   cases hq:((ps[k]).nm.toList==nm.toList)
   .have Hq:Hid (((ps[k]).nm.toList==nm.toList)=false):=hq;go_wp2;go_roundw
    case rel=>exact⟨k+1,oM,mO,by rw[OJ ps nm k hp,Hal.out,Hq.out];rfl,hB.alloc hB.size _,hC.up ((A4 wr.heap.size _).alloc (A3 _) _) a1⟩
    case measure=>simp[intOf];omega
   .have Hq:Hid (((ps[k]).nm.toList==nm.toList)=true):=hq;go_upto_region 5 with fail;have a2:CB (wr.alloc (Kz [Tz (ps[k]).nm,Iz (ps[k]).k,Tz (ps[k]).a,Tz (ps[k]).b,Iz (ps[k]).n,Iz (ps[k]).wi,Tz (ps[k]).t,Tz (ps[k]).e] 126)) w.heap.size Ph.none.cells:=hC.up ((A4 wr.heap.size _).alloc (A3 _) _) a1;have a3:CB (wr.alloc (Kz [Tz (ps[k]).nm,Iz (ps[k]).k,Tz (ps[k]).a,Tz (ps[k]).b,Iz (ps[k]).n,Iz (ps[k]).wi,Tz (ps[k]).t,Tz (ps[k]).e] 126)) wr.heap.size (ps[k]).cells:=E9 wr (ps[k]).cells _;have a4:=hB.alloc hB.size (Kz [Tz (ps[k]).nm,Iz (ps[k]).k,Tz (ps[k]).a,Tz (ps[k]).b,Iz (ps[k]).n,Iz (ps[k]).wi,Tz (ps[k]).t,Tz (ps[k]).e] 126);clear c0 c1 c2 c3 c4 c5 c6 c7;generalize wr.alloc (Kz [Tz (ps[k]).nm,Iz (ps[k]).k,Tz (ps[k]).a,Tz (ps[k]).b,Iz (ps[k]).n,Iz (ps[k]).wi,Tz (ps[k]).t,Tz (ps[k]).e] 126)=W2 at *;obtain⟨⟨c0,c1,c2,c3,c4,c5,c6,c7⟩,-⟩:=a3.c8;obtain⟨⟨d0,d1,d2,d3,d4,d5,d6,d7⟩,f0,f1,f2,f3,f4,f5,f6,f7⟩:=a2.c8;go_wp2_with fail;refine bodyPost_ret (UU (v:=.bool true) (rk:=w.heap.size) (cs:=(ps[k]).cells) results136 underlying126 rfl AcW ?ht ?hv ?hZ) rfl ?_
    case ht=>rfl
    case hv=>rfl
    case hZ=>exact a2.copy8 _ _ _ _ _ _ _ _
    refine⟨⟨ps[k],?_,?_⟩,Ms a4 (A3 _) _ _ _ _ _ _ _ _⟩
    .rw[Abe ps nm k hp Hq.out];rfl
    .intro j hj ha;have:=OK ps nm k hp Hal.out Hq.out;obtain rfl:j=k:=oM
     rfl
  .obtain⟨⟨d0,d1,d2,d3,d4,d5,d6,d7⟩,f0,f1,f2,f3,f4,f5,f6,f7⟩:=hC.c8;go_wp2_with fail;refine bodyPost_ret (UU (v:=.bool false) (rk:=w.heap.size) (cs:=Ph.none.cells) results136 underlying126 rfl AcW ?ht ?hv ?hZ) rfl ?_
   case ht=>rfl
   case hv=>rfl
   case hZ=>exact hC.copy8 _ _ _ _ _ _ _ _
   refine⟨⟨Ph.none,?_,?_⟩,Ms hB (A3 _) _ _ _ _ _ _ _ _⟩
   .rw[LP ps nm k hp Hal.out];rfl
   .intro j hj ha;have:=LQ ps nm (LP ps nm k hp Hal.out);omega
theorem Of(ps:List Ph)(b o c:Nat)(nm:BA)(w:World)(hr:G4 w b o ps)(hb:b<w.heap.size)(hn:ps.length<=1048576):
  cU prog 182 #[Sx b o ps.length c,Tz nm] w (.bool (H7 ps nm)):=by
 delta cU;go_in;go_wp2_with fail;refine (GZ ps b o c nm _ hr hb hn).mono ?_;rintro e w1 ⟨⟨p,rfl,-⟩,a0⟩;go_wp2_with fail;go_ret;exact⟨rfl,a0.alloc a0.size _⟩
theorem Ab7(ps:List Ph)(b o c:Nat)(nm:BA)(w:World)(hE:F6 w)(hr:G4 w b o ps)(hb:b<w.heap.size)(hn:ps.length<=1048576):
  Calls prog 183 #[.slice (some ⟨b,o,none⟩) ps.length c,.string nm] w λe w'=>e=.returned (.bool (AP ps nm))/\Up w w':=by
 have HE:Hid (F6 w):=hE;clear hE;cases h:(K1 nm != 0)
 .go_in;go_wp2_with (first|(go_at_call 216;refine (Q4 _ _ HE.out).mono ?_;rintro e w' ⟨rfl,hw⟩;obtain rfl:=hw.symm;clear hw)|(go_at_call 182;refine (Of _ _ _ _ _ _ hr hb hn).mono ?_;rintro e w1 ⟨rfl,a0⟩;obtain⟨hB,hc,hf⟩:=gr a0))
  go_ret;exact⟨D4 (by simp[AP,h]),hB⟩
 .go_in;go_wp2_with (first|(go_at_call 216;refine (Q4 _ _ HE.out).mono ?_;rintro e w' ⟨rfl,hw⟩;obtain rfl:=hw.symm;clear hw)|(go_at_call 182;refine (Of _ _ _ _ _ _ hr hb hn).mono ?_;rintro e w1 ⟨rfl,a0⟩;obtain⟨hB,hc,hf⟩:=gr a0))
  go_ret;exact⟨D4 (by simp[AP,h]),A4 _ _⟩
theorem Af3(ps:List Ph)(n b o c:Nat)(nm:BA)(w:World)(hl:ps.length=n)(hr:G4 w b o ps)(hb:b<w.heap.size)(hn:ps.length<=1048576):
  cU prog 182 #[Sx b o n c,Tz nm] w (.bool (H7 ps nm)):=by
 subst hl;exact Of ps b o c nm w hr hb hn
theorem AdP(ps:List Ph)(n b o c:Nat)(nm:BA)(w:World)(hl:ps.length=n)(hE:F6 w)(hr:G4 w b o ps)(hb:b<w.heap.size)(hn:ps.length<=1048576):
  cU prog 183 #[Sx b o n c,Tz nm] w (.bool (AP ps nm)):=by
 subst hl;exact Ab7 ps b o c nm w hE hr hb hn
theorem Vr{P:Program}{q:Tmp}(h:fn.results=#[.cell q T]){d:TypeDesc}(hu:P.underlying T=some d)(hd:d.isRow=true)(hi:(P.info? T).map (·.size)=some 3)
  (k:CB w rk [y0,y1,y2]) (ht:tmps.getD q undef=Pz rk 0) (hR:R (.returned (.agg #[x0,x1,x2])) (((w.setCell ⟨rk,0,none⟩ x0).setCell ⟨rk,1,none⟩ x1).setCell ⟨rk,2,none⟩ x2)) :
  bodyPost P fn R .ret {tmps:=tmps,defers:=[]} (((w.setCell ⟨rk,0,none⟩ x0).setCell ⟨rk,1,none⟩ x1).setCell ⟨rk,2,none⟩ x2) :=
 bodyPost_ret (Mu (cs:=[x0,x1,x2]) h hu hd hi ht (k.copy3 x0 x1 x2)) rfl hR
theorem AdI{P:Program}{q:Tmp}(h:fn.results=#[.cell q T]){d:TypeDesc}(hu:P.underlying T=some d)(hd:d.isRow=true)(hi:(P.info? T).map (·.size)=some 2)
  (k:CB w rk [y0,y1]) (ht:tmps.getD q undef=Pz rk 0) (hR:R (.returned (.agg #[x0,x1])) ((w.setCell ⟨rk,0,none⟩ x0).setCell ⟨rk,1,none⟩ x1)) :
  bodyPost P fn R .ret {tmps:=tmps,defers:=[]} ((w.setCell ⟨rk,0,none⟩ x0).setCell ⟨rk,1,none⟩ x1) :=
 bodyPost_ret (Mu (cs:=[x0,x1]) h hu hd hi ht (k.copy2 x0 x1)) rfl hR
theorem CB.c6(h:CB w b [x0,x1,x2,x3,x4,x5]):
  AS w b 0 x0/\AS w b 1 x1/\AS w b 2 x2/\AS w b 3 x3/\AS w b 4 x4/\AS w b 5 x5 :=
 ⟨h.1 0 _ rfl,h.1 1 _ rfl,h.1 2 _ rfl,h.1 3 _ rfl,h.1 4 _ rfl,h.1 5 _ rfl⟩
theorem CB.copy6(h:CB w b [y0,y1,y2,y3,y4,y5])(x0 x1 x2 x3 x4 x5:Value):
  CB ((((((w.setCell ⟨b,0,none⟩ x0).setCell ⟨b,1,none⟩ x1).setCell ⟨b,2,none⟩ x2).setCell ⟨b,3,none⟩ x3).setCell ⟨b,4,none⟩ x4).setCell ⟨b,5,none⟩ x5) b [x0,x1,x2,x3,x4,x5]:=h.copy [x0,x1,x2,x3,x4,x5] rfl
theorem CB.f6(h:CB w b [x0,x1,x2,x3,x4,x5]):
  w.frozen? ⟨b,0,none⟩=false/\w.frozen? ⟨b,1,none⟩=false/\w.frozen? ⟨b,2,none⟩=false/\w.frozen? ⟨b,3,none⟩=false/\w.frozen? ⟨b,4,none⟩=false/\w.frozen? ⟨b,5,none⟩=false :=
 ⟨(h.2.1 0 dC).2,(h.2.1 1 dC).2,(h.2.1 2 dC).2,(h.2.1 3 dC).2,(h.2.1 4 dC).2,(h.2.1 5 dC).2⟩
theorem Vs{P:Program}{q:Tmp}(h:fn.results=#[.cell q T]){d:TypeDesc}(hu:P.underlying T=some d)(hd:d.isRow=true)(hi:(P.info? T).map (·.size)=some 6)
  (k:CB w rk [y0,y1,y2,y3,y4,y5]) (ht:tmps.getD q undef=Pz rk 0) (hR:R (.returned (.agg #[x0,x1,x2,x3,x4,x5])) ((((((w.setCell ⟨rk,0,none⟩ x0).setCell ⟨rk,1,none⟩ x1).setCell ⟨rk,2,none⟩ x2).setCell ⟨rk,3,none⟩ x3).setCell ⟨rk,4,none⟩ x4).setCell ⟨rk,5,none⟩ x5)) :
  bodyPost P fn R .ret {tmps:=tmps,defers:=[]} ((((((w.setCell ⟨rk,0,none⟩ x0).setCell ⟨rk,1,none⟩ x1).setCell ⟨rk,2,none⟩ x2).setCell ⟨rk,3,none⟩ x3).setCell ⟨rk,4,none⟩ x4).setCell ⟨rk,5,none⟩ x5) :=
 bodyPost_ret (Mu (cs:=[x0,x1,x2,x3,x4,x5]) h hu hd hi ht (k.copy6 x0 x1 x2 x3 x4 x5)) rfl hR
theorem LZ(w:World)(o:Obj):(w.alloc o).heap[w.heap.size]?=some o:=Array.getElem?_push_size
def P7(w:World)(b o n:Nat):Prop:=w.there b o n/\∃c e f,w.heap[b]?=some (.cells c e f)/\c.size=o+n
theorem Bt(w:World)(C:Array Value)(t:TypeId):P7 (w.alloc (.cells C t)) w.heap.size 0 C.size:=⟨TM w C t,C,t,_,LZ w _,oM⟩
theorem GD(h:P7 w b o n)(hk:w'.heap[b]?=w.heap[b]?):P7 w' b o n:=by
 obtain⟨h1,c,e,f,h2,h3⟩:=h;refine⟨λj hj=>?_,c,e,f,hk.trans h2,h3⟩;rw[C2 (w:=w) (a:=⟨b,o+j,none⟩) hk,World.frozen?_of_block (w:=w) (a:=⟨b,o+j,none⟩) hk];exact h1 j hj
theorem P8{B:Nat}(h:P7 w b o n)(hb:Below B w w')(hB:b<B):P7 w' b o n:=GD h (hb.block b hB)
theorem Sd(h:P7 w b o n)(hg:w.grownBy w' r)(hb:b<w.heap.size)(hne:some b≠r):P7 w' b o n:=GD h (hg.block b hb hne)
theorem O2(h:P7 w b o n)(r j:Nat)(u:Value):P7 (w.setCell ⟨r,j,none⟩ u) b o n:=by
 obtain⟨h1,c,e,f,h2,h3⟩:=h;refine⟨by have:=World.there_setCells h1 r j [u];simpa [World.setCells] using this,?_⟩;by_cases hr:r=b
 .subst hr;refine⟨c.setIfInBounds j u,e,f,?_,by simpa using h3⟩;show (w.heap.modify _ _)[r]?=_
  rw[Array.getElem?_modify,if_pos rfl,h2];rfl
 .refine⟨c,e,f,?_,h3⟩;show (w.heap.modify _ _)[b]?=_
  rw[Array.getElem?_modify,if_neg hr];exact h2
theorem Ab8{j:Nat}{u:Value}(h:P7 w b 0 n):P7 (w.setCell ⟨b,j,none⟩ u) b 0 n:=O2 h b j u
theorem Bc:∀{w:World} {b o n:Nat} (_:P7 w b o n) (r j:Nat) (vs:List Value),P7 (w.setCells r j vs) b o n
 | _,_,_,_,h,_,_,[]=>h
 | _,_,_,_,h,r,j,v::vs=>by
  rw[World.setCells];exact Bc (O2 h r j v) r _ vs
end
end Go.Proofs.YtaffjphkobhagaaGreatDoor
