/- Runs carried over, 16: the return to the caller. -/
import Derived.Test.YtmfjakieahkacaaGreatDoorJ24
import Derived.Test.YtmfjakieahkacaaGreatDoorJ2
import Derived.Test.YtmfjakieahkacaaGreatDoorJ8
import Derived.Test.YtmfjakieahkacaaGreatDoorJ17
import Derived.Test.YtmfjakieahkacaaGreatDoorJ53
set_option maxRecDepth 20000
set_option maxHeartbeats 4000000
namespace Go.Proofs.YtmfjakieahkacaaGreatDoor
open Go.Conc
section
variable {P:Program} {X:Nat->Prop} {s:Nat->Bool} {α β:Type}
def CU(P:Program)(q:Sem α):Prop:=∀w es a w' es',q.runT P w es=(.ok a w',es')->w'=w
theorem Z6(a:α):CU P (Pure.pure a:Sem α):=λw es a w' es' h=>by cases h;rfl
theorem HZ(k:Halt):CU P (Sem.halt k:Sem α):=λw es a w' es' h=>by cases h
theorem Ao{q:Sem α}{f:α->Sem β}(h:CU P q)(hf:∀a,CU P (f a)):CU P (q >>= f):=λw es a w' es' hr=>by
 have hr:(q.bind f).runT P w es=_:=hr;rw[Sem.runT_bind'] at hr;match hq:q.runT P w es,hr with
 | (.ok b w1,e1),hr=>rw[hf b _ _ _ _ _ hr,h _ _ _ _ _ hq]
 | (.halt k w1,e1),hr=>cases hr
theorem Iv{f:Program->Sem α}(h:CU P (f P)):CU P (program >>= f):=λw es a w' es' hr=>h w es a w' es' hr
theorem Lg(a:Addr)(m:Mode):CU P (load a m):=λw es v w' es' hr=>by
 simp only[load,Sem.runT] at hr;split at hr
 ·cases hr;rfl
 ·split at hr
  ·cases hr;rfl
  ·cases hr
theorem Vv(t:TypeId):CU P (underlying t):=by
 unfold underlying;refine Iv ?_;split<;>first|exact Z6 _|exact HZ _
theorem Tw(t:TypeId):CU P (typeInfo t):=by
 unfold typeInfo;refine Iv ?_;split<;>first|exact Z6 _|exact HZ _
theorem Kc(a:Addr):∀(n i:Nat)(acc:Array Value),CU P (loadCellsFrom a i n acc)
 | 0,_,_=>Z6 _
 | n+1,i,_=>Ao (Lg _ _) (λ_=>Kc a n (i+1) _)
theorem NX(t:TypeId)(a:Addr):CU P (loadVar t a):=by
 unfold loadVar;refine Ao (by unfold isAgg;refine Ao (Vv t) (λ_=>?_);split<;>exact Z6 _) (λb=>?_);split
 ·exact Ao (Ao (Tw t) (λ_=>Z6 _)) (λn=>Ao (Kc a _ _ _) (λ_=>Z6 _))
 ·exact Lg _ _
theorem Tx(v:Value):CU P (asAddr v):=by
 unfold asAddr;split
 ·exact Z6 _
 ·exact λw es a w' es' hr=>by cases hr
 ·exact HZ _
theorem NY(fn:Func)(tmps:Array Value):CU P (results fn tmps):=by
 unfold results;refine Ao ?_ (λ_=>Z6 _);rw[Array.mapM_eq_mapM_toList];refine Ao (f:=λl=>Pure.pure (List.toArray l)) ?_ (λ_=>Z6 _);induction fn.results.toList with
 | nil=>exact Z6 _
 | cons x l ih =>
  rw[List.mapM_cons];refine Ao ?_ (λ_=>Ao ih (λ_=>Z6 _));split
  ·exact Z6 _
  ·exact Ao (Tx _) (λ_=>NX _ _)
theorem Lh{Y:Nat->Prop}{fn:Func}{tmps:Array Value}{x y:World}{v:Value}{es:Array Event}(hs:U7 Y 0 x y)(h:(results fn tmps).runT P y #[]=(.ok v y,es)):
  (results fn tmps).runT P x #[]=(.ok v x,es)/\∀e∈es,Aj Y e:=by
 have ha:=IZ (P:=P) (X:=Y) fn tmps 0 x y #[] hs (.inr (by rw[h];exact A3 _));rw[h] at ha;obtain⟨hev,x',hx,_⟩:=ha;have e:=NY fn tmps _ _ _ _ _ hx;rw[e] at hx;exact⟨hx,λe he=>(hev e he).elim (λh=>by simp at h) id⟩
theorem PF{w:World}{R:World->Value->World->Prop}{c:Frame}{cs:List Frame}{g:Goroutine}{w':World}(h:Left P X s (Gw P X w R) (c::cs) g w'):
  ∃v,(∀d,∃es,stepG P true g (w'.at d)=.go (G (c.finish v) cs) (w'.at d) es/\∀e∈es,Aj X e)/\N9 X w'/\∀τ d,∃τ0 d0 u0,R (E0 X w τ0 d0) v u0/\R4 (λ_=>False) u0 (E0 X w' τ d):=by
 obtain⟨fe,rfl,hm,hok,hb,hT⟩:=h
 have at_u:∀{fn:Func} {u0:World} {v:Value},(results fn fe.tmps).run P u0=.ok v u0->∃es,(results fn fe.tmps).runT P u0 #[]=(.ok v u0,es):=λ{fn u0 v} hr=>by
  have e:=Sem.runT_fst P (results fn fe.tmps) u0 #[];rw[hr] at e;exact⟨_,Prod.ext e rfl⟩
 obtain⟨τ0,d0,u0,v,hR,⟨_,_,_,fn,hfn,hres⟩,hfu⟩:=hT (λ_ _=>0) 0;obtain⟨es,e0⟩:=at_u hres;have e1:=(Lh (hfu.symm 0) e0).1;refine⟨v,λd=>?_,hb,λτ d=>?_⟩
 ·have hs:U7 X 0 (w'.at d) (E0 X w' (λ_ _=>0) 0):=FK (hb.at d) (λi q hi=>by omega);obtain⟨e2,hfine⟩:=Lh hs e1;refine⟨seen P fe.fn es ++ #[],?_,λe he=>?_⟩
  ·simp only[stepG,G,hm,unwind,hok.defers,hfn,e2,doReturn,hok.kind,GStep.after]
  ·rw[Array.append_empty] at he;exact hfine e (mem_seen he)
 ·obtain⟨τ1,d1,u1,v1,hR1,⟨_,_,_,fn1,hfn1,hres1⟩,hfu1⟩:=hT τ d;rw[hfn] at hfn1;cases hfn1
  obtain⟨es1,f0⟩:=at_u hres1;have f1:=(Lh (hfu1.symm 0) f0).1;have hs0:∀(τ:Nat->Question->Nat)(d:Nat),U7 X 0 w' (E0 X w' τ d):=λτ d=>FK hb (λi q hi=>by omega);have hy:U7 (λ_=>False) 0 (E0 X w' (λ_ _=>0) 0) (E0 X w' τ d):=⟨rfl,λ_ h=>h.elim,λ_ _=>rfl,λ_ h=>h.elim,(hs0 _ _).pendU,rfl,rfl,λi q hi=>by omega⟩;have f2:=(Lh hy f1).1;rw[e1] at f2;have hv:v=v1:=by cases f2;rfl
  subst hv;exact⟨τ1,d1,u1,hR1,hfu1⟩
end
def PG(P:Program)(l:List Nat)(x:List Nat:=[]):Bool:=(l.all λf=>match P.funcs[f]? with
 | some fn=>(match fn.body with|some b=>N7 P (λg=>l.contains g) b && !(fn.name == "runtime.NumGoroutine")|none=>x.contains f)
 | none=>false)&&P.funcs.all λf=>(f.body.map readies).all (·.all (· < gN))
theorem ZM{P:Program}(h:(P.funcs.all λf=>(f.body.map readies).all (·.all (· < gN)))=true)(g:Nat)(hg:gN<=g):P.stepOf g=none:=by
 unfold Program.stepOf;rw[Array.findIdx?_eq_none_iff];intro f hf;have h1:=Array.all_eq_true'.1 h f hf;cases hb:f.body with
 | none=>rfl
 | some b =>
  rw[hb] at h1;simp only[Option.map_some,Option.all_some,List.all_eq_true,decide_eq_true_eq] at h1;simp only[Option.map_some,Option.any_some];cases hc:(readies b).contains g with
  | false=>rfl
  | true=>have:=h1 g (by simpa using hc);omega
theorem Nu{P:Program}{l x:List Nat}(hx:∀f∈x,BP P f)(h:PG P l x=true):N0 P (λg=>l.contains g):=⟨λf hf=>by
 have hm:f∈l:=by simpa using hf
 have h1:=List.all_eq_true.1 (Bool.and_eq_true_iff.1 h).1 f hm;cases hfn:P.funcs[f]? with
 | none=>simp only[hfn] at h1;cases h1
 | some fn =>
  simp only[hfn] at h1;cases hb:fn.body with
  | none=>simp only[hb] at h1;exact .inr (hx f (by simpa using h1))
  | some b =>
   simp only[hb,Bool.and_eq_true] at h1;exact .inl ⟨fn,b,hfn,hb,h1.1,by simpa using h1.2⟩,ZM (Bool.and_eq_true_iff.1 h).2⟩
theorem XE{P:Program}{l:List Nat}(h:PG P l=true):N0 P (λg=>l.contains g):=Nu (x:=[]) (λ_ h=>by cases h) h
theorem Jb{P:Program}{Q:Next->Prop}{f:Program->Sem Next}(h:AW P Q (f P)):AW P Q (program >>= f):=λw es n w' es' hr=>h w es n w' es' hr
theorem CA{P:Program}{f:FuncId}{fn:Func}(hf:P.funcs[f]?=some fn)(hb:fn.body.isNone=true)(hn:(fn.name == "runtime.NumGoroutine")=false)(hx:(Extern.findNext fn).isNone=true){e:Array Value->Sem Value}(he:Extern.find fn=some e)(hs:∀(X:Nat->Prop) args,D0 P X (e args)):BP P f:=λX args=>by
 have hx:Extern.findNext fn=none:=by simpa using hx
 constructor
 ·unfold callFunc;refine D6 ?_;simp only[hf,hn,hb,Bool.false_eq_true,if_false,if_true,hx,he];exact D0.bind (D0.extern (D0.pure _)) λ_=>D0.bind (hs X args) λ_=>D0.pure' _
 ·unfold callFunc;refine Jb ?_;simp only[hf,hn,hb,Bool.false_eq_true,if_false,if_true,hx,he];exact DL λ_=>UL _
def ext(k:List Item)(fr:Frame):Frame:={fr with todo:=fr.todo++k}
section
variable {P:Program} {X:Nat->Prop} {s:Nat->Bool}
theorem Ia{id:Nat}(k:List Item):∀{l l':List Item},exitTo id l=some l'->exitTo id (l++k)=some (l'++k)
 | [],_,h=>by cases h
 | it::l,l',h=>by
  cases it with
  | inBlock id' =>
   simp only[List.cons_append,exitTo] at h ⊢
   split at h
   ·rename_i hc;rw[if_pos hc];cases h;rfl
   ·rename_i hc;rw[if_neg hc];exact Ia k h
  | _=>simp only[List.cons_append,exitTo] at h ⊢;exact Ia k h
theorem Ed{fr:Frame}(k:List Item)(hne:fr.todo≠[])(v:Value):(ext k fr).finish v=ext k (fr.finish v):=by
 obtain⟨fn,tmps,todo,defers,mode,kind,rO⟩:=fr;cases todo with
 | nil=>exact absurd rfl hne
 | cons it l =>
  cases it with
  | inRegion ops ord=>cases ord<;>rfl
  | _=>rfl
theorem Nv(k:List Item)(fr:Frame)(c:List PanicEntry):(ext k fr).raise c=ext k (fr.raise c):=by
 obtain⟨fn,tmps,todo,defers,mode,kind,rO⟩:=fr;cases mode<;>rfl
theorem Vw(S:N0 P s){fr:Frame}(h:N8 P s fr){ops:Array Oper}{l:List Nat}{k0:List Item}(ht:fr.todo=.inRegion ops l::k0){q:Sem Next}(he:AW P (λn=>Bu n∨∃f args,Db P s f/\n=.enter f args) q)
  (hq:D0 P (λ_=>False) q) {cu:List Frame} {w:World} (hw:R4 (λ_=>False) w w) {g':Goroutine} {w':World} {es:Array Event} (hst:stepG.apply P true fr cu none q w=.go g' w' es) :
  (∃fr',g'=G fr' cu/\(∀cw,stepG.apply P true fr cw none q w=.go (G fr' cw) w' es)/\∀k cw,stepG.apply P true (ext k fr) cw none q w=.go (G (ext k fr') cw) w' es)∨
  (∃fr',g'=G fr' (fr::cu)/\(∀cw,stepG.apply P true fr cw none q w=.go (G fr' (fr::cw)) w' es)/\∀k cw,stepG.apply P true (ext k fr) cw none q w=.go (G fr' (ext k fr::cw)) w' es):=by
 have hk:(fr.kind==CallKind.early)=false:=by rw[h.kind];rfl
 have hne:fr.todo≠[]:=by rw[ht];simp
 have hx:∀k,(ext k fr).todo=.inRegion ops l::(k0++k):=λk=>by simp[ext,ht]
 have hxk:∀k,((ext k fr).kind==CallKind.early)=false:=λk=>hk;have hxf:∀k,(ext k fr).fn=fr.fn:=λk=>rfl;have sane:=λk w1 es=>D0.sane hq (hw 0) (k:=k) (w1:=w1) (es:=es);unfold stepG.apply at hst ⊢
 generalize hu:q.runT P w #[]=ru at hst;simp only[hk,ht,if_true,Bool.false_eq_true,if_false] at hst;match ru,hu,hst with
 | (.ok n u1,eu),hu,hst =>
  rcases he _ _ _ _ _ hu with (⟨v,rfl⟩|rfl)|⟨f,args,hf,rfl⟩<;>simp only[GStep.after] at hst<;>cases hst
  ·refine .inl ⟨fr.finish v,rfl,λcw=>?_,λk cw=>?_⟩
   ·simp only[hk,if_true,Bool.false_eq_true,if_false,GStep.after];rfl
   ·simp only[hxk,hxf,if_true,Bool.false_eq_true,if_false,GStep.after,Ed k hne];rfl
  ·refine .inl ⟨fr.finish undef,rfl,λcw=>?_,λk cw=>?_⟩
   ·simp only[hk,if_true,Bool.false_eq_true,if_false,GStep.after];rfl
   ·simp only[hxk,hxf,if_true,Bool.false_eq_true,if_false,GStep.after,Ed k hne];rfl
  ·refine .inr ⟨Frame.enter P f args .normal,rfl,λcw=>?_,λk cw=>?_⟩
   ·simp only[hk,ht,if_true,Bool.false_eq_true,if_false,GStep.after];rfl
   ·simp only[hxk,hx,hxf,if_true,Bool.false_eq_true,if_false,GStep.after];rfl
 | (.halt k u1,eu),hu,hst =>
  have h0:=sane k u1 eu hu;cases k with
  | panic v =>
   simp only[GStep.after] at hst;cases hst
   refine .inl ⟨fr.raise [{v,recovered:=false}],rfl,λcw=>?_,λk cw=>?_⟩
   ·simp only[hk,if_true,Bool.false_eq_true,if_false,GStep.after];rfl
   ·simp only[hxk,hxf,if_true,Bool.false_eq_true,if_false,GStep.after,Nv];rfl
  | stuck x=>simp only[GStep.after] at hst;cases hst
  | unsupported x =>
   cases x with
   | initOrder g =>
    have hg:gN<=g:=by simpa [Du] using h0
    rcases EB (fr:=fr) S hg cu u1 with⟨o,x,es,e⟩|⟨c,t,hp,hfo,e⟩
    ·simp only[e,GStep.after] at hst;cases hst
    ·simp only[e,GStep.after] at hst;cases hst
     have ew:∀(fr:Frame)(cw:List Frame),early P fr cw none g u1=.go (G fr cw) {u1 with heap:=u1.heap.setIfInBounds g (.cells c t)} #[]:=λfr cw=>by
      unfold early;simp only[hfo,Bool.not_false,if_true,hp];rfl
     refine .inl ⟨fr,rfl,λcw=>?_,λk cw=>?_⟩
     ·simp only[hk,if_true,Bool.false_eq_true,if_false,GStep.after,ew]
     ·simp only[hxk,hxf,if_true,Bool.false_eq_true,if_false,GStep.after,ew]
   | _=>first|(cases h0;done)|(simp only[GStep.after] at hst;cases hst)
  | _=>cases h0
theorem PH(S:N0 P s){fr:Frame}(h:N8 P s fr)(hm:fr.mode=.run){cu:List Frame}{w:World}(hw:R4 (λ_=>False) w w){g':Goroutine}{w':World}{es:Array Event}(hst:stepG P true (G fr cu) w=.go g' w' es):
  (∃fr',g'=G fr' cu/\(∀cw,stepG P true (G fr cw) w=.go (G fr' cw) w' es)/\(fr.todo≠[]->∀k cw,stepG P true (G (ext k fr) cw) w=.go (G (ext k fr') cw) w' es))∨
  (∃fr',g'=G fr' (fr::cu)/\fr.todo≠[]/\(∀cw,stepG P true (G fr cw) w=.go (G fr' (fr::cw)) w' es)/\∀k cw,stepG P true (G (ext k fr) cw) w=.go (G fr' (ext k fr::cw)) w' es):=by
 have hr:=h.round;have ht:=h.todo;have hmx:∀k,(ext k fr).mode=.run:=λk=>hm;have hrx:∀k,(ext k fr).roundOf=none:=λk=>hr
 have still:∀{fr':Frame},(∀cs x,stepG P true (G fr cs) x=.go (G fr' cs) x #[])->(fr.todo≠[]->∀k cs x,stepG P true (G (ext k fr) cs) x=.go (G (ext k fr') cs) x #[])->
   (∃fr',g'=G fr' cu/\(∀cw,stepG P true (G fr cw) w=.go (G fr' cw) w' es)/\(fr.todo≠[]->∀k cw,stepG P true (G (ext k fr) cw) w=.go (G (ext k fr') cw) w' es)):=λe1 e2=>by
  rw[e1] at hst;cases hst
  exact⟨_,rfl,λcw=>e1 cw w,λhne k cw=>e2 hne k cw w⟩
 cases hto:fr.todo with
 | nil=>exact .inl (by
   have:=still (fr':={fr with mode:=.returning}) (λcs x=>by simp[stepG,stepG.exec,G,hm,hto,hr]) (λhne=>absurd hto hne);rwa [hto] at this)
 | cons it l =>
  rw[hto] at ht;have hi:U2 P s it:=ht it (by simp);have htx:∀k,(ext k fr).todo=it::(l++k):=λk=>by simp[ext,hto]
  rw[hto] at still
  have go1:∀(l':List Item),(∀cs x,stepG P true (G fr cs) x=.go (G {fr with todo:=l'} cs) x #[])->(∀k cs x,stepG P true (G (ext k fr) cs) x=.go (G {fr with todo:=l'++k} cs) x #[])->
    (∃fr',g'=G fr' cu/\(∀cw,stepG P true (G fr cw) w=.go (G fr' cw) w' es)/\(it::l≠[]->∀k cw,stepG P true (G (ext k fr) cw) w=.go (G (ext k fr') cw) w' es)):=λl' e1 e2=>still e1 (λ_=>e2)
  cases it with
  | inBlock id=>exact .inl (go1 l (λcs x=>by simp[stepG,stepG.exec,G,hm,hto]) (λk cs x=>by simp[stepG,stepG.exec,G,ext,hm,hto]))
  | inScope b=>exact .inl (go1 l (λcs x=>by simp[stepG,stepG.exec,G,hm,hto]) (λk cs x=>by simp[stepG,stepG.exec,G,ext,hm,hto]))
  | inLoop b=>exact .inl (go1 (.code b::.inLoop b::l) (λcs x=>by simp[stepG,stepG.exec,G,hm,hto]) (λk cs x=>by simp[stepG,stepG.exec,G,ext,hm,hto]))
  | inRegion ops ord =>
   cases ord with
   | nil=>exact .inl (go1 l (λcs x=>by simp[stepG,stepG.exec,G,hm,hto]) (λk cs x=>by simp[stepG,stepG.exec,G,ext,hm,hto]))
   | cons i rest =>
    have hne:fr.todo≠[]:=by rw[hto];simp
    cases ho:ops[i]? with
    | none=>exact .inl (still (fr':=fr.finish undef) (λcs x=>by simp[stepG,stepG.exec,G,hm,hto,ho]) (λ_ k cs x=>by simp[stepG,stepG.exec,G,hmx,htx,ho,Ed k hne]))
    | some o =>
     cases hwt:Region.wanted o (yielded ops fr.tmps) with
     | false=>exact .inl (still (fr':=fr.finish undef) (λcs x=>by simp[stepG,stepG.exec,G,hm,hto,ho,hwt]) (λ_ k cs x=>by
       have:Region.wanted o (yielded ops (ext k fr).tmps)=false:=hwt;simp[stepG,stepG.exec,G,hmx,htx,ho,this,Ed k hne]))
     | true =>
      have hoo:ER P s o.op=true:=hi i (by simp) o ho;obtain⟨q1,q2⟩:=Oc (X:=λ_=>False) S fr o hoo
      have e:∀cs x,stepG P true (G fr cs) x=stepG.apply P true fr cs none (execOp fr.eval o) x:=λcs x=>by
       simp[stepG,stepG.exec,G,hm,hto,ho,hwt,stepG.oper,Frame.oper?,hr]
      have ex:∀k cs x,stepG P true (G (ext k fr) cs) x=stepG.apply P true (ext k fr) cs none (execOp fr.eval o) x:=λk cs x=>by
       have e1:Region.wanted o (yielded ops (ext k fr).tmps)=true:=hwt;have e2:(ext k fr).eval=fr.eval:=rfl;simp[stepG,stepG.exec,G,hmx,htx,ho,e1,stepG.oper,Frame.oper?,hrx,e2]
      rw[e] at hst;rcases Vw S h hto q2 q1 hw hst with⟨fr',a1,a2,a3⟩|⟨fr',a1,a2,a3⟩
      ·exact .inl ⟨fr',a1,λcw=>(e cw w).trans (a2 cw),λ_ k cw=>(ex k cw w).trans (a3 k cw)⟩
      ·exact .inr ⟨fr',a1,by simp,λcw=>(e cw w).trans (a2 cw),λk cw=>(ex k cw w).trans (a3 k cw)⟩
  | code c =>
   have hc:N7 P s c=true:=hi;cases c with
   | skip=>exact .inl (go1 l (λcs x=>by simp[stepG,stepG.exec,G,hm,hto]) (λk cs x=>by simp[stepG,stepG.exec,G,ext,hm,hto]))
   | label b=>exact .inl (go1 l (λcs x=>by simp[stepG,stepG.exec,G,hm,hto]) (λk cs x=>by simp[stepG,stepG.exec,G,ext,hm,hto]))
   | seq a b=>exact .inl (go1 (.code a::.code b::l) (λcs x=>by simp[stepG,stepG.exec,G,hm,hto]) (λk cs x=>by simp[stepG,stepG.exec,G,ext,hm,hto]))
   | block id b=>exact .inl (go1 (.code b::.inBlock id::l) (λcs x=>by simp[stepG,stepG.exec,G,hm,hto]) (λk cs x=>by simp[stepG,stepG.exec,G,ext,hm,hto]))
   | loop b=>exact .inl (go1 (.code b::.inLoop b::l) (λcs x=>by simp[stepG,stepG.exec,G,hm,hto]) (λk cs x=>by simp[stepG,stepG.exec,G,ext,hm,hto]))
   | scope b=>exact .inl (go1 (.code b::.inScope b::l) (λcs x=>by simp[stepG,stepG.exec,G,hm,hto]) (λk cs x=>by simp[stepG,stepG.exec,G,ext,hm,hto]))
   | cond c a b =>
    cases hv:fr.eval c with
    | bool t =>
     have hvx:∀k,(ext k fr).eval c=.bool t:=λk=>hv;exact .inl (go1 (.code (if t then a else b)::l) (λcs x=>by simp only[stepG,stepG.exec,G,hm,hto,hv]) (λk cs x=>by simp only[stepG,stepG.exec,G,hmx,htx,hvx];simp[ext,hm]))
    | _=>exact absurd hst (by simp only[stepG,stepG.exec,G,hm,hto,hv];intro e;cases e)
   | ret=>exact .inl (still (fr':={fr with mode:=.returning}) (λcs x=>by simp[stepG,stepG.exec,G,hm,hto,hr]) (λ_ k cs x=>by simp[stepG,stepG.exec,G,ext,hm,hto,hr]))
   | exit id =>
    cases hx:exitTo id l with
    | some l' =>
     have hxx:∀k,exitTo id (l++k)=some (l'++k):=λk=>Ia k hx;exact .inl (go1 l' (λcs x=>by simp[stepG,stepG.exec,G,hm,hto,hx]) (λk cs x=>by simp[stepG,stepG.exec,G,ext,hm,hto,hxx]))
    | none=>exact absurd hst (by simp[stepG,stepG.exec,G,hm,hto,hx,hr])
   | region id ops d =>
    cases d with
    | false=>exact .inl (go1 (.inRegion ops (List.range ops.size)::l) (λcs x=>by simp[stepG,stepG.exec,G,hm,hto]) (λk cs x=>by simp[stepG,stepG.exec,G,ext,hm,hto]))
    | true =>
     have e:∀cs x,stepG P true (G fr cs) x=.go (G {fr with todo:=.inRegion ops (Region.schedule (P.follows .mixedOrders) ops (x.tape x.drawn (.order fr.fn id)))::l} cs) {x with drawn:=x.drawn+1} #[]:=λcs x=>by
      simp[stepG,stepG.exec,G,hm,hto,choose,Sem.run,Question.forced,Question.cut]
     have ex:∀k cs x,stepG P true (G (ext k fr) cs) x=.go (G {fr with todo:=.inRegion ops (Region.schedule (P.follows .mixedOrders) ops (x.tape x.drawn (.order fr.fn id)))::(l++k)} cs) {x with drawn:=x.drawn+1} #[]:=λk cs x=>by
      simp[stepG,stepG.exec,G,ext,hm,hto,choose,Sem.run,Question.forced,Question.cut]
     rw[e] at hst;cases hst
     exact .inl ⟨_,rfl,λcw=>e cw w,λ_ k cw=>ex k cw w⟩
   | rangeFunc=>cases hc
   | goto=>cases hc
   | refuse=>cases hc
  | _=>exact hi.elim
end
def Ty(k:List Item):List Frame->List Frame
 | []=>[]
 | [r]=>[ext k r]
 | a::b::t=>a::Ty k (b::t)
def gx(k:List Item)(fr:Frame)(seg bw:List Frame):Goroutine :=
 match seg with
 | []=>G (ext k fr) bw
 | c::t=>G fr (Ty k (c::t)++bw)
section
variable {P:Program} {X:Nat->Prop} {s:Nat->Bool} {F:Frame->World->Prop}
theorem Mq(S:N0 P s)(k:List Item){fr:Frame}{seg bw:List Frame}(h:N8 P s fr)(hg:DZ fr seg)(hne:seg=[]->fr.todo≠[])(hne':∀c∈seg,c.todo≠[]){w:World}(hw:R4 (λ_=>False) w w)
  {fr':Frame} {seg':List Frame} {w':World} {es:Array Event} (hst:stepG P true (G fr (seg++bw)) w=.go (G fr' (seg'++bw)) w' es) :
  stepG P true (gx k fr seg bw) w=.go (gx k fr' seg' bw) w' es/\∀c∈seg',c.todo≠[]:=by
 have gi:∀{a b:Frame} {l l':List Frame},G a l=G b l'->a=b/\l=l':=λe=>⟨congrArg (·.frame) e,congrArg (·.callers) e⟩;cases hm:fr.mode with
 | run =>
  rcases PH S h hm hw hst with⟨f1,a1,a2,a3⟩|⟨f1,a1,a2,a3,a4⟩
  ·obtain⟨rfl,e⟩:=gi a1;have e:=List.append_cancel_right e;subst e;refine⟨?_,hne'⟩;cases seg' with
   | nil=>exact a3 (hne rfl) k bw
   | cons c t=>exact a2 _
  ·obtain⟨rfl,e⟩:=gi a1;rw[show fr::(seg++bw)=(fr::seg)++bw from rfl] at e;have e:=List.append_cancel_right e;subst e;refine⟨?_,λc hc=>(List.mem_cons.1 hc).elim (λe=>e ▸ a2) (hne' c)⟩;cases seg with
   | nil=>exact a4 k bw
   | cons c t=>exact a3 _
 | returning =>
  cases seg with
  | nil=>exact (hg.elim (λhg=>by rw[hm] at hg;cases hg) λhg=>absurd rfl hg)
  | cons c t =>
   obtain⟨fn,hf⟩:=h.fn;generalize hu:(results fn fr.tmps).runT P w #[]=ru
   have step:∀(c:Frame)(cs:List Frame),stepG P true (G fr (c::cs)) w=GStep.after (seen P fr.fn ru.2) (match ru.1 with
     | .ok v w=>doReturn P true fr (c::cs) none v w
     | .halt k w=>(match k with | .stuck x=>.ended (.stuck x (fr.pos P)) w | .unsupported x=>.ended (.unsupported x (fr.pos P)) w|_=>.ended (.stuck "" (fr.pos P)) w))∨∃o x es,stepG P true (G fr (c::cs)) w=.ended o x es:=λc cs=>by
    match ru,hu with
    | (.ok v u1,eu),hu=>exact .inl (by simp only[stepG,G,hm,unwind,h.defers,hf,hu])
    | (.halt k u1,eu),hu=>exact .inr (by cases k<;>exact⟨_,_,_,by simp only[stepG,G,hm,unwind,h.defers,hf,hu,GStep.after];rfl⟩)
   match ru,hu,step with
   | (.halt k u1,eu),hu,step =>
    exfalso
    rcases step c (t++bw) with e|⟨o,x,es1,e⟩
    ·rw[List.cons_append,e] at hst;cases k<;>(simp only[GStep.after] at hst;cases hst)
    ·rw[List.cons_append,e] at hst;cases hst
   | (.ok v u1,eu),hu,step =>
    have go:∀(c:Frame)(cs:List Frame),stepG P true (G fr (c::cs)) w=.go (G (c.finish v) cs) u1 (seen P fr.fn eu ++ #[]):=λc cs=>by
     simp only[stepG,G,hm,unwind,h.defers,hf,hu,doReturn,h.kind,GStep.after]
    rw[List.cons_append,go] at hst;rw[GStep.go.injEq] at hst;obtain⟨e1,rfl,rfl⟩:=hst;obtain⟨rfl,e2⟩:=gi e1;have e3:=List.append_cancel_right e2;subst e3;refine⟨?_,λx hx=>hne' x (by simp[hx])⟩;cases t with
    | nil =>
     have:=go (ext k c) bw;rw[Ed k (hne' c (by simp))] at this;exact this
    | cons d t=>exact go c _
 | panicking ch =>
  cases seg with
  | nil=>exact (hg.elim (λhg=>by rw[hm] at hg;cases hg) λhg=>absurd rfl hg)
  | cons c t =>
   obtain⟨fn,hf⟩:=h.fn;have hcat:fr.catches P=false:=by unfold Frame.catches;rw[hf]
   have go:∀(c:Frame)(cs:List Frame),stepG P true (G fr (c::cs)) w=.go (G (c.raise ch) cs) w #[]:=λc cs=>by
    simp only[stepG,G,hm,unwind,h.defers,hcat,Bool.false_eq_true,if_false]
   rw[List.cons_append,go] at hst;rw[GStep.go.injEq] at hst;obtain⟨e1,rfl,rfl⟩:=hst;obtain⟨rfl,e2⟩:=gi e1;have e3:=List.append_cancel_right e2;subst e3;refine⟨?_,λx hx=>hne' x (by simp[hx])⟩;cases t with
   | nil =>
    have:=go (ext k c) bw;rw[Nv] at this;exact this
   | cons d t=>exact go c _
abbrev Gx (fr:Frame):Prop:=fr.mode=.run/\fr.todo=[]
def TA(P:Program)(X:Nat->Prop)(s:Nat->Bool)(F:Frame->World->Prop)(k:List Item)(bw:List Frame)(g:Goroutine)(w:World):Prop :=
 ∃fe,g=G (ext k fe) bw/\N8 P s fe/\N9 X w/\Gx fe/\∀τ d,F fe (E0 X w τ d)
theorem AaZ(S:N0 P s){fr:Frame}{w:World}(h:St P X s Gx F fr [] w)(hc:fr.mode≠.run∨fr.todo=[])(k:List Item)(bw:List Frame)(d:Nat):TA P X s F k bw (gx k fr [] bw) (w.at d):=by
 have key:∀τ d,Gx fr/\F fr (E0 X w τ d):=λτ d=>by
  obtain⟨N,fe,ue,hr,hmo,hF⟩:=h.ends τ d
  have rest:∀{f:Frame} {N:Nat},N8 P s f->f.mode≠.run->runN P N (lone f [c0 P] (E0 X w τ d))=.next (lone fe [c0 P] ue)->f=fe:=λ{f N} hf hm hr=>by
   have hN:=Dc S hf (λhh=>hh.elim hm (λh=>h rfl)) hr;subst hN;simp only[runN,Stepped.next.injEq] at hr;exact (Y7 hr).1
  simp only[List.nil_append] at hr;by_cases hm:fr.mode=.run
  ·have ht:fr.todo=[]:=hc.resolve_left λh=>h hm;have hstep:step P (lone fr [c0 P] (E0 X w τ d))=.next (lone {fr with mode:=.returning} [c0 P] (E0 X w τ d)):=BR (es:=#[]) (by simp[stepG,stepG.exec,G,hm,ht,h.top.round]);cases N with
   | zero =>
    simp only[runN,Stepped.next.injEq] at hr;obtain⟨e1,_,e3⟩:=Y7 hr;subst e1 e3;exact⟨hmo,hF⟩
   | succ N =>
    simp only[runN,hstep] at hr;have e:=rest (Jx h.top .returning) (by simp) hr;rw[← e] at hmo;exact absurd hmo.1 (by simp)
  ·have e:=rest h.top hm hr;rw[← e] at hmo;exact absurd hmo.1 hm
 exact⟨fr,rfl,h.top,h.base.at d,(key (λ_ _=>0) 0).1,λτ d=>(key τ d).2⟩
def XG(P:Program)(X:Nat->Prop)(s:Nat->Bool)(F:Frame->World->Prop)(k:List Item)(bw:List Frame)(x:Frame×List Frame×World):Prop :=
 St P X s Gx F x.1 x.2.1 x.2.2/\(∀c∈x.2.1,c.todo≠[])/\¬AU P X (TA P X s F k bw) (gx k x.1 x.2.1 bw) x.2.2
theorem Vx(S:N0 P s)(hF:∀fe u v,R4 (λ_=>False) u v->F fe u->F fe v){k0:List Item}{bw:List Frame}{x:Frame×List Frame×World}(h:XG P X s F k0 bw x):
  (x.2.1=[]->¬Gx x.1)/\∃(d k:Nat)(y:Frame×List Frame×World),XG P X s F k0 bw y/\y.2.2.tape=x.2.2.tape/\
   ∀τ d0,(∀i q,i<k->τ (d0+i) q=x.2.2.tape (d+i) q)->step P (lone x.1 (x.2.1++[c0 P]) (E0 X x.2.2 τ d0))=.next (lone y.1 (y.2.1++[c0 P]) (E0 X y.2.2 τ (d0+k))):=by
 obtain⟨hst,hmid,hn⟩:=h
 have hcut:x.2.1=[]->x.1.mode=.run/\x.1.todo≠[]:=λe=>by
  refine Classical.byContradiction λhno=>hn (.stop λd=>?_);obtain⟨fr,seg,w⟩:=x;simp only at e;subst e;exact AaZ S hst (Classical.byContradiction λhh=>hno ⟨Classical.byContradiction λh1=>hh (.inl h1),λh1=>hh (.inr h1)⟩) k0 bw d
 have hg:DZ x.1 x.2.1:=by
  by_cases e:x.2.1=[]
  ·exact .inl (hcut e).1
  ·exact .inr e
 have hE:x.2.1=[]->¬Gx x.1:=λe h=>(hcut e).2 h.2;refine⟨hE,Classical.byContradiction λhno=>hn ?_⟩;have hs:=λd=>Mh S hF hst hg hE bw d;let fr':=λd=>Classical.choose (hs d)
 let seg':=λd=>Classical.choose (Classical.choose_spec (hs d))
 let w':=λd=>Classical.choose (Classical.choose_spec (Classical.choose_spec (hs d)))
 let es:=λd=>Classical.choose (Classical.choose_spec (Classical.choose_spec (Classical.choose_spec (hs d))))
 have sp:∀d,∃k,stepG P true (G x.1 (x.2.1++bw)) (x.2.2.at d)=.go (G (fr' d) (seg' d++bw)) (w' d) (es d)/\(∀e∈es d,Aj X e)/\St P X s Gx F (fr' d) (seg' d) (w' d)/\(w' d).tape=x.2.2.tape/\(w' d).drawn=d+k/\
   ∀τ d0,(∀i q,i<k->τ (d0+i) q=x.2.2.tape (d+i) q)->step P (lone x.1 (x.2.1++[c0 P]) (E0 X x.2.2 τ d0))=.next (lone (fr' d) (seg' d++[c0 P]) (E0 X (w' d) τ (d0+k))) :=
  λd=>Classical.choose_spec (Classical.choose_spec (Classical.choose_spec (Classical.choose_spec (hs d))))
 have self:∀d,R4 (λ_=>False) (x.2.2.at d) (x.2.2.at d):=λd n=>⟨rfl,λ_ h=>h.elim,λ_ _=>rfl,λ_ h=>h.elim,hst.base.pend,rfl,rfl,λ_ _ _=>rfl⟩;have gs:=λd=>Mq S k0 hst.top hg (λe=>(hcut e).2) hmid (self d) (sp d).choose_spec.1;refine .step (by unfold gx;split<;>rfl) (λd=>gx k0 (fr' d) (seg' d) bw) w' es (λd=>(gs d).1) (λd=>(sp d).choose_spec.2.1) (λd=>?_);refine Classical.byContradiction λhr=>hno ?_;obtain⟨k,_,_,a3,a4,_,a6⟩:=sp d;exact⟨d,k,(fr' d,seg' d,w' d),⟨a3,(gs d).2,hr⟩,a4,a6⟩
theorem Li(S:N0 P s)(hF:∀fe u v,R4 (λ_=>False) u v->F fe u->F fe v)(k:List Item)(bw:List Frame){fr:Frame}{w:World}(h:St P X s Gx F fr [] w):AU P X (TA P X s F k bw) (G (ext k fr) bw) w :=
 Classical.byContradiction λhn=>Ks (B0:=XG P X s F k bw) (λ_ hx=>Vx S hF hx) ⟨h,by simp,hn⟩ h.ends
end
def AM:List Code->Code->Code
 | [],B=>B
 | r::l,B=>.seq r (AM l B)
def Bb(P:Program):List Code->(Exit->Act->World->Prop)->Act->World->Prop
 | [],Q=>Q .normal
 | r::l,Q=>r.wp P (Exit.then (Bb P l Q) Q)
section
variable {P:Program} {X:Nat->Prop} {s:Nat->Bool}
theorem AU.bind{Stop Stop':Goroutine->World->Prop}{g:Goroutine}{w:World}(h:AU P X Stop g w)(hk:∀g w,Stop g w->AU P X Stop' g w):AU P X Stop' g w:=by
 induction h with
 | stop h=>exact hk _ _ (h _)
 | step hr g' w' es hs hf _ ih=>exact .step hr g' w' es hs hf ih
theorem AU.mono{Stop Stop':Goroutine->World->Prop}{g:Goroutine}{w:World}(h:AU P X Stop g w)(hk:∀g w,Stop g w->Stop' g w):AU P X Stop' g w:=by
 induction h with
 | stop h=>exact .stop λd=>hk _ _ (h d)
 | step hr g' w' es hs hf _ ih=>exact .step hr g' w' es hs hf ih
theorem AU.one{Stop:Goroutine->World->Prop}{g g':Goroutine}{w:World}(hr:g.status=.running)(hs:∀x,stepG P true g x=.go g' x #[])(h:AU P X Stop g' w):AU P X Stop g w :=
 .step hr (λ_=>g') (λd=>w.at d) (λ_=>#[]) (λd=>hs (w.at d)) (λ_ _ he=>by simp at he) (λd=>h.at d)
def Aq(Q:World->Prop)(u:World):Prop:=∃u0,Q u0/\R4 (λ_=>False) u0 u
theorem Aq.full{Q:World->Prop}{u v:World}(h:Aq Q u)(hf:R4 (λ_=>False) u v):Aq Q v:=let ⟨u0,h1,h2⟩:=h;⟨u0,h1,h2.trans hf⟩
theorem ZN{w:World}(hb:N9 X w)(τ:Nat->Question->Nat)(d:Nat):R4 (λ_=>False) (E0 X w τ d) (E0 X w τ d):=by
 have hs:U7 X 0 w (E0 X w τ d):=FK hb (λi q hi=>by omega);exact λn=>⟨rfl,λ_ h=>h.elim,λ_ _=>rfl,λ_ h=>h.elim,hs.pendU,rfl,rfl,λ_ _ _=>rfl⟩
theorem AG{w:World}(hb:N9 X w){Q:World->Prop}(h:∀τ d,Q (E0 X w τ d))(τ:Nat->Question->Nat)(d:Nat):Aq Q (E0 X w τ d):=⟨_,h τ d,ZN hb τ d⟩
structure CC (P:Program) (b:Frame):Prop where
 kind:b.kind=.normal
 fn:∃fn,P.funcs[b.fn]?=some fn
theorem CC.ok{b:Frame}(h:CC P b){a:Act}(hd:a.defers=[]){l:List Item}(hl:∀i∈l,U2 P s i):N8 P s (b.at a l):=⟨hl,hd,h.kind,rfl,h.fn⟩
def Jc(X:Nat->Prop)(b:Frame)(k:List Item)(bw:List Frame)(Q:Act->World->Prop)(g:Goroutine)(w:World):Prop :=
 ∃a,g=G (b.at a k) bw/\a.defers=[]/\N9 X w/\∀τ d,Aq (Q a) (E0 X w τ d)
theorem EM(S:N0 P s){r:Code}(hr:N7 P s r=true){b:Frame}(hb:CC P b){a:Act}(hd:a.defers=[]){w:World}(hw:N9 X w){Q:Act->World->Prop}
  (h:∀τ d,Aq (λu=>r.wp P (λe a' u'=>e=.normal/\Q a' u') a u) (E0 X w τ d)) (k:List Item) (bw:List Frame) :
  AU P X (Jc X b k bw Q) (G (b.at a (.code r::k)) bw) w:=by
 have hok:N8 P s (b.at a [.code r]):=hb.ok hd (by intro i hi;simp at hi;subst hi;exact hr)
 have hst:St P X s Gx (λfe u=>∃a',fe=b.at a' []/\Aq (Q a') u) (b.at a [.code r]) [] w:=by
  refine⟨hok,by simp,hw,λτ d=>?_⟩;obtain⟨u0,h1,h2⟩:=h τ d;obtain⟨e,a',u',⟨rfl,hq⟩,⟨N,hN⟩⟩:=h1 b [] [c0 P];obtain⟨ve,q1,q2⟩:=shift S N hok (seg:=[]) (by simp) h2 hN;exact⟨N,b.at a' [],ve,q1,⟨rfl,rfl⟩,a',rfl,_,hq,q2⟩
 refine (Li S (λfe u v hf ⟨a',h1,h3⟩=>⟨a',h1,h3.full hf⟩) k bw hst).mono λg w' ⟨fe,h1,h2,h3,h4,h5⟩=>?_;obtain⟨a',e,_⟩:=h5 (λ_ _=>0) 0;subst e;refine⟨a',h1,h2.defers,h3,λτ d=>?_⟩;obtain⟨a'',e,hq⟩:=h5 τ d;have e1:a'.tmps=a''.tmps:=congrArg Frame.tmps e;have e2:a'.defers=a''.defers:=congrArg Frame.defers e;obtain rfl:a'=a'':=by cases a';cases a'';simp_all
 exact hq
theorem Es(S:N0 P s){b:Frame}(hb:CC P b){Q:Act->World->Prop}(B:Code)(k:List Item)(bw:List Frame):∀(l:List Code),(∀r∈l,N7 P s r=true)->∀{a:Act} {w:World},a.defers=[]->N9 X w->
  (∀τ d,Aq (Bb P l (λe a' u'=>e=.normal/\Q a' u') a) (E0 X w τ d))->
  AU P X (Jc X b (.code B::k) bw Q) (G (b.at a (.code (AM l B)::k)) bw) w
 | [],_,a,w,hd,hw,h=>.stop λd=>⟨a,rfl,hd,hw.at d,λτ d=>let ⟨u0,h1,h2⟩:=h τ d;⟨u0,h1.2,h2⟩⟩
 | r::l,hl,a,w,hd,hw,h=>by
  refine .one rfl (λx=>stepG_seq) ?_;refine (EM S (hl r (by simp)) hb hd hw (Q:=λa' u=>Bb P l (λe a' u'=>e=.normal/\Q a' u') a' u) (λτ d=>?_) (.code (AM l B)::k) bw).bind λg w' ⟨a',h1,h2,h3,h4⟩=>?_
  ·obtain⟨u0,h1,h2⟩:=h τ d
   exact⟨u0,wp_mono h1 (λe a' u' hq=>by
    cases e with
    | normal=>exact⟨rfl,hq⟩
    | _=>exact absurd hq.1 (by simp)),h2⟩
  ·subst h1;exact Es S hb B k bw l (λr hr=>hl r (by simp[hr])) h2 h3 h4
end
end Go.Proofs.YtmfjakieahkacaaGreatDoor
namespace Go.Proofs.YtmfjakieahkacaaGreatDoor
open Go.Conc
open Go.ConcN (sumTo)
def G4(P:Program)(Post:Value->World->Prop)(m:Machine)(t:Trace):Prop :=
 ∃N last o w' t',runNT P (N+1) m t=(.ended o w',t')/\runN P N m=.next last/\step P last=.ended o w'/\Go.Conc.Good P Post last o w' t'
section
variable {P:Program} {X:Nat->Prop} {Shun:Loc->Prop} {Post:Value->World->Prop}
theorem G4.of_run{N:Nat}{m m':Machine}{t t':Trace}(h:runNT P N m t=(.next m',t'))(k:G4 P Post m' t'):G4 P Post m t:=by
 obtain⟨K,last,o,w',t'',e1,e2,e3,e4⟩:=k;refine⟨N+K,last,o,w',t'',?_,?_,e3,e4⟩
 ·rw[Nat.add_assoc,runNT_add,h];exact e1
 ·rw[runN_add,← runNT_fst P _ _ #[]];have:=runNT_fst P N m t;rw[h] at this;rw[runNT_fst,← this];exact e2
structure K1 (P:Program) (Shun:Loc->Prop) (gs:Array Goroutine) (a:Goroutine) (t:Trace):Prop where
 zero:gs[0]?=some a
 leave:∃q,Leavers P t gs q
 fr:∃B,Fr Shun B t
theorem Y8(hX:∀l,Shun l->∃a,l=.cell a/\X a.block){Stop:Goroutine->World->Prop}{gs:Array Goroutine}{a:Goroutine}{w:World}{sl:Option (Nat×Nat)}{t:Trace}(hh:K1 P Shun gs a t)(h:AU P X Stop a w)
  (k:∀gs' a' w' sl' t',K1 P Shun gs' a' t'->Stop a' w'->G4 P Post (crowd gs' w' sl') t'):G4 P Post (crowd gs w sl) t:=by
 obtain⟨q,hL⟩:=hh.leave;obtain⟨B,hF⟩:=hh.fr;obtain⟨N,gs',a',w',sl',t',q',B',hr,_,h0,hS,hL',hF',_⟩:=Tk hX h _ gs w.drawn sl t q B (A3 _) hh.zero hL hF;exact G4.of_run hr (k gs' a' w' sl' t' ⟨h0,⟨q',hL'⟩,⟨B',hF'⟩⟩ hS)
theorem Vy{D:World->World->Array Event->Prop}{B0:Nat}(hD:∀w w' es,D w w' es->∀e∈es,EvL Shun B0 e){Stop:Goroutine->World->Prop}:
  ∀(n M:Nat) {gs:Array Goroutine} {a:Goroutine} {w:World} {sl:Option (Nat×Nat)} {t:Trace} {q:Nat->Nat} {B:Nat},sumTo gs.size q<=M->gs[0]?=some a->Leavers P t gs q->Fr Shun B t->B0<=B->Goes P true AtRel D Stop n a w->
   (∀gs' a' w' sl' t',K1 P Shun gs' a' t'->Stop a' w'->G4 P Post (crowd gs' w' sl') t')->G4 P Post (crowd gs w sl) t:=by
 intro n;induction n with
 | zero=>exact λM gs a w sl t q B _ h0 hL hF _ hG k=>k gs a w sl t ⟨h0,⟨q,hL⟩,⟨B,hF⟩⟩ (hG w (atRel_refl w))
 | succ n ihn =>
  intro M;induction M with
  | zero =>
   intro gs a w sl t q B hM h0 hL hF hB hG k;rcases hG with hstop|⟨hrun,hstep⟩
   ·exact k gs a w sl t ⟨h0,⟨q,hL⟩,⟨B,hF⟩⟩ (hstop w (atRel_refl w))
   obtain⟨d,sl',h1|⟨gs1,t1,q1,_,_,_,_,_,hlt⟩⟩:=Fi h0 hrun hL hF w sl
   ·have hs:=hstep (w.at d) ⟨d,rfl⟩;cases hgo:stepG P true a (w.at d) with
    | go a' w' es =>
     rw[hgo,goes_go] at hs;obtain⟨gs1,t1,r1,z1,a1,L1,P1⟩:=h1 _ _ _ B hgo (λe he=>by have:=hD _ _ _ hs.1 e he;exact⟨this.1,this.2.1,this.2.2.1,MemAct.low_mono hB this.2.2.2⟩) (A3 _);exact G4.of_run r1 (ihn _ (A3 _) a1 L1 P1 hB hs.2 k)
    | _=>rw[hgo] at hs;exact hs.elim
   ·omega
  | succ M ihM =>
   intro gs a w sl t q B hM h0 hL hF hB hG k;rcases hG with hstop|⟨hrun,hstep⟩
   ·exact k gs a w sl t ⟨h0,⟨q,hL⟩,⟨B,hF⟩⟩ (hstop w (atRel_refl w))
   obtain⟨d,sl',h1|⟨gs1,t1,q1,r1,z1,a1,L1,P1,hlt⟩⟩:=Fi h0 hrun hL hF w sl
   ·have hs:=hstep (w.at d) ⟨d,rfl⟩;cases hgo:stepG P true a (w.at d) with
    | go a' w' es =>
     rw[hgo,goes_go] at hs;obtain⟨gs1,t1,r1,z1,a1,L1,P1⟩:=h1 _ _ _ B hgo (λe he=>by have:=hD _ _ _ hs.1 e he;exact⟨this.1,this.2.1,this.2.2.1,MemAct.low_mono hB this.2.2.2⟩) (A3 _);exact G4.of_run r1 (ihn _ (A3 _) a1 L1 P1 hB hs.2 k)
    | _=>rw[hgo] at hs;exact hs.elim
   ·exact G4.of_run r1 (ihM (by rw[z1];omega) a1 L1 P1 hB (Goes.rely atRel_trans (.inr ⟨hrun,hstep⟩) ⟨d,rfl⟩) k)
theorem X4{D:World->World->Array Event->Prop}{B0:Nat}(hD:∀w w' es,D w w' es->∀e∈es,EvL Shun B0 e){Stop:Goroutine->World->Prop}{n:Nat}{gs:Array Goroutine}{a:Goroutine}{w:World}{sl:Option (Nat×Nat)}{t:Trace}(hh:K1 P Shun gs a t)(hG:Goes P true AtRel D Stop n a w)
  (k:∀gs' a' w' sl' t',K1 P Shun gs' a' t'->Stop a' w'->G4 P Post (crowd gs' w' sl') t'):G4 P Post (crowd gs w sl) t:=by
 obtain⟨q,hL⟩:=hh.leave;obtain⟨B,hF⟩:=hh.fr;exact Vy hD n _ (A3 _) hh.zero hL (hF.mono (Nat.le_max_left B B0)) (Nat.le_max_right B B0) hG k
theorem VD{gs:Array Goroutine}{a:Goroutine}{w:World}{sl:Option (Nat×Nat)}{t:Trace}(hh:K1 P Shun gs a t)(hr:a.status=.running){v:Value}(hs:∀x:World,stepG P true a x=.ended (.done v) x #[])(hp:∀d,Post v (w.at d)):G4 P Post (crowd gs w sl) t:=by
 obtain⟨q,hL⟩:=hh.leave;obtain⟨B,hF⟩:=hh.fr;exact beside_ends (P:=P) (Post:=Post) (sl:=sl) (D:=λ_ _ _=>False) (λ_ _ _ h=>h.elim) hh.zero hL hF.past (n:=0) (λw₁ ⟨d,hd⟩=>by subst hd;exact⟨hr,v,#[],hs _,by simp,hp d⟩)
end
end Go.Proofs.YtmfjakieahkacaaGreatDoor
namespace Go.Proofs.YtmfjakieahkacaaGreatDoor
open Go.RowKit
theorem XH{L:List (Value×List ByteArray)}{s:ByteArray}(h:s∈AE L L.length):∃i,∃hi:i<L.length,s∈(L[i]).2:=by
 rw[AE,List.take_length,List.mem_flatten] at h;obtain⟨l,hl,hs⟩:=h;obtain⟨f,hf,rfl⟩:=List.mem_map.1 hl;obtain⟨i,hi,rfl⟩:=B7 hf;exact⟨i,hi,hs⟩
theorem VE{w:World}{sb:Nat}{L:List (Value×List ByteArray)}(h:FL w sb L):∀s∈AE L L.length,s.size<=maxLen:=λs hs=>by
 obtain⟨i,hi,hm⟩:=XH hs;obtain⟨_,_,_,_,hz,_⟩:=(h i _ (A0 hi)).2;exact hz s hm
theorem Nw{ss:List ByteArray}{f:ByteArray->Bool}{k:Nat}(hk:k<ss.length):(ss.take (k+1)).filter f=(ss.take k).filter f++(if f ss[k]=true then [ss[k]] else []):=by
 rw[A7 hk,List.filter_append];congr 1
 by_cases h:f ss[k]=true
 ·simp[h]
 ·simp[h]
theorem PI(ss:List ByteArray)(f:ByteArray->Bool)(k:Nat):((ss.take k).filter f).length<=k:=by
 have h1:=List.length_filter_le f (ss.take k);rw[B8] at h1;omega
theorem VF(ss:List ByteArray)(v:Value)(L:List (Value×List ByteArray))(sb:Nat)(w:World)(h:Ls w v ss)(hs:ss.length<=100)(hc:FL w sb L)(hsb:sb<w.heap.size)(hL:L.length<=10)(hn:(AE L L.length).length<=900):
  Calls Tryz.prog 85 #[v,.slice (some ⟨sb,0,none⟩) L.length L.length] w λe w'=>(∃u,e=.returned u/\E5 w' w.heap.size u (ss.filter (D2 (AE L L.length))))/\Below w.heap.size w w':=by
 obtain⟨ii,hi,iz0,iz1,iz2⟩:=info_parts Z0;have Hz:=VE hc;obtain⟨a,c,rfl,-,-,hpos⟩:=h;go_enter Tryz.func85,Tryz.ntmps85;go_wp2_with fail;refine (Rb L sb w hc hsb hL hn).mono ?_;rintro e w1 ⟨⟨u,rfl,ho⟩,hB1⟩;have HL:Hid (∀W,Below w1.heap.size w1 W->Ls W u (AE L L.length)):=λW hW=>(ho.lst.ls Hz).up hW;obtain⟨ua,uc,hu⟩:=K3 ho;subst hu;clear ho Hz hc hn;generalize hcat:AE L L.length=cat at *;have Hcat:Hid (AE L L.length=cat):=hcat;clear hcat
 have hpos1:Hid (0<ss.length->∃b o,a=some ⟨b,o,none⟩/\L6 w1 b o ss/\b<w1.heap.size):=λhp=>by
  obtain⟨g,o,e,hS,hg⟩:=hpos hp;exact⟨g,o,e,hS.up hB1 hg,A1 hg hB1.size⟩
 clear hpos;go_wp2_with fail;go_loopw [6,13] (λx i w'=>∃k:Nat,k<=ss.length/\i=.int .i64 (k:Int)/\E5 w' w1.heap.size x ((ss.take k).filter (D2 cat))/\Below w1.heap.size w1 w') (λ_ i _=>ss.length-(intOf i).toNat)
 case atStart=>exact⟨0,by omega,rfl,B9 _ _ _ _,A4 _ _⟩
 case round =>
  obtain⟨k,hk,rfl,hx,hB⟩:=hrel;by_cases hp:k<ss.length
  ·obtain⟨g,o,rfl,hS,hg⟩:=hpos1.out (by omega);have c0:=(hS.up hB hg).cell hp;have HF:=Nw (f:=D2 cat) hp;have Hl:=PI ss (D2 cat) k;have HC:=HL.out wr hB;generalize ss[k]=s0 at *;go_wp2_with fail;refine (EQ cat _ s0 _ HC).mono ?_;rintro e w2 ⟨rfl,hw2⟩;obtain rfl:=hw2.symm;clear c0;cases hq:D2 cat s0
   ·rw[hq,if_neg (by simp),List.append_nil] at HF;have HX:Hid (E5 wr w1.heap.size u6 ((ss.take (k+1)).filter (D2 cat))):=by show _;rw[HF];exact hx
    clear hx HF;go_wp2_with fail;go_roundw
    case rel=>exact⟨k+1,by omega,by go_num,HX.out,hB⟩
    case measure=>simp[intOf];omega
   ·rw[hq,if_pos rfl] at HF;have HF':Hid ((ss.take (k+1)).filter (D2 cat)=(ss.take k).filter (D2 cat)++[s0]):=HF;clear HF;generalize (ss.take k).filter (D2 cat)=xs at *;have hownA:=World.ownsRow.alloc hx (.cells #[.string s0] 9);have hBA:=hB.alloc hB.size (.cells #[.string s0] 9);have hzA:=hB.size;obtain⟨xa,xc,hxs⟩:=K3 hx;subst hxs;clear hx;go_wp2_with (at_builtin;refine wpList_append_own _ rfl _ _ 23 rfl w1.heap.size 9 ii _ 1 16 Tryz.underlying23 hi iz0 iz1 iz2 rfl (by decide) _ _ _ rfl hownA ⟨wr.heap.size,0,none⟩ 1 1 [.string s0] rfl rfl (Z1 _ _ _) (CJ s0) (by unfold maxLen;omega) (by omega) (by simp;omega) ?_)
    intro v' w2 hown2 hgr2 _;have hB2:=N5 hBA hownA hgr2 (A3 _);have hO2:E5 w2 w1.heap.size v' (xs++[s0]):=by unfold E5;simpa using hown2
    obtain⟨ya,yc,hys⟩:=K3 hO2;subst hys;clear hownA hgr2 hown2 hBA;go_wp2_with fail;go_roundw
    case rel=>exact⟨k+1,by omega,by go_num,by rw[HF'.out];exact hO2,hB2⟩
    case measure=>simp[intOf];omega
  ·obtain rfl:k=ss.length:=by omega
   rw[List.take_length] at hx;have hBB:=D1 hB1 hB;have hz1:=hB1.size;obtain⟨xa,xc,hxs⟩:=K3 hx;subst hxs;go_wp2_with fail;go_ret;have e:=Hcat.out;subst e;exact⟨⟨_,rfl,N3 hx hz1⟩,hBB⟩
theorem Mr:∀(qs:List Bv)(k:Nat)(p:Bv),qs[k]?=some p->(N4 qs).Perm ((p.2.1,p.1.has)::(p.2.2,p.1.nd)::N4 (qs.eraseIdx k))
 | [],_,_,h=>by simp at h
 | q::r,0,p,h=>by
  obtain rfl:q=p:=by simpa using h
  simp[N4]
 | q::r,k+1,p,h=>by
  have ih:=Mr r k p (by simpa using h);simp only[N4,List.eraseIdx_cons_succ];refine ((ih.cons _).cons _).trans ?_;exact (List.perm_append_comm (l₁:=[(q.2.1,q.1.has),(q.2.2,q.1.nd)]) (l₂:=[(p.2.1,p.1.has),(p.2.2,p.1.nd)])).append_right (N4 (r.eraseIdx k))
theorem YB{α:Type}(t a b:α)(l:List α):(t::a::b::l).Perm (a::b::t::l):=(List.perm_append_comm (l₁:=[t]) (l₂:=[a,b])).append_right l
theorem M1.front{w:World}{B:Nat}{q:Option Nat}{t:Value×List ByteArray}{ps:List Bv}{k:Nat}{p:Bv}(h:M1 w B q (t::N4 ps))(hp:ps[k]?=some p):M1 w B q ((p.2.1,p.1.has)::(p.2.2,p.1.nd)::t::N4 (ps.eraseIdx k)) :=
 h.perm (((Mr ps k p hp).cons t).trans (YB _ _ _ _))
theorem M1.back{w:World}{B:Nat}{q:Option Nat}{t:Value×List ByteArray}{ps:List Bv}{k:Nat}{p:Bv}(h:M1 w B q ((p.2.1,p.1.has)::(p.2.2,p.1.nd)::t::N4 (ps.eraseIdx k)))(hk:k<ps.length):M1 w B q (t::N4 (ps.set k p)):=by
 refine h.perm (List.Perm.symm ?_);have h1:=Mr (ps.set k p) k p (by rw[List.getElem?_set_self hk]);rw[List.eraseIdx_set_eq] at h1;exact (h1.cons t).trans (YB _ _ _ _)
theorem M1.over{w w':World}{B G:Nat}{u:Value}{ss ss':List ByteArray}{fs:List (Value×List ByteArray)}(h:M1 w B (some G) ((u,ss)::fs))(hG:G<w.heap.size)(hg:w.grownBy w' u.ownBlock)(hu:E5 w' B u ss'):M1 w' B (some G) ((u,ss')::fs) :=
 h.app hg hu (λ_ hg=>.inl hg) (λ_ h=>by cases h;exact hG)
theorem M1.off{w w':World}{B G:Nat}{u:Value}{ss:List ByteArray}{fs:List (Value×List ByteArray)}(h:M1 w B (some G) ((u,ss)::fs))(hG:G<w.heap.size)(hg:w.grownBy w' u.ownBlock):w'.heap[G]?=w.heap[G]? :=
 hg.block G hG (λe=>h.av _ List.mem_cons_self G e.symm rfl)
def RR(w:World)(base:Nat)(q:Option Nat)(v:Value)(b:Bk):Prop:=∃a1 c1 a2 c2 ps,v=.agg #[.slice a1 b.tg.length c1,.slice a2 b.bs.length c2]/\Bp w base (.slice a2 b.bs.length c2) ps/\ps.map (·.1)=b.bs/\M1 w base q ((.slice a1 b.tg.length c1,b.tg)::N4 ps)/\∀g,(Value.slice a2 b.bs.length c2).ownBlock=some g->some g≠q
theorem U0.off{w:World}{base G:Nat}{v:Value}{b:Bk}(h:U0 w base v b)(hG:w.heap.size<=G):RR w base (some G) v b:=by
 obtain⟨a1,c1,a2,c2,ps,e,h1,h2,h3⟩:=h;refine⟨a1,c1,a2,c2,ps,e,h1,h2,h3.avoid hG,λg hg e=>?_⟩;have:=(h1.1.lt g hg).2;obtain rfl:=A5 e;omega
theorem RR.free{w:World}{base:Nat}{q:Option Nat}{v:Value}{b:Bk}(h:RR w base q v b):U0 w base v b:=by
 obtain⟨a1,c1,a2,c2,ps,e,h1,h2,h3,-⟩:=h;exact⟨a1,c1,a2,c2,ps,e,h1,h2,h3.free⟩
theorem RR.up{w w':World}{base:Nat}{q:Option Nat}{v:Value}{b:Bk}(h:RR w base q v b)(hb:Below w.heap.size w w'):RR w' base q v b:=by
 obtain⟨a1,c1,a2,c2,ps,e,h1,h2,h3,h4⟩:=h;exact⟨a1,c1,a2,c2,ps,e,h1.up hb,h2,h3.up hb,h4⟩
end Go.Proofs.YtmfjakieahkacaaGreatDoor
namespace Go.Proofs.YtmfjakieahkacaaGreatDoor
theorem TB{b:Bk}(h:J0 b){k:Nat}{x:Ba}(hx:b.bs[k]?=some x):Z7 (I9 b.bs) x.nm=(k:Int):=by
 obtain⟨hk,rfl⟩:=A2.1 hx;have hl:k<(I9 b.bs).length:=by rw[O1];exact hk
 refine EX hl ?_ (by rw[BF _ _ hk];simp);rw[AD];intro hm;obtain⟨j,hj,hjs⟩:=List.mem_take_iff_getElem.1 hm;have hj2:j<(I9 b.bs).length:=by omega
 have h1:(I9 b.bs)[j]?=some (b.bs[k]).nm:=by rw[A0 hj2,← hjs]
 have h2:(I9 b.bs)[k]?=some (b.bs[k]).nm:=by rw[A0 hl,BF _ _ hk]
 have:=GB h.2.2.2.1 h1 h2;omega
theorem XI{bs:List Ba}{k:Nat}{g g':List ByteArray}(h:CQ bs k g)(hs:∀s,D2 g s=true->D2 g' s=true):CQ bs k g':=λi x y hi hne hx hy hm=>by
 refine h i x y hi hne hx hy ?_;cases hc:D2 g x.nm
 ·rfl
 ·rw[hs _ hc] at hm;cases hm
theorem RS{l:List ByteArray}(hd:∀(i:Nat)(s:ByteArray),l[i]?=some s->D2 (l.take i) s=false):∀(i j:Nat)(a:ByteArray),l[i]?=some a->l[j]?=some a->i=j:=by
 have key:∀(i j:Nat)(a:ByteArray),l[i]?=some a->l[j]?=some a->¬i<j:=λi j a hi hj hlt=>by
  have:=hd j a hj;rw[AD] at this;obtain⟨hi',rfl⟩:=A2.1 hi;exact this (List.mem_take_iff_getElem.2 ⟨i,by omega,rfl⟩)
 intro i j a hi hj;have h1:=key i j a hi hj;have h2:=key j i a hj hi;omega
theorem Rf{b:Bk}(hok:J0 b){n:Nat}{ss:List ByteArray}(h:Ag b.bs n ss):BI b.bs ss ss.length:=by
 induction h with
 | none=>exact λi s hi=>by simp at hi
 | @more n gone k x h1 h2 h3 ih =>
  have hgood:Good b.bs gone k:=by
   rcases h2 with⟨h0,_⟩|⟨j,hj,_,hg,_⟩
   ·omega
   ·obtain rfl:k=j:=by omega
    exact hg
  obtain⟨y,hy,hm,hc⟩:=hgood;rw[h3] at hy;obtain rfl:=A5 hy;have hidx:=TB hok h3;intro i s hi hs;by_cases e:i<gone.length
  ·rw[List.getElem?_append_left e] at hs;rw[List.take_append_of_le_length (by omega)];exact ih i s e hs
  ·have hl:i=gone.length:=by simp at hi;omega
   subst hl;obtain rfl:x.nm=s:=by simpa using hs
   rw[List.take_left,hidx];exact⟨by omega,hm,hc⟩
theorem VG{b:Bk}(hok:J0 b){ss:List ByteArray}(h:Ag b.bs b.bs.length ss):CL b ss:=⟨hok,h.length,Rf hok h⟩
theorem VH{b:Bk}{order gone:List ByteArray}{n:Nat}(hf:CL b order)(hg:Ag b.bs n gone)(hn:n<b.bs.length):∃k,k<b.bs.length/\Good b.bs gone k:=by
 obtain⟨hok,hl,hft⟩:=hf;have hd:∀(i:Nat)(s:ByteArray),order[i]?=some s->D2 (order.take i) s=false:=λi s hs=>(hft i s (A2.1 hs).1 hs).2.1
 have hex:∃i:Nat,∃s,order[i]?=some s/\D2 gone s=false:=by
  refine Classical.byContradiction λhno=>?_
  have hall:∀s∈order,s∈gone:=λs hs=>by
   obtain⟨i,hi,rfl⟩:=B7 hs;refine (R8 _ _).1 ?_;cases hc:D2 gone order[i]
   ·exact absurd ⟨i,order[i],A0 hi,hc⟩ hno
   ·rfl
  have:=Ei order gone (RS hd) hall;have:=hg.length;omega
 obtain⟨i,hi⟩:=hex
 obtain⟨j,⟨s,hs,hms⟩,hmin⟩:∃j:Nat,(∃s,order[j]?=some s/\D2 gone s=false)/\∀m:Nat,m<j->¬∃s,order[m]?=some s/\D2 gone s=false:=by
  have:∀n:Nat,∀i:Nat,i<n->(∃s,order[i]?=some s/\D2 gone s=false)->∃j:Nat,(∃s,order[j]?=some s/\D2 gone s=false)/\∀m:Nat,m<j->¬∃s,order[m]?=some s/\D2 gone s=false:=by
   intro n;induction n with
   | zero=>intro i hi;omega
   | succ n ih =>
    intro i hi hp;by_cases hq:∃m,m<i/\∃s,order[m]?=some s/\D2 gone s=false
    ·obtain⟨m,hm,hs⟩:=hq;exact ih m (by omega) hs
    ·exact⟨i,hp,λm hm hs=>hq ⟨m,hm,hs⟩⟩
  exact this (i+1) i (by omega) hi
 have hj:=(A2.1 hs).1;obtain⟨h0,-,hc⟩:=hft j s hj hs;obtain⟨k,hk,hkl,hks⟩:=Fm h0;rw[hk] at hc;have hkb:k<b.bs.length:=by rwa [O1] at hkl
 refine⟨k,hkb,b.bs[k],A0 hkb,?_,XI hc λt ht=>?_⟩
 ·rw[BF _ _ hkb] at hks;rw[hks];exact hms
 ·obtain⟨m,hm,hmt⟩:=List.mem_take_iff_getElem.1 ((R8 _ _).1 ht);have hm':=hmin m (by omega);cases hq:D2 gone t
  ·exact absurd ⟨t,by rw[A0 (by omega),hmt],hq⟩ hm'
  ·rfl
theorem TC{bs:List Ba}{gone:List ByteArray}{k:Nat}(hk:k<bs.length)(h:Good bs gone k):∃(j:Nat)(x:Ba),Y6 bs gone (j:Int)/\bs[j]?=some x:=by
 have:∀n,∀k,k<n->k<bs.length->Good bs gone k->∃(j:Nat)(x:Ba),Y6 bs gone (j:Int)/\bs[j]?=some x:=by
  intro n;induction n with
  | zero=>intro k hk;omega
  | succ n ih =>
   intro k hk hkl hg;by_cases hq:∃m,m<k/\Good bs gone m
   ·obtain⟨m,hm,hgm⟩:=hq;exact ih m (by omega) (by omega) hgm
   ·exact⟨k,bs[k],.inr ⟨k,rfl,hkl,hg,λm hm hgm=>hq ⟨m,hm,hgm⟩⟩,A0 hkl⟩
 exact this (k+1) k (by omega) hk h
theorem VI{b:Bk}{order:List ByteArray}(hf:CL b order):∃ss,Ag b.bs b.bs.length ss:=by
 have:∀n,n<=b.bs.length->∃ss,Ag b.bs n ss:=by
  intro n;induction n with
  | zero=>exact λ_=>⟨[],.none⟩
  | succ n ih =>
   intro hn;obtain⟨g,hg⟩:=ih (by omega);obtain⟨k,hk,hgd⟩:=VH hf hg (by omega);obtain⟨j,x,hj,hx⟩:=TC hk hgd;exact⟨_,.more hg hj hx⟩
 exact this _ (A3 _)
theorem TD{b:Bk}{ss:List ByteArray}(h:U4 b ss true):CL b ss:=by
 rcases h with⟨-,hok,hg⟩|⟨h0,_⟩
 ·exact VG hok hg
 ·cases h0
def S5(b:Bk)(gone:List ByteArray):Prop:=∃rest,CL b (gone++rest)
theorem VJ{b:Bk}{gone:List ByteArray}(h:gone.length=b.bs.length):S5 b gone↔CL b gone:=by
 constructor
 ·rintro⟨rest,hf⟩;have:=hf.2.1;obtain rfl:rest=[]:=List.eq_nil_of_length_eq_zero (by simp at this;omega);simpa using hf
 ·exact λh=>⟨[],by simpa using h⟩
theorem VK{b:Bk}{gone:List ByteArray}(h:gone.length<b.bs.length)(hs:S5 b gone):∃(k:Nat)(x:Ba),b.bs[k]?=some x/\D2 gone x.nm=false/\S5 b (gone++[x.nm]):=by
 obtain⟨rest,hf⟩:=hs;have hl:=hf.2.1;cases rest with
 | nil=>simp at hl;omega
 | cons s r =>
  obtain⟨h0,h1,-⟩:=hf.2.2 gone.length s (by simp) (by simp);obtain⟨k,-,hkl,hks⟩:=Fm h0;have hkb:k<b.bs.length:=by rwa [O1] at hkl
  rw[BF _ _ hkb] at hks;refine⟨k,b.bs[k],A0 hkb,?_,r,?_⟩
  ·rw[hks];simpa using h1
  ·rw[hks];simpa using hf
theorem ZO{b:Bk}{gone:List ByteArray}{s:ByteArray}(h:S5 b (gone++[s])):S5 b gone:=by
 obtain⟨rest,hf⟩:=h;exact⟨s::rest,by simpa using hf⟩
def XJ(bs:List Ba)(gone:List ByteArray)(s:ByteArray):Prop:=∃y,y∈bs/\y.nm=s/\∀x,x∈bs->x.nm≠s->x.nm∉gone->O4 x.has y.nd=false
def CV(bs:List Ba):List ByteArray->List ByteArray->Prop
 | _,[]=>True
 | gone,s::r=>s∉gone/\XJ bs gone s/\CV bs (gone++[s]) r
def PJ(bs:List Ba)(order:List ByteArray):Prop:=CV bs [] order/\∀x∈bs,x.nm∈order
theorem Jd(bs:List Ba):∀(order gone:List ByteArray),CV bs gone order↔∀(i:Nat)(s:ByteArray),order[i]?=some s->s∉gone++order.take i/\XJ bs (gone++order.take i) s
 | [],gone=>by simp[CV]
 | s::r,gone=>by
  rw[CV,Jd bs r (gone++[s])];constructor
  ·rintro⟨h1,h2,h3⟩ i t ht;cases i with
   | zero =>
    obtain rfl:s=t:=by simpa using ht
    simpa using ⟨h1,h2⟩
   | succ i =>
    have:=h3 i t (by simpa using ht);simpa [List.append_assoc] using this
  ·intro h;have h0:=h 0 s (by simp);refine⟨by simpa using h0.1,by simpa using h0.2,λi t ht=>?_⟩;have:=h (i+1) t (by simpa using ht);simpa [List.append_assoc] using this
theorem PK{b:Bk}(hok:J0 b)(gone:List ByteArray)(s:ByteArray):(0<=Z7 (I9 b.bs) s/\CQ b.bs (Z7 (I9 b.bs) s).toNat gone)↔XJ b.bs gone s:=by
 constructor
 ·rintro⟨h0,hc⟩;obtain⟨k,hk,hkl,hks⟩:=Fm h0;have hkb:k<b.bs.length:=by rwa [O1] at hkl
  rw[BF _ _ hkb] at hks;rw[hk] at hc;refine⟨b.bs[k],List.getElem_mem hkb,hks,λx hx hne hg=>?_⟩;obtain⟨i,hi,rfl⟩:=B7 hx;refine hc i _ _ hi ?_ (A0 hi) (A0 hkb) ((AD _ _).2 hg);rintro rfl;exact hne hks
 ·rintro⟨y,hy,rfl,hc⟩;obtain⟨k,hk,rfl⟩:=B7 hy;have e:=TB hok (A0 hk);rw[e];refine⟨by omega,λi x z hi hne hx hz hm=>?_⟩;have hne:i≠k:=by simpa using hne
  have hz:b.bs[k]?=some z:=by simpa using hz
  rw[A0 hk] at hz;obtain rfl:=A5 hz;refine hc x (A6 hx) (λe2=>?_) ((AD _ _).1 hm);have:=TB hok hx;rw[e2,e] at this;omega
theorem Je{bs:List Ba}:∀(order gone:List ByteArray),CV bs gone order->∀s∈order,∃y∈bs,y.nm=s
 | [],_,_,s,hs=>by simp at hs
 | t::r,gone,h,s,hs=>by
  obtain⟨-,⟨y,hy,e,-⟩,h3⟩:=h;rcases List.mem_cons.1 hs with rfl|hs
  ·exact⟨y,hy,e⟩
  ·exact Je r _ h3 s hs
theorem Ib{b:Bk}(hok:J0 b):∀(i j:Nat)(a:ByteArray),(I9 b.bs)[i]?=some a->(I9 b.bs)[j]?=some a->i=j:=λ_ _ _ hi hj=>GB hok.2.2.2.1 hi hj
theorem Ic{b:Bk}{order:List ByteArray}:CL b order↔J0 b/\PJ b.bs order:=by
 have hL:J0 b->(BI b.bs order order.length↔CV b.bs [] order):=λhok=>by
  rw[Jd];constructor
  ·intro h i s hs;obtain⟨h0,hm,hc⟩:=h i s (A2.1 hs).1 hs;exact⟨by simpa using (AD _ _).1 hm,by simpa using (PK hok _ _).1 ⟨h0,hc⟩⟩
  ·intro h i s _ hs;obtain⟨h1,h2⟩:=h i s hs;obtain⟨h0,hc⟩:=(PK hok _ _).2 h2;exact⟨h0,(AD _ _).2 (by simpa using h1),by simpa using hc⟩
 have hD:CV b.bs [] order->∀(i j:Nat)(a:ByteArray),order[i]?=some a->order[j]?=some a->i=j:=λh=>by
  rw[Jd] at h;exact RS λi s hs=>(AD _ _).2 (by simpa using (h i s hs).1)
 constructor
 ·rintro⟨hok,hl,hf⟩;have hf:=(hL hok).1 hf;refine⟨hok,hf,λx hx=>?_⟩;refine Classical.byContradiction λhno=>?_
  have hall:∀s∈order++[x.nm],s∈I9 b.bs:=λs hs=>by
   rcases C6.1 hs with hs|hs
   ·obtain⟨y,hy,rfl⟩:=Je _ _ hf s hs;exact List.mem_map.2 ⟨y,hy,rfl⟩
   ·obtain rfl:s=x.nm:=by simpa using hs
    exact List.mem_map.2 ⟨x,hx,rfl⟩
  have hd:∀(i j:Nat)(a:ByteArray),(order++[x.nm])[i]?=some a->(order++[x.nm])[j]?=some a->i=j:=λi j a hi hj=>by
   have key:∀i:Nat,(order++[x.nm])[i]?=some a->(i<order.length/\order[i]?=some a)∨(i=order.length/\a=x.nm):=λi hi=>by
    by_cases e:i<order.length
    ·rw[List.getElem?_append_left e] at hi;exact .inl ⟨e,hi⟩
    ·have hlt:=(A2.1 hi).1;simp at hlt;obtain rfl:i=order.length:=by omega
     exact .inr ⟨rfl,by simpa using hi.symm⟩
   rcases key i hi with⟨_,h1⟩|⟨rfl,h1⟩<;>rcases key j hj with⟨_,h2⟩|⟨rfl,h2⟩
   ·exact hD hf i j a h1 h2
   ·subst h2;exact absurd (A6 h1) hno
   ·subst h1;exact absurd (A6 h2) hno
   ·rfl
  have:=Ei _ _ hd hall;rw[O1] at this;simp at this;omega
 ·rintro⟨hok,hf,hc⟩;refine⟨hok,?_,(hL hok).2 hf⟩
  have h1:=Ei order (I9 b.bs) (hD hf) λs hs=>by
   obtain⟨y,hy,rfl⟩:=Je _ _ hf s hs;exact List.mem_map.2 ⟨y,hy,rfl⟩
  have h2:=Ei (I9 b.bs) order (Ib hok) λs hs=>by
   obtain⟨y,hy,rfl⟩:=List.mem_map.1 hs;exact hc y hy
  rw[O1] at h1 h2;omega
theorem VL{l:List ByteArray}:Bg l↔l.Pairwise (λa b=>Z9 a b=true):=by
 rw[List.pairwise_iff_getElem];constructor
 ·intro h i j hi hj hij;exact Dr h (j-i-1) i _ _ (A0 hi) (by rw[show i+1+(j-i-1)=j by omega];exact A0 hj)
 ·intro h i a b hi ha hb;obtain⟨h1,rfl⟩:=A2.1 ha;obtain⟨h2,rfl⟩:=A2.1 hb;exact h i (i+1) h1 h2 (by omega)
theorem PL{l all:List ByteArray}:LP l all↔∀s∈l,s∈all :=
 ⟨λh _ hs=>Fx h hs,λh _ _ _ ha=>(R8 _ _).2 (h _ (A6 ha))⟩
theorem JG{tg:List ByteArray}{bs:List Ba}:AR tg bs bs.length↔∀x∈bs,Fy tg x:=by
 constructor
 ·intro h x hx;obtain⟨i,hi,rfl⟩:=B7 hx;exact h.at hi hi
 ·exact λh i x _ hx=>h x (A6 hx)
end Go.Proofs.YtmfjakieahkacaaGreatDoor
namespace Go.Proofs.YtmfjakieahkacaaGreatDoor
open Go.RowKit
def P0:List ByteArray:=[⟨#[97,108,101]⟩,⟨#[98]⟩,⟨#[99,45,99]⟩,⟨#[100,97,114,107]⟩,⟨#[120,57]⟩]
theorem Dx(w:World):
  Calls Tryz.prog 57 #[] w
   λe w'=>e=.returned (.slice (some ⟨w.heap.size,0,none⟩) 5 5)/\w'=w.alloc (.cells (P0.map Value.string).toArray 9):=by
 go_enter Tryz.func57,Tryz.ntmps57;go_wp2_with fail;go_ret;exact⟨rfl,rfl⟩
theorem Ct(rb len N:Nat)(v lv:Value)(n:Int)(list:List ByteArray)(w:World)(hR:Rd w rb v len N)(hN:N<=900000)(hl:Ls w lv list)(hll:list.length<=50)(hne:∀a m c,lv=.slice (some a) m c->a.block≠rb):
  Calls Tryz.prog 58 #[.pointer (some ⟨rb,0,none⟩),lv,.int .i64 n] w
   λe w'=>(∃(u:Value)(ss:List ByteArray),e=.returned u/\E5 w' w.heap.size u ss/\ss.length<=list.length/\∀s∈ss,s∈list)/\Rd w' rb v len (N+50)/\w.grownBy w' (some rb):=by
 obtain⟨a,c,rfl,-,-,hpos⟩:=hl;have hrl:=hR.lt;obtain⟨ii,hi,iz0,iz1,iz2⟩:=info_parts Z0;have ho:=BM w;go_enter Tryz.func58,Tryz.ntmps58;go_wp2_with fail;go_loopw [7,8] (λu i w'=>∃(k:Nat)(ss:List ByteArray),k<=list.length/\i=.int .i64 k/\E5 w' w.heap.size u ss/\ss.length<=k/\(∀s∈ss,s∈list)/\Rd w' rb v len (N+k)/\w.grownBy w' (some rb)) (λ_ i _=>list.length-(intOf i).toNat)
 case atStart=>exact⟨0,[],by omega,rfl,ho,by simp,λs hs=>by simp at hs,hR.alloc _,Gt (F7 _ _) _⟩
 case round =>
  clear ho;obtain⟨k,ss,hk,rfl,hown,hsl,hsm,hRk,hGk⟩:=hrel;have Hsm:Hid (∀s∈ss,s∈list):=hsm;clear hsm;have hwz:=hGk.size;by_cases hp:k<list.length
  ·obtain⟨lb,lo,rfl,hS,hlb⟩:=hpos (by omega);have hne':lb≠rb:=hne ⟨lb,lo,none⟩ _ _ rfl;go_wp2_with fail;refine (T0 rb len _ v n _ hRk (by omega)).mono ?_;rintro e w1 ⟨⟨x,rfl,-,-⟩,hR1,hg1⟩;have hown1:=G9 hown hg1 hrl;have hG1:=L0 hGk hg1;have hz1:=hg1.size;clear hRk hGk hown hg1;by_cases hx:x=0
   ·subst hx;have c0:=hG1.cell (hS.cell hp) (by simpa using hne');have Hm:Hid (list[k]∈list):=by show _∈_;simp
    generalize list[k]=s0 at *;have hownA:=World.ownsRow.alloc hown1 (.cells #[.string s0] 9);go_wp2_with (at_builtin;refine wpList_append_own _ rfl _ _ 23 rfl w.heap.size 9 ii _ 1 16 Tryz.underlying23 hi iz0 iz1 iz2 rfl (by decide) _ _ _ rfl hownA ⟨w1.heap.size,0,none⟩ 1 1 [.string s0] rfl rfl (Z1 _ _ _) (CJ s0) (by unfold maxLen;omega) (by omega) (by simp;omega) ?_)
    intro v' w2 hown2 hgr2 _;have hR2:=(hR1.alloc (.cells #[.string s0] 9)).own hownA hgr2 hrl;have hG2:=AN (Gt hG1 (.cells #[.string s0] 9)) hownA hgr2 (A3 _);have hO2:E5 w2 w.heap.size v' (ss++[s0]):=by unfold E5;simpa using hown2
    clear hownA hgr2 hown2 hown1 hG1 hR1 c0;go_wp2_with fail;go_roundw
    case rel=>exact⟨k+1,ss++[s0],by omega,by go_num,hO2,by simp;omega,λs hs=>by
      rcases C6.1 hs with h|h
      ·exact Hsm.out s h
      ·obtain rfl:s=s0:=by simpa using h
       exact Hm.out,hR2,hG2⟩
    case measure=>simp[intOf];omega
   ·have hx':(x==0)=false:=by simpa using hx
    go_wp2_with fail;go_roundw
    case rel=>exact⟨k+1,ss,by omega,by go_num,hown1,by omega,Hsm.out,hR1,hG1⟩
    case measure=>simp[intOf];omega
  ·go_wp2_with fail;go_ret;exact⟨⟨_,ss,rfl,hown,by omega,Hsm.out⟩,hRk.mono (by omega),hGk⟩
end Go.Proofs.YtmfjakieahkacaaGreatDoor
