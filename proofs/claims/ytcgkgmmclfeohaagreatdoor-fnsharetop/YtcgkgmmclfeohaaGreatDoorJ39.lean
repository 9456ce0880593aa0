/- Goroutine 0 one step at a time, 2: with what is known of its slots. -/
import Derived.Test.YtcgkgmmclfeohaaGreatDoorJ37
import Derived.Test.YtcgkgmmclfeohaaGreatDoorKre
import Derived.Test.YtcgkgmmclfeohaaGreatDoorKt9
set_option maxRecDepth 20000
set_option maxHeartbeats 8000000
namespace Go.Proofs.YtcgkgmmclfeohaaGreatDoor
open Go.Proofs.Tryz
open Go.Conc Go.RowKit
section
variable {P:Program} {Shun:Loc->Prop} {Post:Value->World->Prop} {b:Frame} {k:List Item} {cs:List Frame} {gs:Array Goroutine} {sl:Option (Nat×Nat)} {t:Trace} {V:World} {n:Nat} {T:Array Value} {l:List (Nat×Value)} {ops:Array Oper} {i:Nat} {rest:List Nat} {o:Oper}
theorem I6{v:Value}{d:Nat}(B:Nat)(hh:G6 P Shun gs (G (b.at ⟨T,[]⟩ (.inRegion ops (i::rest)::k)) cs) t)(hT:O1 n T l)(ho:ops[i]?=some o)(hw:Region.wanted o (yielded ops T)=true)(hk:b.kind=.normal)(hdst:o.dst=some d)(hd:d<n)(hn:∀p∈l,p.1≠d)
  (hr:∀x,(execOp (Act.eval ⟨T,[]⟩) o).run P (V.at x)=.ok (.value v) (V.at x)) (he:∀x,∀e∈(execOp (Act.eval ⟨T,[]⟩) o).events P (V.at x) #[],EvL Shun B e)
  (kk:∀gs' sl' t' x T',G6 P Shun gs' (G (b.at ⟨T',[]⟩ (.inRegion ops rest::k)) cs) t'->O1 n T' ((d,v)::l)->E7 P Post (crowd gs' (V.at x) sl') t'):E7 P Post (crowd gs V sl) t :=
 AbX B hh ho hw hk hdst hr he λgs' sl' t' x hh'=>kk gs' sl' t' x (T.setIfInBounds d v) hh' (hT.put d v hd hn)
theorem J4{v:Value}{d:Nat}{x:Operand}(hh:G6 P Shun gs (G (b.at ⟨T,[]⟩ (.inRegion ops (i::rest)::k)) cs) t)(hT:O1 n T l)(ho:ops[i]?=some o)(hw:Region.wanted o (yielded ops T)=true)(hk:b.kind=.normal)(hdst:o.dst=some d)(hop:o.op=.move x∨o.op=.assign x)(hx:(⟨T,[]⟩:Act).eval x=v)(hd:d<n)(hn:∀p∈l,p.1≠d)
  (kk:∀gs' sl' t' x T',G6 P Shun gs' (G (b.at ⟨T',[]⟩ (.inRegion ops rest::k)) cs) t'->O1 n T' ((d,v)::l)->E7 P Post (crowd gs' (V.at x) sl') t'):E7 P Post (crowd gs V sl) t :=
 Afo hh ho hw hk hdst hop hx λgs' sl' t' x hh'=>kk gs' sl' t' x (T.setIfInBounds d v) hh' (hT.put d v hd hn)
theorem Er{d:Nat}(hh:G6 P Shun gs (G (b.at ⟨T,[]⟩ (.inRegion ops (i::rest)::k)) cs) t)(hT:O1 n T l)(ho:ops[i]?=some o)(hw:Region.wanted o (yielded ops T)=false)(hdst:o.dst=some d)(hd:d<n)(hn:∀p∈l,p.1≠d)
  (kk:∀gs' sl' t' x T',G6 P Shun gs' (G (b.at ⟨T',[]⟩ (.inRegion ops rest::k)) cs) t'->O1 n T' l->E7 P Post (crowd gs' (V.at x) sl') t'):E7 P Post (crowd gs V sl) t :=
 Afp hh ho hw hdst λgs' sl' t' x hh'=>kk gs' sl' t' x (T.setIfInBounds d undef) hh' ((hT.put d undef hd hn).sub (λ_ hp=>C7 _ hp))
theorem Es{X:Nat->Prop}{s:Nat->Bool}(S:M6 P s)(hX:Y9 Shun X)(hbV:M1 X V){f:FuncId}{fn:Func}{args:Array Operand}{ats:Array TypeId}{d:Nat}(vs:Array Value)(hh:G6 P Shun gs (G (b.at ⟨T,[]⟩ (.inRegion ops (i::rest)::k)) cs) t)(hT:O1 n T l)(ho:ops[i]?=some o)(hw:Region.wanted o (yielded ops T)=true)(hk:b.kind=.normal)(hdst:o.dst=some d)(hop:o.op=.call {callee:=.value (.func f),args,argTypes:=ats})
  (hf:P.funcs[f]?=some fn) (hname:(fn.name == "runtime.NumGoroutine")=false) (hb:fn.body.isNone=false) (hsf:s f=true) (hvs:args.map (Act.eval ⟨T,[]⟩)=vs) (hd:d<n) (hn:∀p∈l,p.1≠d) {R:Value->World->Prop} (hR:∀v,N6 (R v))
  (hc:∀τ d,Calls P f vs (E0 X V τ d) λe u'=>(∃v,e=.returned v/\R v u')/\Below (E0 X V τ d).heap.size (E0 X V τ d) u')
  (kk:∀gs' w' sl' t' v T',G6 P Shun gs' (G (b.at ⟨T',[]⟩ (.inRegion ops rest::k)) cs) t'->O1 n T' ((d,v)::l)->M1 X w'->(∀τ d,R v (E0 X w' τ d)/\Below V.heap.size (E0 X V τ d) (E0 X w' τ d))->E7 P Post (crowd gs' w' sl') t'):E7 P Post (crowd gs V sl) t :=
 Afq S hX hbV hh ho hw hk hdst hop hf hname hb hsf hvs hR hc λgs' w' sl' t' v hh' hb' hR'=>kk gs' w' sl' t' v (T.setIfInBounds d v) hh' (hT.put d v hd hn) hb' hR'
theorem DL{X:Nat->Prop}{f:FuncId}{fn:Func}{args:Array Operand}{ats:Array TypeId}{d:Nat}(vs:Array Value)(hh:G6 P Shun gs (G (b.at ⟨T,[]⟩ (.inRegion ops (i::rest)::k)) cs) t)(hT:O1 n T l)(ho:ops[i]?=some o)(hw:Region.wanted o (yielded ops T)=true)(hk:b.kind=.normal)(hdst:o.dst=some d)(hop:o.op=.call {callee:=.value (.func f),args,argTypes:=ats})
  (hf:P.funcs[f]?=some fn) (hname:(fn.name == "runtime.NumGoroutine")=false) (hb:fn.body.isNone=false) (hvs:args.map (Act.eval ⟨T,[]⟩)=vs) (hd:d<n) (hn:∀p∈l,p.1≠d) {R:Value->World->Prop}
  (hc:∀d,AB P f vs X Shun (V.at d) R)
  (kk:∀X' Shun' gs' w' sl' t' v T',Y9 Shun' X'->(∀b,X' b->X b∨V.heap.size<=b)->G6 P Shun' gs' (G (b.at ⟨T',[]⟩ (.inRegion ops rest::k)) cs) t'->O1 n T' ((d,v)::l)->M1 X' w'->(∀τ d,R v (E0 X' w' τ d)/\Below V.heap.size (E0 X V τ d) (E0 X' w' τ d))->E7 P Post (crowd gs' w' sl') t'):E7 P Post (crowd gs V sl) t :=
 Ali hh ho hw hk hdst hop hf hname hb hvs hc λX' Shun' gs' w' sl' t' v hX' hW' hh' hb' hR'=>kk X' Shun' gs' w' sl' t' v (T.setIfInBounds d v) hX' hW' hh' (hT.put d v hd hn) hb' hR'
end
structure S2 (F:World->Prop):Prop where
 up:∀u u',F u->Up u u'->F u'
 tl:N6 F
theorem S2.and{F F':World->Prop}(h:S2 F)(h':S2 F'):S2 λu=>F u/\F' u:=⟨λu u' hu hb=>⟨h.up u u' hu.1 hb,h'.up u u' hu.2 hb⟩,λu τ d hu=>⟨h.tl u τ d hu.1,h'.tl u τ d hu.2⟩⟩
structure F5 (X0:Nat->Prop) (W0:World) (F:World->Prop) (X:Nat->Prop) (Shun:Loc->Prop) (V:World):Prop where
 hX:Y9 Shun X
 base:M1 X V
 hold:∀τ d,F (E0 X V τ d)
 low:∀τ d,Below W0.heap.size (E0 X0 W0 τ d) (E0 X V τ d)
 far:∀b,X b->X0 b∨W0.heap.size<=b
section
variable {X0 X:Nat->Prop} {W0 V:World} {F:World->Prop} {Shun:Loc->Prop}
theorem F5.at(h:F5 X0 W0 F X Shun V)(d:Nat):F5 X0 W0 F X Shun (V.at d):=⟨h.hX,h.base.at d,h.hold,h.low,h.far⟩
theorem F5.size(h:F5 X0 W0 F X Shun V):W0.heap.size<=V.heap.size:=by
 have:=(h.low (λ_ _=>0) 0).size;(try unfold Up at this);rwa [I5,I5] at this
theorem F5.mono{F':World->Prop}(h:F5 X0 W0 F X Shun V)(hF:∀u,F u->F' u):F5 X0 W0 F' X Shun V:=⟨h.hX,h.base,λτ d=>hF _ (h.hold τ d),h.low,h.far⟩
theorem F5.up{X':Nat->Prop}{Shun':Loc->Prop}{V':World}(h:F5 X0 W0 F X Shun V)(hF:S2 F)(hX:Y9 Shun' X')(hb:M1 X' V')(hW:∀k,X' k->X k∨V.heap.size<=k)(hB:∀τ d,Below V.heap.size (E0 X V τ d) (E0 X' V' τ d)):F5 X0 W0 F X' Shun' V' :=
 ⟨hX,hb,λτ d=>hF.up _ _ (h.hold τ d) (by (try unfold Up);rw[I5];exact hB τ d),λτ d=>(h.low τ d).trans ((hB τ d).mono h.size),λk hk=>(hW k hk).elim (h.far k) λhk=>.inr (B4 h.size hk)⟩
theorem F5.start(hX:Y9 Shun X0)(hb:M1 X0 W0)(hF:∀τ d,F (E0 X0 W0 τ d)):F5 X0 W0 F X0 Shun W0:=⟨hX,hb,hF,λ_ _=>A4 _ _,λ_ h=>.inl h⟩
theorem F5.cell{a:Addr}{v:Value}(h:F5 X0 W0 F X Shun V)(hc:∀u,F u->u.cell? a=some v):V.cell? a=some v/\a.block<V.heap.size/\¬Shun (.cell a):=by
 obtain⟨h1,h2⟩:=AA (hc _ (h.hold (λ_ _=>0) 0));refine⟨h1,World.block_lt_of_cell? V a h1,λhs=>?_⟩;obtain⟨a',e,ha⟩:=h.hX _ hs;cases e
 exact h2 ha
variable {P:Program} {s:Nat->Bool} {Post:Value->World->Prop} {b:Frame} {a:Act} {k:List Item} {bw:List Frame} {gs:Array Goroutine} {sl:Option (Nat×Nat)} {t:Trace}
theorem NA{G':Act->World->Prop}(hF:S2 F)(hG:∀a,N6 (G' a)){g:Goroutine}{V V':World}(hI:F5 X0 W0 F X Shun V)(hst:KH X b k bw (λa u=>∃τ d,G' a u/\Below V.heap.size (E0 X V τ d) u) g V'):
  ∃a',g=G (b.at a' k) bw/\a'.defers=[]/\F5 X0 W0 (λu=>F u/\G' a' u) X Shun V':=by
 obtain⟨a',rfl,hd,a0,hQ⟩:=hst;have h1:=λτ d=>S8 (hG a') (hQ τ d);refine⟨a',rfl,hd,hI.hX,a0,λτ d=>⟨hF.up _ _ (hI.hold τ d) (by (try unfold Up);rw[I5];exact (h1 τ d).2),(h1 τ d).1⟩,λτ d=>(hI.low τ d).trans ((h1 τ d).2.mono hI.size),hI.far⟩
theorem Lv(S:M6 P s){r:Code}(hr:O0 P s r=true)(hb:Cm P b)(hd:a.defers=[])(hF:S2 F)(hI:F5 X0 W0 F X Shun V){G':Act->World->Prop}(hG:∀a,N6 (G' a))(h:∀u,F u->r.wp P (λe a' u'=>e=.normal/\G' a' u'/\Up u u') a u)
  (hh:G6 P Shun gs (G (b.at a (.code r::k)) bw) t) (kk:∀gs V sl t a',G6 P Shun gs (G (b.at a' k) bw) t->a'.defers=[]->F5 X0 W0 (λu=>F u/\G' a' u) X Shun V->E7 P Post (crowd gs V sl) t):E7 P Post (crowd gs V sl) t:=by
 refine Y5 hI.hX hh (Gb S hr hb hd hI.base (Q:=λa u=>∃τ d,G' a u/\Below V.heap.size (E0 X V τ d) u) (λτ d=>AW hI.base (λτ d=>wp_mono (h _ (hI.hold τ d)) ?_) τ d) k bw) λgs' g' w' sl' t' hh' hst=>?_
 ·intro e a' u' hq;refine⟨hq.1,τ,d,hq.2.1,?_⟩;have:=hq.2.2;(try unfold Up at this);rwa [I5] at this
 obtain⟨a',rfl,a0,a1⟩:=NA hF hG hI hst;exact kk gs' w' sl' t' a' hh' a0 a1
theorem PV{Q Q':Exit->Act->World->Prop}(hq:∀e a u,Q e a u->Q' e a u):∀{l:List Code} {a:Act} {u:World},BG P l Q a u->BG P l Q' a u
 | [],_,_,h=>hq _ _ _ h
 | _::_,_,_,h=>wp_mono h λe _ _ h1=>by
  cases e with
  | normal=>exact PV hq h1
  | _=>exact hq _ _ _ h1
theorem Hv(S:M6 P s){l:List Code}{B:Code}(hl:∀r∈l,O0 P s r=true)(hb:Cm P b)(hd:a.defers=[])(hF:S2 F)(hI:F5 X0 W0 F X Shun V){G':Act->World->Prop}(hG:∀a,N6 (G' a))(h:∀u,F u->BG P l (λe a' u'=>e=.normal/\G' a' u'/\Up u u') a u)
  (hh:G6 P Shun gs (G (b.at a (.code (Bz l B)::k)) bw) t) (kk:∀gs V sl t a',G6 P Shun gs (G (b.at a' (.code B::k)) bw) t->a'.defers=[]->F5 X0 W0 (λu=>F u/\G' a' u) X Shun V->E7 P Post (crowd gs V sl) t):E7 P Post (crowd gs V sl) t:=by
 refine Y5 hI.hX hh (EE S hb (Q:=λa u=>∃τ d,G' a u/\Below V.heap.size (E0 X V τ d) u) B k bw l hl hd hI.base (λτ d=>AW hI.base (λτ d=>PV ?_ (h _ (hI.hold τ d))) τ d)) λgs' g' w' sl' t' hh' hst=>?_
 ·intro e a' u' hq;refine⟨hq.1,τ,d,hq.2.1,?_⟩;have:=hq.2.2;(try unfold Up at this);rwa [I5] at this
 obtain⟨a',rfl,a0,a1⟩:=NA hF hG hI hst;exact kk gs' w' sl' t' a' hh' a0 a1
theorem Ex(S:M6 P s){r:Code}(hr:O0 P s r=true)(hb:Cm P b)(hd:a.defers=[]){fn:Func}(hf:P.funcs[b.fn]?=some fn)(hI:F5 X0 W0 F X Shun V){R:Value->World->Prop}(hR:∀v,N6 (R v))(h:∀u,F u->W0.heap.size<=u.heap.size->r.wp P (EF P fn λv u'=>R v u'/\Below W0.heap.size u u') a u){c:Frame}{cs:List Frame}
  (hh:G6 P Shun gs (G (b.at a (.code r::k)) (c::cs)) t) (kk:∀gs V sl t v,G6 P Shun gs (G (c.finish v) cs) t->F5 X0 W0 (R v) X Shun V->E7 P Post (crowd gs V sl) t):E7 P Post (crowd gs V sl) t:=by
 refine Y5 hI.hX hh (KJ S hr hb hd hf hI.base (R:=λv u=>∃τ d,R v u/\Below W0.heap.size (E0 X V τ d) u) (λτ d=>AW hI.base (λτ d=>wp_mono (h _ (hI.hold τ d) (by (try unfold Up);rw[I5];exact hI.size)) ?_) τ d) k c cs) λgs' g' w' sl' t' hh' hst=>?_
 ·intro e a' u' hq;cases e with
  | ret =>
   obtain⟨h1,v,h2,v',e1,h3,h4⟩:=hq;exact⟨h1,v,h2,v',e1,τ,d,h3,h4⟩
  | _=>exact hq.elim
 obtain⟨v,rfl,a0,hQ⟩:=hst;have h1:=λτ d=>S8 (hR v) (hQ τ d);exact kk gs' w' sl' t' v hh' ⟨hI.hX,a0,λτ d=>(h1 τ d).1,λτ d=>(hI.low τ d).trans (h1 τ d).2,hI.far⟩
def Aca(P:Program)(ops:Array Oper)(l:List Nat)(Q:Exit->Act->World->Prop)(a:Act)(u:World):Prop:=∀b k cs,∃e a' w',Q e a' w'/\Arrives P (lone (b.at a (.inRegion ops l::k)) cs u) b k cs e a' w'
theorem Abg{ops:Array Oper}{l:List Nat}{Q:Exit->Act->World->Prop}{a:Act}{u:World}(h:wpOps P ops Q l a u):Aca P ops l Q a u:=wp_ops l a u h
theorem Ad3(S:M6 P s){ops:Array Oper}{l:List Nat}(hl:X6 P s (.inRegion ops l))(hb:Cm P b)(hd:a.defers=[]){w:World}(hw:M1 X w){Q:Act->World->Prop}
  (h:∀τ d,AG (λu=>Aca P ops l (λe a' u'=>e=.normal/\Q a' u') a u) (E0 X w τ d)) (k:List Item) (bw:List Frame) :
  Bx P X (KH X b k bw Q) (G (b.at a (.inRegion ops l::k)) bw) w:=by
 have a1:O2 P s (b.at a [.inRegion ops l]):=hb.ok hd (by intro i hi;simp at hi;subst hi;exact hl)
 have a2:St P X s IJ (λfe u=>∃a',fe=b.at a' []/\AG (Q a') u) (b.at a [.inRegion ops l]) [] w:=by
  refine⟨a1,by simp,hw,λτ d=>?_⟩;obtain⟨u0,h1,h2⟩:=h τ d;obtain⟨e,a',u',⟨rfl,hq⟩,⟨N,hN⟩⟩:=h1 b [] [c0 P];obtain⟨ve,q1,q2⟩:=shift S N a1 (seg:=[]) (by simp) h2 hN;exact⟨N,b.at a' [],ve,q1,⟨rfl,rfl⟩,a',rfl,_,hq,q2⟩
 refine (Nk S (λfe u v hf ⟨a',h1,h3⟩=>⟨a',h1,h3.full hf⟩) k bw a2).mono λg w' ⟨fe,h1,h2,h3,h4,h5⟩=>?_;obtain⟨a',e,_⟩:=h5 (λ_ _=>0) 0;subst e;refine⟨a',h1,h2.defers,h3,λτ d=>?_⟩;obtain⟨a0,e,hq⟩:=h5 τ d;have e1:a'.tmps=a0.tmps:=congrArg Frame.tmps e;have e2:a'.defers=a0.defers:=congrArg Frame.defers e;obtain rfl:a'=a0:=by cases a';cases a0;simp_all
 exact hq
theorem NB(S:M6 P s){ops:Array Oper}{l:List Nat}(hl:X6 P s (.inRegion ops l))(hb:Cm P b)(hd:a.defers=[])(hI:F5 X0 W0 F X Shun V){G':Act->World->Prop}(hG:∀a,N6 (G' a))(h:∀u,F u->W0.heap.size<=u.heap.size->wpOps P ops (λe a' u'=>e=.normal/\G' a' u'/\Below W0.heap.size u u') l a u)
  (hh:G6 P Shun gs (G (b.at a (.inRegion ops l::k)) bw) t) (kk:∀gs V sl t a',G6 P Shun gs (G (b.at a' k) bw) t->a'.defers=[]->F5 X0 W0 (G' a') X Shun V->E7 P Post (crowd gs V sl) t):E7 P Post (crowd gs V sl) t:=by
 refine Y5 hI.hX hh (Ad3 S hl hb hd hI.base (Q:=λa u=>∃τ d,G' a u/\Below W0.heap.size (E0 X V τ d) u) (λτ d=>AW hI.base (λτ d b k cs=>?_) τ d) k bw) λgs' g' w' sl' t' hh' hst=>?_
 ·obtain⟨e,a',w',hq,a0⟩:=Abg (h _ (hI.hold τ d) (by (try unfold Up);rw[I5];exact hI.size)) b k cs;exact⟨e,a',w',⟨hq.1,τ,d,hq.2.1,hq.2.2⟩,a0⟩
 obtain⟨a',rfl,a1,a2,hQ⟩:=hst;have h1:=λτ d=>S8 (hG a') (hQ τ d);exact kk gs' w' sl' t' a' hh' a1 ⟨hI.hX,a2,λτ d=>(h1 τ d).1,λτ d=>(hI.low τ d).trans (h1 τ d).2,hI.far⟩
end
def Am:Code->Code
 | .seq a _=>a
 | c=>c
def O5:Code->Code
 | .seq _ b=>b
 | c=>c
def SJ:Code->Code
 | .cond _ a _=>a
 | c=>c
def cEZ:Code->Code
 | .cond _ _ b=>b
 | c=>c
def SL:Code->Code
 | .block _ c=>c
 | .loop c=>c
 | c=>c
def Bj:Code->Array Oper
 | .region _ o _=>o
 | _=>#[]
noncomputable def Ee:Code:=Tryz.f3.body.getD .skip
noncomputable def Ke:Code:=SL (SL (O5 (Am (O5 (O5 (O5 (Ee)))))))
noncomputable def PW:Code:=SL (SL (O5 (Am (O5 (O5 (O5 (O5 (Ee))))))))
noncomputable def PX:Code:=SL (Am (O5 Ke))
noncomputable def NC:Code:=SL (Am (O5 PW))
noncomputable def Mw:Code:=O5 (O5 (O5 (O5 (O5 (PX)))))
noncomputable def PY:Code:=SL (O5 (Am Mw))
noncomputable def Vd:Code:=cEZ (O5 PY)
noncomputable def SM:Code:=cEZ (O5 Vd)
noncomputable def WN:Array Oper:=Bj (Am Ee)
noncomputable def ND:Array Oper:=Bj (Am (Am (O5 Ee)))
noncomputable def WO:Array Oper:=Bj (Am (SJ (O5 (Am (O5 Ee)))))
noncomputable def FT:Array Oper:=Bj (Am (O5 (O5 (Ee))))
noncomputable def WP:Array Oper:=Bj (Am (Am (O5 (O5 (O5 (Ee))))))
noncomputable def Lw:Array Oper:=Bj (Am (Am Ke))
noncomputable def Lx:Array Oper:=Bj (O5 (O5 Ke))
noncomputable def Iw:Array Oper:=Bj (Am PX)
noncomputable def NE:Array Oper:=Bj (Am (O5 (PX)))
noncomputable def NF:Array Oper:=Bj (Am (O5 (O5 (PX))))
noncomputable def SN:Array Oper:=Bj (Am (O5 (O5 (O5 (PX)))))
noncomputable def SO:Array Oper:=Bj (Am (O5 (O5 (O5 (O5 (PX))))))
noncomputable def NG:Array Oper:=Bj (Am (Am Mw))
noncomputable def Dg:Array Oper:=Bj (Am (cEZ (O5 SM)))
noncomputable def Dh:Array Oper:=Bj (O5 (cEZ (O5 SM)))
noncomputable def NH:Array Oper:=Bj (Am PY)
noncomputable def Co:Array Oper:=Bj (Am (SJ (O5 PY)))
noncomputable def Cp:Array Oper:=Bj (O5 (SJ (O5 PY)))
noncomputable def NI:Array Oper:=Bj (Am Vd)
noncomputable def Cq:Array Oper:=Bj (Am (SJ (O5 Vd)))
noncomputable def Cr:Array Oper:=Bj (O5 (SJ (O5 Vd)))
noncomputable def NJ:Array Oper:=Bj (Am SM)
noncomputable def Cs:Array Oper:=Bj (Am (SJ (O5 SM)))
noncomputable def Ct:Array Oper:=Bj (O5 (SJ (O5 SM)))
noncomputable def P9:Array Oper:=Bj (Am (Am (O5 Mw)))
noncomputable def KO:Array Oper:=Bj (O5 (O5 Mw))
noncomputable def HJ:Array Oper:=Bj (Am (Am (O5 (O5 (O5 (O5 (Ee)))))))
noncomputable def NK:Array Oper:=Bj (Am (Am PW))
noncomputable def KP:Array Oper:=Bj (O5 (O5 PW))
noncomputable def KQ:Array Oper:=Bj (Am NC)
noncomputable def KR:Array Oper:=Bj (Am (Am (O5 NC)))
noncomputable def R9:Array Oper:=Bj (Am (O5 (O5 (NC))))
noncomputable def Z0:Array Oper:=Bj (Am (O5 (O5 (O5 (NC)))))
noncomputable def CJ:Array Oper:=Bj (Am (Am (O5 (O5 (O5 (O5 (NC)))))))
noncomputable def NL:Array Oper:=Bj (O5 (O5 (O5 (O5 (O5 (NC))))))
noncomputable def Gc:Array Oper:=Bj (Am (O5 (O5 (O5 (O5 (O5 (Ee)))))))
theorem Abh:Ee=.seq (.region 0 WN false) (.seq (.seq (.region 1 ND false) (.cond (.tmp 19) (.seq (.region 2 WO false) .ret) .skip)) (.seq (.region 3 FT false) (.seq (.seq (.region 4 WP false) (.block 0 (.loop Ke))) (.seq (.seq (.region 27 HJ false) (.block 3 (.loop PW))) (.seq (.region 38 Gc false) .ret))))):=rfl
theorem Zj:Ke=.seq (.seq (.region 5 Lw false) (.cond (.tmp 28) .skip (.exit 0))) (.seq (.block 1 PX) (.region 6 Lx false)):=rfl
theorem Af7:PX=.seq (.region 7 Iw false) (.seq (.region 8 NE false) (.seq (.region 9 NF false) (.seq (.region 10 SN false) (.seq (.region 11 SO false) Mw)))):=rfl
theorem Af8:PY=.seq (.region 15 NH false) (.cond (.tmp 53) (.seq (.region 16 Co false) (.region 17 Cp false)) Vd):=rfl
theorem Af9:Vd=.seq (.region 18 NI false) (.cond (.tmp 73) (.seq (.region 19 Cq false) (.region 20 Cr false)) SM):=rfl
theorem AfA:SM=.seq (.region 21 NJ false) (.cond (.tmp 93) (.seq (.region 22 Cs false) (.region 23 Ct false)) (.seq (.region 13 Dg false) (.region 14 Dh false))):=rfl
theorem SP:PW=.seq (.seq (.region 28 NK false) (.cond (.tmp 151) .skip (.exit 3))) (.seq (.block 4 NC) (.region 29 KP false)):=rfl
theorem AfB:∃x y,NC=.seq (.region 30 KQ false) (.seq (.seq (.region 31 KR false) (.cond (.tmp 158) x .skip)) (.seq (.region 33 R9 true) (.seq (.region 34 Z0 true) (.seq (.seq (.region 35 CJ false) (.cond (.tmp 190) y .skip)) (.region 37 NL false))))):=⟨_,_,rfl⟩
noncomputable def bZ:Frame:=base 3
theorem frZ:Cm prog bZ:=⟨rfl,_,func3⟩
def Zk(v:Value):Array Value:=#[v,undef,undef,undef,undef,undef,undef,undef,undef,undef,undef,undef,undef,undef,undef,undef,undef,undef,undef,undef,undef,undef,undef,undef,undef,undef,undef,undef,undef,undef,undef,undef,undef,undef,undef,undef,undef,undef,undef,undef,undef,undef,undef,undef,undef,undef,undef,undef,undef,undef,undef,undef,undef,undef,undef,undef,undef,undef,undef,undef,undef,undef,undef,undef,undef,undef,undef,undef,undef,undef,undef,undef,undef,undef,undef,undef,undef,undef,undef,undef,undef,undef,undef,undef,undef,undef,undef,undef,undef,undef,undef,undef,undef,undef,undef,undef,undef,undef,undef,undef,undef,undef,undef,undef,undef,undef,undef,undef,undef,undef,undef,undef,undef,undef,undef,undef,undef,undef,undef,undef,undef,undef,undef,undef,undef,undef,undef,undef,undef,undef,undef,undef,undef,undef,undef,undef,undef,undef,undef,undef,undef,undef,undef,undef,undef,undef,undef,undef,undef,undef,undef,undef,undef,undef,undef,undef,undef,undef,undef,undef,undef,undef,undef,undef,undef,undef,undef,undef,undef,undef,undef,undef,undef,undef,undef,undef,undef,undef,undef,undef,undef,undef,undef,undef,undef,undef,undef,undef,undef,undef,undef,undef,undef,undef,undef,undef]
theorem AfC(v:Value):Frame.enter prog 3 #[v] .normal=bZ.at ⟨Zk v,[]⟩ [.code Ee]:=by
 simp[Frame.enter,Frame.at,func3,bZ,base,Zk,Ee,Tryz.f3]
abbrev Opd(c:Array Go.Oper)(i:Nat)(p:Go.Op)(d:Option Go.Tmp):Prop:=∃o,c[i]?=some o/\o.op=p/\o.dst=d/\o.guard=none
abbrev Ope(c:Array Go.Oper)(i:Nat)(p:Go.Op)(d:Nat):Prop:=Opd c i p (some d)
theorem Alm:Ope WN 0 (.assign (.const (.bool false))) 2:=⟨_,rfl,rfl,rfl,rfl⟩
theorem Aln:Ope ND 0 (.move (.tmp 0)) 17:=⟨_,rfl,rfl,rfl,rfl⟩
theorem Alo:Ope ND 1 (.call {callee:=.builtin .len,args:=#[.tmp 17],argTypes:=#[22]}) 18:=⟨_,rfl,rfl,rfl,rfl⟩
theorem AfD:Ope ND 2 (.binOp .gtr 3 (.tmp 18) (.const (Iz 1048576)) 3) 19:=⟨_,rfl,rfl,rfl,rfl⟩
theorem Alp:Ope WO 0 (.assign (.const (.bool true))) 2:=⟨_,rfl,rfl,rfl,rfl⟩
theorem Alq:Ope FT 0 (.move (.tmp 0)) 21:=⟨_,rfl,rfl,rfl,rfl⟩
theorem Alr:∃o,FT[1]?=some o/\(∃ats,o.op=.call {callee:=.value (.func 4),args:=#[.tmp 21],argTypes:=ats})/\o.dst=some 22/\o.guard=none:=⟨_,rfl,⟨_,rfl⟩,rfl,rfl⟩
theorem Als:Ope FT 2 (.move (.tmp 22)) 20:=⟨_,rfl,rfl,rfl,rfl⟩
theorem Alt:Ope FT 3 (.extract (.tmp 20) 0) 23:=⟨_,rfl,rfl,rfl,rfl⟩
theorem Alu:Ope FT 4 (.extract (.tmp 20) 1) 24:=⟨_,rfl,rfl,rfl,rfl⟩
theorem Alv:Ope FT 5 (.alloc 26) 3:=⟨_,rfl,rfl,rfl,rfl⟩
theorem Alw:Opd FT 6 (.store 26 (.tmp 3) (.tmp 23)) none:=⟨_,rfl,rfl,rfl,rfl⟩
theorem Alx:Ope FT 7 (.assign (.tmp 24)) 4:=⟨_,rfl,rfl,rfl,rfl⟩
theorem Aly:Ope WP 0 (.assign (.const (Iz 0))) 5:=⟨_,rfl,rfl,rfl,rfl⟩
theorem Alz:Ope Lw 0 (.move (.tmp 5)) 25:=⟨_,rfl,rfl,rfl,rfl⟩
theorem Al0:Ope Lw 1 (.move (.tmp 4)) 26:=⟨_,rfl,rfl,rfl,rfl⟩
theorem Al1:Ope Lw 2 (.call {callee:=.builtin .len,args:=#[.tmp 26],argTypes:=#[27]}) 27:=⟨_,rfl,rfl,rfl,rfl⟩
theorem AfE:Ope Lw 3 (.binOp .lss 3 (.tmp 25) (.tmp 27) 3) 28:=⟨_,rfl,rfl,rfl,rfl⟩
theorem Al2:Ope Lx 0 (.move (.tmp 5)) 29:=⟨_,rfl,rfl,rfl,rfl⟩
theorem Al3:Ope Lx 1 (.binOp .add 3 (.tmp 29) (.const (Iz 1)) 3) 30:=⟨_,rfl,rfl,rfl,rfl⟩
theorem Al4:Ope Lx 2 (.assign (.tmp 30)) 5:=⟨_,rfl,rfl,rfl,rfl⟩
theorem Al5:Ope Iw 0 (.move (.tmp 4)) 31:=⟨_,rfl,rfl,rfl,rfl⟩
theorem Al6:Ope Iw 1 (.move (.tmp 5)) 32:=⟨_,rfl,rfl,rfl,rfl⟩
theorem Al7:Ope Iw 2 (.indexAddr 27 (.tmp 31) (.tmp 32)) 33:=⟨_,rfl,rfl,rfl,rfl⟩
theorem Al8:Ope Iw 3 (.load 31 (.tmp 33)) 34:=⟨_,rfl,rfl,rfl,rfl⟩
theorem Al9:Ope Iw 4 (.alloc 31) 6:=⟨_,rfl,rfl,rfl,rfl⟩
theorem AlA:Opd Iw 5 (.store 31 (.tmp 6) (.tmp 34)) none:=⟨_,rfl,rfl,rfl,rfl⟩
theorem AlB:Ope NE 0 (.load 26 (.tmp 3)) 35:=⟨_,rfl,rfl,rfl,rfl⟩
theorem AlC:Ope NE 1 (.alloc 26) 7:=⟨_,rfl,rfl,rfl,rfl⟩
theorem AlD:Opd NE 2 (.store 26 (.tmp 7) (.tmp 35)) none:=⟨_,rfl,rfl,rfl,rfl⟩
theorem AlE:Ope NF 0 (.load 26 (.tmp 3)) 36:=⟨_,rfl,rfl,rfl,rfl⟩
theorem AlF:Ope NF 1 (.alloc 26) 8:=⟨_,rfl,rfl,rfl,rfl⟩
theorem AlG:Opd NF 2 (.store 26 (.tmp 8) (.tmp 36)) none:=⟨_,rfl,rfl,rfl,rfl⟩
theorem AhC:Ope SN 0 (.assign (.const (Iz 0))) 9:=⟨_,rfl,rfl,rfl,rfl⟩
theorem AhD:Ope SO 0 (.assign (.const (Iz 0))) 10:=⟨_,rfl,rfl,rfl,rfl⟩
theorem AhE:Ope NG 0 (.fieldAddr 31 (.tmp 6) 0) 37:=⟨_,rfl,rfl,rfl,rfl⟩
theorem AhF:Ope NG 1 (.load 3 (.tmp 37)) 38:=⟨_,rfl,rfl,rfl,rfl⟩
theorem AhG:Ope Dg 0 (.load 26 (.tmp 3)) 40:=⟨_,rfl,rfl,rfl,rfl⟩
theorem AhH:Ope Dg 1 (.fieldAddr 31 (.tmp 6) 1) 41:=⟨_,rfl,rfl,rfl,rfl⟩
theorem AhI:Ope Dg 2 (.load 9 (.tmp 41)) 42:=⟨_,rfl,rfl,rfl,rfl⟩
theorem AhJ:∃o,Dg[3]?=some o/\(∃ats,o.op=.call {callee:=.value (.func 11),args:=#[.tmp 40,.tmp 42],argTypes:=ats})/\o.dst=some 43/\o.guard=none:=⟨_,rfl,⟨_,rfl⟩,rfl,rfl⟩
theorem AhK:Ope Dg 4 (.move (.tmp 43)) 39:=⟨_,rfl,rfl,rfl,rfl⟩
theorem AhL:Ope Dg 5 (.extract (.tmp 39) 0) 44:=⟨_,rfl,rfl,rfl,rfl⟩
theorem AhM:Ope Dg 6 (.extract (.tmp 39) 1) 45:=⟨_,rfl,rfl,rfl,rfl⟩
theorem AhN:Opd Dg 7 (.store 26 (.tmp 7) (.tmp 44)) none:=⟨_,rfl,rfl,rfl,rfl⟩
theorem AhO:Ope Dg 8 (.assign (.tmp 45)) 9:=⟨_,rfl,rfl,rfl,rfl⟩
theorem AhP:Ope Dh 0 (.load 26 (.tmp 3)) 47:=⟨_,rfl,rfl,rfl,rfl⟩
theorem AhQ:Ope Dh 1 (.fieldAddr 31 (.tmp 6) 1) 48:=⟨_,rfl,rfl,rfl,rfl⟩
theorem AhR:Ope Dh 2 (.load 9 (.tmp 48)) 49:=⟨_,rfl,rfl,rfl,rfl⟩
theorem AhS:∃o,Dh[3]?=some o/\(∃ats,o.op=.call {callee:=.value (.func 12),args:=#[.tmp 47,.tmp 49],argTypes:=ats})/\o.dst=some 50/\o.guard=none:=⟨_,rfl,⟨_,rfl⟩,rfl,rfl⟩
theorem AhT:Ope Dh 4 (.move (.tmp 50)) 46:=⟨_,rfl,rfl,rfl,rfl⟩
theorem AhU:Ope Dh 5 (.extract (.tmp 46) 0) 51:=⟨_,rfl,rfl,rfl,rfl⟩
theorem AhV:Ope Dh 6 (.extract (.tmp 46) 1) 52:=⟨_,rfl,rfl,rfl,rfl⟩
theorem AhW:Opd Dh 7 (.store 26 (.tmp 8) (.tmp 51)) none:=⟨_,rfl,rfl,rfl,rfl⟩
theorem AhX:Ope Dh 8 (.assign (.tmp 52)) 10:=⟨_,rfl,rfl,rfl,rfl⟩
theorem Acc:Ope NH 0 (.binOp .eql 3 (.tmp 38) (.const (Iz 1)) 3) 54:=⟨_,rfl,rfl,rfl,rfl⟩
theorem Acd:Ope NH 1 (.assign (.tmp 54)) 53:=⟨_,rfl,rfl,rfl,rfl⟩
theorem AhY:Ope Co 0 (.load 26 (.tmp 3)) 56:=⟨_,rfl,rfl,rfl,rfl⟩
theorem AhZ:Ope Co 1 (.fieldAddr 31 (.tmp 6) 1) 57:=⟨_,rfl,rfl,rfl,rfl⟩
theorem Aia:Ope Co 2 (.load 9 (.tmp 57)) 58:=⟨_,rfl,rfl,rfl,rfl⟩
theorem Aib:Ope Co 3 (.fieldAddr 31 (.tmp 6) 2) 59:=⟨_,rfl,rfl,rfl,rfl⟩
theorem Aic:Ope Co 4 (.load 23 (.tmp 59)) 60:=⟨_,rfl,rfl,rfl,rfl⟩
theorem Aid:∃o,Co[5]?=some o/\(∃ats,o.op=.call {callee:=.value (.func 5),args:=#[.tmp 56,.tmp 58,.tmp 60],argTypes:=ats})/\o.dst=some 61/\o.guard=none:=⟨_,rfl,⟨_,rfl⟩,rfl,rfl⟩
theorem Aie:Ope Co 6 (.move (.tmp 61)) 55:=⟨_,rfl,rfl,rfl,rfl⟩
theorem Aif:Ope Co 7 (.extract (.tmp 55) 0) 62:=⟨_,rfl,rfl,rfl,rfl⟩
theorem Aig:Ope Co 8 (.extract (.tmp 55) 1) 63:=⟨_,rfl,rfl,rfl,rfl⟩
theorem Aih:Opd Co 9 (.store 26 (.tmp 7) (.tmp 62)) none:=⟨_,rfl,rfl,rfl,rfl⟩
theorem AfF:Ope Co 10 (.assign (.tmp 63)) 9:=⟨_,rfl,rfl,rfl,rfl⟩
theorem Aii:Ope Cp 0 (.load 26 (.tmp 3)) 65:=⟨_,rfl,rfl,rfl,rfl⟩
theorem Aij:Ope Cp 1 (.fieldAddr 31 (.tmp 6) 1) 66:=⟨_,rfl,rfl,rfl,rfl⟩
theorem Aik:Ope Cp 2 (.load 9 (.tmp 66)) 67:=⟨_,rfl,rfl,rfl,rfl⟩
theorem Ail:Ope Cp 3 (.fieldAddr 31 (.tmp 6) 2) 68:=⟨_,rfl,rfl,rfl,rfl⟩
theorem Aim:Ope Cp 4 (.load 23 (.tmp 68)) 69:=⟨_,rfl,rfl,rfl,rfl⟩
theorem Ain:∃o,Cp[5]?=some o/\(∃ats,o.op=.call {callee:=.value (.func 6),args:=#[.tmp 65,.tmp 67,.tmp 69],argTypes:=ats})/\o.dst=some 70/\o.guard=none:=⟨_,rfl,⟨_,rfl⟩,rfl,rfl⟩
theorem Aio:Ope Cp 6 (.move (.tmp 70)) 64:=⟨_,rfl,rfl,rfl,rfl⟩
theorem Aip:Ope Cp 7 (.extract (.tmp 64) 0) 71:=⟨_,rfl,rfl,rfl,rfl⟩
theorem Aiq:Ope Cp 8 (.extract (.tmp 64) 1) 72:=⟨_,rfl,rfl,rfl,rfl⟩
theorem Air:Opd Cp 9 (.store 26 (.tmp 8) (.tmp 71)) none:=⟨_,rfl,rfl,rfl,rfl⟩
theorem AfG:Ope Cp 10 (.assign (.tmp 72)) 10:=⟨_,rfl,rfl,rfl,rfl⟩
theorem Ace:Ope NI 0 (.binOp .eql 3 (.tmp 38) (.const (Iz 2)) 3) 74:=⟨_,rfl,rfl,rfl,rfl⟩
theorem Acf:Ope NI 1 (.assign (.tmp 74)) 73:=⟨_,rfl,rfl,rfl,rfl⟩
theorem Ais:Ope Cq 0 (.load 26 (.tmp 3)) 76:=⟨_,rfl,rfl,rfl,rfl⟩
theorem Ait:Ope Cq 1 (.fieldAddr 31 (.tmp 6) 1) 77:=⟨_,rfl,rfl,rfl,rfl⟩
theorem Aiu:Ope Cq 2 (.load 9 (.tmp 77)) 78:=⟨_,rfl,rfl,rfl,rfl⟩
theorem Aiv:Ope Cq 3 (.fieldAddr 31 (.tmp 6) 2) 79:=⟨_,rfl,rfl,rfl,rfl⟩
theorem Aiw:Ope Cq 4 (.load 23 (.tmp 79)) 80:=⟨_,rfl,rfl,rfl,rfl⟩
theorem Aix:∃o,Cq[5]?=some o/\(∃ats,o.op=.call {callee:=.value (.func 7),args:=#[.tmp 76,.tmp 78,.tmp 80],argTypes:=ats})/\o.dst=some 81/\o.guard=none:=⟨_,rfl,⟨_,rfl⟩,rfl,rfl⟩
theorem Aiy:Ope Cq 6 (.move (.tmp 81)) 75:=⟨_,rfl,rfl,rfl,rfl⟩
theorem Aiz:Ope Cq 7 (.extract (.tmp 75) 0) 82:=⟨_,rfl,rfl,rfl,rfl⟩
theorem Ai0:Ope Cq 8 (.extract (.tmp 75) 1) 83:=⟨_,rfl,rfl,rfl,rfl⟩
theorem Ai1:Opd Cq 9 (.store 26 (.tmp 7) (.tmp 82)) none:=⟨_,rfl,rfl,rfl,rfl⟩
theorem AfH:Ope Cq 10 (.assign (.tmp 83)) 9:=⟨_,rfl,rfl,rfl,rfl⟩
theorem Ai2:Ope Cr 0 (.load 26 (.tmp 3)) 85:=⟨_,rfl,rfl,rfl,rfl⟩
theorem Ai3:Ope Cr 1 (.fieldAddr 31 (.tmp 6) 1) 86:=⟨_,rfl,rfl,rfl,rfl⟩
theorem Ai4:Ope Cr 2 (.load 9 (.tmp 86)) 87:=⟨_,rfl,rfl,rfl,rfl⟩
theorem Ai5:Ope Cr 3 (.fieldAddr 31 (.tmp 6) 2) 88:=⟨_,rfl,rfl,rfl,rfl⟩
theorem Ai6:Ope Cr 4 (.load 23 (.tmp 88)) 89:=⟨_,rfl,rfl,rfl,rfl⟩
theorem Ai7:∃o,Cr[5]?=some o/\(∃ats,o.op=.call {callee:=.value (.func 8),args:=#[.tmp 85,.tmp 87,.tmp 89],argTypes:=ats})/\o.dst=some 90/\o.guard=none:=⟨_,rfl,⟨_,rfl⟩,rfl,rfl⟩
theorem Ai8:Ope Cr 6 (.move (.tmp 90)) 84:=⟨_,rfl,rfl,rfl,rfl⟩
theorem Ai9:Ope Cr 7 (.extract (.tmp 84) 0) 91:=⟨_,rfl,rfl,rfl,rfl⟩
theorem AiA:Ope Cr 8 (.extract (.tmp 84) 1) 92:=⟨_,rfl,rfl,rfl,rfl⟩
theorem AiB:Opd Cr 9 (.store 26 (.tmp 8) (.tmp 91)) none:=⟨_,rfl,rfl,rfl,rfl⟩
theorem AfI:Ope Cr 10 (.assign (.tmp 92)) 10:=⟨_,rfl,rfl,rfl,rfl⟩
theorem Acg:Ope NJ 0 (.binOp .eql 3 (.tmp 38) (.const (Iz 3)) 3) 94:=⟨_,rfl,rfl,rfl,rfl⟩
theorem Ach:Ope NJ 1 (.assign (.tmp 94)) 93:=⟨_,rfl,rfl,rfl,rfl⟩
theorem AiC:Ope Cs 0 (.load 26 (.tmp 3)) 96:=⟨_,rfl,rfl,rfl,rfl⟩
theorem AiD:Ope Cs 1 (.fieldAddr 31 (.tmp 6) 1) 97:=⟨_,rfl,rfl,rfl,rfl⟩
theorem AiE:Ope Cs 2 (.load 9 (.tmp 97)) 98:=⟨_,rfl,rfl,rfl,rfl⟩
theorem AiF:Ope Cs 3 (.fieldAddr 31 (.tmp 6) 2) 99:=⟨_,rfl,rfl,rfl,rfl⟩
theorem AiG:Ope Cs 4 (.load 23 (.tmp 99)) 100:=⟨_,rfl,rfl,rfl,rfl⟩
theorem AiH:∃o,Cs[5]?=some o/\(∃ats,o.op=.call {callee:=.value (.func 9),args:=#[.tmp 96,.tmp 98,.tmp 100],argTypes:=ats})/\o.dst=some 101/\o.guard=none:=⟨_,rfl,⟨_,rfl⟩,rfl,rfl⟩
theorem AiI:Ope Cs 6 (.move (.tmp 101)) 95:=⟨_,rfl,rfl,rfl,rfl⟩
theorem AiJ:Ope Cs 7 (.extract (.tmp 95) 0) 102:=⟨_,rfl,rfl,rfl,rfl⟩
theorem AiK:Ope Cs 8 (.extract (.tmp 95) 1) 103:=⟨_,rfl,rfl,rfl,rfl⟩
theorem AiL:Opd Cs 9 (.store 26 (.tmp 7) (.tmp 102)) none:=⟨_,rfl,rfl,rfl,rfl⟩
theorem AfJ:Ope Cs 10 (.assign (.tmp 103)) 9:=⟨_,rfl,rfl,rfl,rfl⟩
theorem AiM:Ope Ct 0 (.load 26 (.tmp 3)) 105:=⟨_,rfl,rfl,rfl,rfl⟩
theorem AiN:Ope Ct 1 (.fieldAddr 31 (.tmp 6) 1) 106:=⟨_,rfl,rfl,rfl,rfl⟩
theorem AiO:Ope Ct 2 (.load 9 (.tmp 106)) 107:=⟨_,rfl,rfl,rfl,rfl⟩
theorem AiP:Ope Ct 3 (.fieldAddr 31 (.tmp 6) 2) 108:=⟨_,rfl,rfl,rfl,rfl⟩
theorem AiQ:Ope Ct 4 (.load 23 (.tmp 108)) 109:=⟨_,rfl,rfl,rfl,rfl⟩
theorem AiR:∃o,Ct[5]?=some o/\(∃ats,o.op=.call {callee:=.value (.func 10),args:=#[.tmp 105,.tmp 107,.tmp 109],argTypes:=ats})/\o.dst=some 110/\o.guard=none:=⟨_,rfl,⟨_,rfl⟩,rfl,rfl⟩
theorem AiS:Ope Ct 6 (.move (.tmp 110)) 104:=⟨_,rfl,rfl,rfl,rfl⟩
theorem AiT:Ope Ct 7 (.extract (.tmp 104) 0) 111:=⟨_,rfl,rfl,rfl,rfl⟩
theorem AiU:Ope Ct 8 (.extract (.tmp 104) 1) 112:=⟨_,rfl,rfl,rfl,rfl⟩
theorem AiV:Opd Ct 9 (.store 26 (.tmp 8) (.tmp 111)) none:=⟨_,rfl,rfl,rfl,rfl⟩
theorem AfK:Ope Ct 10 (.assign (.tmp 112)) 10:=⟨_,rfl,rfl,rfl,rfl⟩
theorem AiW:Ope P9 0 (.move (.tmp 9)) 113:=⟨_,rfl,rfl,rfl,rfl⟩
theorem AiX:Ope P9 1 (.move (.tmp 10)) 114:=⟨_,rfl,rfl,rfl,rfl⟩
theorem AiY:Ope P9 2 (.binOp .neq 3 (.tmp 113) (.tmp 114) 3) 115:=⟨_,rfl,rfl,rfl,rfl⟩
theorem NM:Ope P9 3 (.move (.tmp 115)) 116:=⟨_,rfl,rfl,rfl,rfl⟩
theorem AiZ:∃o,P9[4]?=some o/\(o.op=.load 26 (.tmp 7))/\o.dst=some 117/\o.guard=some (3,false):=⟨_,rfl,rfl,rfl,rfl⟩
theorem Aja:∃o,P9[5]?=some o/\(o.op=.load 26 (.tmp 8))/\o.dst=some 118/\o.guard=some (3,false):=⟨_,rfl,rfl,rfl,rfl⟩
theorem Ajb:∃o,P9[6]?=some o/\(∃ats,o.op=.call {callee:=.value (.func 13),args:=#[.tmp 117,.tmp 118],argTypes:=ats})/\o.dst=some 119/\o.guard=some (3,false):=⟨_,rfl,⟨_,rfl⟩,rfl,rfl⟩
theorem Ajc:∃o,P9[7]?=some o/\(∃ty,o.op=.unOp .not ty (.tmp 119))/\o.dst=some 120/\o.guard=some (3,false):=⟨_,rfl,⟨_,rfl⟩,rfl,rfl⟩
theorem Ajd:Ope P9 8 (.pick (.tmp 116) (.const (.bool true)) (.tmp 120)) 121:=⟨_,rfl,rfl,rfl,rfl⟩
theorem QJ:Ope P9 9 (.move (.tmp 121)) 122:=⟨_,rfl,rfl,rfl,rfl⟩
theorem AfL:∃o,P9[10]?=some o/\(o.op=.load 26 (.tmp 7))/\o.dst=some 123/\o.guard=some (9,false):=⟨_,rfl,rfl,rfl,rfl⟩
theorem AfM:∃o,P9[11]?=some o/\(∃ats,o.op=.call {callee:=.value (.func 14),args:=#[.tmp 123],argTypes:=ats})/\o.dst=some 124/\o.guard=some (9,false):=⟨_,rfl,⟨_,rfl⟩,rfl,rfl⟩
theorem AfN:∃o,P9[12]?=some o/\(∃ty,o.op=.unOp .not ty (.tmp 124))/\o.dst=some 125/\o.guard=some (9,false):=⟨_,rfl,⟨_,rfl⟩,rfl,rfl⟩
theorem AfO:Ope P9 13 (.pick (.tmp 122) (.const (.bool true)) (.tmp 125)) 126:=⟨_,rfl,rfl,rfl,rfl⟩
theorem NO:Ope P9 14 (.move (.tmp 126)) 127:=⟨_,rfl,rfl,rfl,rfl⟩
theorem AfP:∃o,P9[15]?=some o/\(o.op=.load 26 (.tmp 7))/\o.dst=some 128/\o.guard=some (14,false):=⟨_,rfl,rfl,rfl,rfl⟩
theorem AfQ:∃o,P9[16]?=some o/\(∃ats,o.op=.call {callee:=.value (.func 15),args:=#[.tmp 128],argTypes:=ats})/\o.dst=some 129/\o.guard=some (14,false):=⟨_,rfl,⟨_,rfl⟩,rfl,rfl⟩
theorem AfR:∃o,P9[17]?=some o/\(∃ty,o.op=.unOp .not ty (.tmp 129))/\o.dst=some 130/\o.guard=some (14,false):=⟨_,rfl,⟨_,rfl⟩,rfl,rfl⟩
theorem AfS:Ope P9 18 (.pick (.tmp 127) (.const (.bool true)) (.tmp 130)) 131:=⟨_,rfl,rfl,rfl,rfl⟩
theorem SQ:Ope P9 19 (.move (.tmp 131)) 132:=⟨_,rfl,rfl,rfl,rfl⟩
theorem AfT:∃o,P9[20]?=some o/\(o.op=.load 26 (.tmp 7))/\o.dst=some 133/\o.guard=some (19,false):=⟨_,rfl,rfl,rfl,rfl⟩
theorem AfU:∃o,P9[21]?=some o/\(∃ats,o.op=.call {callee:=.value (.func 16),args:=#[.tmp 133],argTypes:=ats})/\o.dst=some 134/\o.guard=some (19,false):=⟨_,rfl,⟨_,rfl⟩,rfl,rfl⟩
theorem AfV:Ope P9 22 (.pick (.tmp 132) (.const (.bool true)) (.tmp 134)) 135:=⟨_,rfl,rfl,rfl,rfl⟩
theorem Gd:Ope P9 23 (.move (.tmp 135)) 136:=⟨_,rfl,rfl,rfl,rfl⟩
theorem AfW:∃o,P9[24]?=some o/\(o.op=.move (.tmp 9))/\o.dst=some 137/\o.guard=some (23,false):=⟨_,rfl,rfl,rfl,rfl⟩
theorem Zl:∃o,P9[25]?=some o/\(o.op=.binOp .neq 3 (.tmp 137) (.const (Iz 0)) 3)/\o.dst=some 138/\o.guard=some (23,false):=⟨_,rfl,rfl,rfl,rfl⟩
theorem Et:∃o,P9[26]?=some o/\(o.op=.move (.tmp 138))/\o.dst=some 139/\o.guard=some (23,false):=⟨_,rfl,rfl,rfl,rfl⟩
theorem Zm:∃o,P9[27]?=some o/\(o.op=.load 26 (.tmp 7))/\o.dst=some 140/\o.guard=some (26,true):=⟨_,rfl,rfl,rfl,rfl⟩
theorem Zn:∃o,P9[28]?=some o/\(o.op=.load 26 (.tmp 3))/\o.dst=some 141/\o.guard=some (26,true):=⟨_,rfl,rfl,rfl,rfl⟩
theorem Zo:∃o,P9[29]?=some o/\(∃ats,o.op=.call {callee:=.value (.func 13),args:=#[.tmp 140,.tmp 141],argTypes:=ats})/\o.dst=some 142/\o.guard=some (26,true):=⟨_,rfl,⟨_,rfl⟩,rfl,rfl⟩
theorem Zp:∃o,P9[30]?=some o/\(∃ty,o.op=.unOp .not ty (.tmp 142))/\o.dst=some 143/\o.guard=some (26,true):=⟨_,rfl,⟨_,rfl⟩,rfl,rfl⟩
theorem Zq:∃o,P9[31]?=some o/\(o.op=.pick (.tmp 139) (.tmp 143) (.const (.bool false)))/\o.dst=some 144/\o.guard=some (23,false):=⟨_,rfl,rfl,rfl,rfl⟩
theorem AfX:Ope P9 32 (.pick (.tmp 136) (.const (.bool true)) (.tmp 144)) 145:=⟨_,rfl,rfl,rfl,rfl⟩
theorem Aje:Ope KO 0 (.load 26 (.tmp 7)) 146:=⟨_,rfl,rfl,rfl,rfl⟩
theorem Ajf:Opd KO 1 (.store 26 (.tmp 3) (.tmp 146)) none:=⟨_,rfl,rfl,rfl,rfl⟩
theorem Ajg:Ope HJ 0 (.fieldAddr 26 (.tmp 3) 1) 147:=⟨_,rfl,rfl,rfl,rfl⟩
theorem Ajh:Ope HJ 1 (.load 24 (.tmp 147)) 148:=⟨_,rfl,rfl,rfl,rfl⟩
theorem Aji:Ope HJ 2 (.call {callee:=.builtin .len,args:=#[.tmp 148],argTypes:=#[24]}) 149:=⟨_,rfl,rfl,rfl,rfl⟩
theorem Ajj:Ope HJ 3 (.assign (.tmp 149)) 11:=⟨_,rfl,rfl,rfl,rfl⟩
theorem Aci:Ope NK 0 (.move (.tmp 11)) 150:=⟨_,rfl,rfl,rfl,rfl⟩
theorem Acj:Ope NK 1 (.binOp .gtr 3 (.tmp 150) (.const (Iz 0)) 3) 151:=⟨_,rfl,rfl,rfl,rfl⟩
theorem Ajk:Ope KP 0 (.move (.tmp 11)) 152:=⟨_,rfl,rfl,rfl,rfl⟩
theorem Ajl:Ope KP 1 (.binOp .sub 3 (.tmp 152) (.const (Iz 1)) 3) 153:=⟨_,rfl,rfl,rfl,rfl⟩
theorem Ajm:Ope KP 2 (.assign (.tmp 153)) 11:=⟨_,rfl,rfl,rfl,rfl⟩
theorem Ajn:Ope KQ 0 (.load 26 (.tmp 3)) 154:=⟨_,rfl,rfl,rfl,rfl⟩
theorem Ajo:∃o,KQ[1]?=some o/\(∃ats,o.op=.call {callee:=.value (.func 17),args:=#[.tmp 154],argTypes:=ats})/\o.dst=some 155/\o.guard=none:=⟨_,rfl,⟨_,rfl⟩,rfl,rfl⟩
theorem Ajp:Ope KQ 2 (.assign (.tmp 155)) 12:=⟨_,rfl,rfl,rfl,rfl⟩
theorem Ajq:Ope KR 0 (.move (.tmp 12)) 156:=⟨_,rfl,rfl,rfl,rfl⟩
theorem Ajr:Ope KR 1 (.call {callee:=.builtin .len,args:=#[.tmp 156],argTypes:=#[23]}) 157:=⟨_,rfl,rfl,rfl,rfl⟩
theorem Ajs:Ope KR 2 (.binOp .eql 3 (.tmp 157) (.const (Iz 0)) 3) 158:=⟨_,rfl,rfl,rfl,rfl⟩
theorem Ajt:Ope R9 0 (.load 26 (.tmp 3)) 160:=⟨_,rfl,rfl,rfl,rfl⟩
theorem Aju:Ope R9 1 (.move (.tmp 12)) 161:=⟨_,rfl,rfl,rfl,rfl⟩
theorem Ajv:Ope R9 2 (.indexAddr 23 (.tmp 161) (.const (Iz 0))) 162:=⟨_,rfl,rfl,rfl,rfl⟩
theorem Ajw:Ope R9 3 (.load 9 (.tmp 162)) 163:=⟨_,rfl,rfl,rfl,rfl⟩
theorem Ajx:Ope R9 4 (.load 26 (.tmp 3)) 164:=⟨_,rfl,rfl,rfl,rfl⟩
theorem Ajy:Ope R9 5 (.move (.tmp 12)) 165:=⟨_,rfl,rfl,rfl,rfl⟩
theorem Ajz:Ope R9 6 (.indexAddr 23 (.tmp 165) (.const (Iz 0))) 166:=⟨_,rfl,rfl,rfl,rfl⟩
theorem Aj0:Ope R9 7 (.load 9 (.tmp 166)) 167:=⟨_,rfl,rfl,rfl,rfl⟩
theorem Aj1:∃o,R9[8]?=some o/\(∃ats,o.op=.call {callee:=.value (.func 18),args:=#[.tmp 164,.tmp 167],argTypes:=ats})/\o.dst=some 168/\o.guard=none:=⟨_,rfl,⟨_,rfl⟩,rfl,rfl⟩
theorem Aj2:∃o,R9[9]?=some o/\(∃ats,o.op=.call {callee:=.value (.func 7),args:=#[.tmp 160,.tmp 163,.tmp 168],argTypes:=ats})/\o.dst=some 169/\o.guard=none:=⟨_,rfl,⟨_,rfl⟩,rfl,rfl⟩
theorem AfY:Ope R9 10 (.move (.tmp 169)) 159:=⟨_,rfl,rfl,rfl,rfl⟩
theorem AfZ:Ope R9 11 (.extract (.tmp 159) 0) 170:=⟨_,rfl,rfl,rfl,rfl⟩
theorem Aga:Ope R9 12 (.extract (.tmp 159) 1) 171:=⟨_,rfl,rfl,rfl,rfl⟩
theorem Agb:Ope R9 13 (.alloc 26) 13:=⟨_,rfl,rfl,rfl,rfl⟩
theorem Agc:Opd R9 14 (.store 26 (.tmp 13) (.tmp 170)) none:=⟨_,rfl,rfl,rfl,rfl⟩
theorem Agd:Ope R9 15 (.assign (.tmp 171)) 14:=⟨_,rfl,rfl,rfl,rfl⟩
theorem Aj3:Ope Z0 0 (.load 26 (.tmp 13)) 173:=⟨_,rfl,rfl,rfl,rfl⟩
theorem Aj4:Ope Z0 1 (.move (.tmp 12)) 174:=⟨_,rfl,rfl,rfl,rfl⟩
theorem Aj5:Ope Z0 2 (.indexAddr 23 (.tmp 174) (.const (Iz 0))) 175:=⟨_,rfl,rfl,rfl,rfl⟩
theorem Aj6:Ope Z0 3 (.load 9 (.tmp 175)) 176:=⟨_,rfl,rfl,rfl,rfl⟩
theorem Aj7:∃o,Z0[4]?=some o/\(∃ats,o.op=.call {callee:=.value (.func 11),args:=#[.tmp 173,.tmp 176],argTypes:=ats})/\o.dst=some 177/\o.guard=none:=⟨_,rfl,⟨_,rfl⟩,rfl,rfl⟩
theorem Aj8:Ope Z0 5 (.move (.tmp 177)) 172:=⟨_,rfl,rfl,rfl,rfl⟩
theorem Aj9:Ope Z0 6 (.extract (.tmp 172) 0) 178:=⟨_,rfl,rfl,rfl,rfl⟩
theorem AjA:Ope Z0 7 (.extract (.tmp 172) 1) 179:=⟨_,rfl,rfl,rfl,rfl⟩
theorem AjB:Ope Z0 8 (.alloc 26) 15:=⟨_,rfl,rfl,rfl,rfl⟩
theorem AjC:Opd Z0 9 (.store 26 (.tmp 15) (.tmp 178)) none:=⟨_,rfl,rfl,rfl,rfl⟩
theorem Age:Ope Z0 10 (.assign (.tmp 179)) 16:=⟨_,rfl,rfl,rfl,rfl⟩
theorem AjD:Ope CJ 0 (.move (.tmp 14)) 180:=⟨_,rfl,rfl,rfl,rfl⟩
theorem AjE:Ope CJ 1 (.binOp .neq 3 (.tmp 180) (.const (Iz 0)) 3) 181:=⟨_,rfl,rfl,rfl,rfl⟩
theorem WQ:Ope CJ 2 (.move (.tmp 181)) 182:=⟨_,rfl,rfl,rfl,rfl⟩
theorem AjF:∃o,CJ[3]?=some o/\(o.op=.move (.tmp 16))/\o.dst=some 183/\o.guard=some (2,false):=⟨_,rfl,rfl,rfl,rfl⟩
theorem AjG:∃o,CJ[4]?=some o/\(o.op=.binOp .neq 3 (.tmp 183) (.const (Iz 0)) 3)/\o.dst=some 184/\o.guard=some (2,false):=⟨_,rfl,rfl,rfl,rfl⟩
theorem AjH:Ope CJ 5 (.pick (.tmp 182) (.const (.bool true)) (.tmp 184)) 185:=⟨_,rfl,rfl,rfl,rfl⟩
theorem QK:Ope CJ 6 (.move (.tmp 185)) 186:=⟨_,rfl,rfl,rfl,rfl⟩
theorem AjI:∃o,CJ[7]?=some o/\(o.op=.load 26 (.tmp 13))/\o.dst=some 187/\o.guard=some (6,false):=⟨_,rfl,rfl,rfl,rfl⟩
theorem AjJ:∃o,CJ[8]?=some o/\(∃ats,o.op=.call {callee:=.value (.func 15),args:=#[.tmp 187],argTypes:=ats})/\o.dst=some 188/\o.guard=some (6,false):=⟨_,rfl,⟨_,rfl⟩,rfl,rfl⟩
theorem AjK:∃o,CJ[9]?=some o/\(∃ty,o.op=.unOp .not ty (.tmp 188))/\o.dst=some 189/\o.guard=some (6,false):=⟨_,rfl,⟨_,rfl⟩,rfl,rfl⟩
theorem Agf:Ope CJ 10 (.pick (.tmp 186) (.const (.bool true)) (.tmp 189)) 190:=⟨_,rfl,rfl,rfl,rfl⟩
theorem AjL:Ope NL 0 (.load 26 (.tmp 15)) 191:=⟨_,rfl,rfl,rfl,rfl⟩
theorem AjM:Opd NL 1 (.store 26 (.tmp 3) (.tmp 191)) none:=⟨_,rfl,rfl,rfl,rfl⟩
theorem AjN:Ope Gc 0 (.fieldAddr 26 (.tmp 3) 1) 192:=⟨_,rfl,rfl,rfl,rfl⟩
theorem AjO:Ope Gc 1 (.load 24 (.tmp 192)) 193:=⟨_,rfl,rfl,rfl,rfl⟩
theorem AjP:Ope Gc 2 (.call {callee:=.builtin .len,args:=#[.tmp 193],argTypes:=#[24]}) 194:=⟨_,rfl,rfl,rfl,rfl⟩
theorem AjQ:Ope Gc 3 (.binOp .eql 3 (.tmp 194) (.const (Iz 0)) 3) 195:=⟨_,rfl,rfl,rfl,rfl⟩
theorem AjR:Ope Gc 4 (.assign (.tmp 195)) 2:=⟨_,rfl,rfl,rfl,rfl⟩
theorem Agg:WN.size=1:=rfl
theorem Agh:ND.size=3:=rfl
theorem Agi:WO.size=1:=rfl
theorem Agj:FT.size=8:=rfl
theorem Agk:WP.size=1:=rfl
theorem Agl:Lw.size=4:=rfl
theorem Agm:Lx.size=3:=rfl
theorem Agn:Iw.size=6:=rfl
theorem Ago:NE.size=3:=rfl
theorem Agp:NF.size=3:=rfl
theorem Ad4:SN.size=1:=rfl
theorem Ad5:SO.size=1:=rfl
theorem Ad6:NG.size=2:=rfl
theorem Ad7:Dg.size=9:=rfl
theorem Ad8:Dh.size=9:=rfl
theorem Ad9:NH.size=2:=rfl
theorem AdA:Co.size=11:=rfl
theorem AdB:Cp.size=11:=rfl
theorem AdC:NI.size=2:=rfl
theorem AdD:Cq.size=11:=rfl
theorem AdE:Cr.size=11:=rfl
theorem AdF:NJ.size=2:=rfl
theorem AdG:Cs.size=11:=rfl
theorem AdH:Ct.size=11:=rfl
theorem AdI:P9.size=33:=rfl
theorem AdJ:KO.size=2:=rfl
theorem AdK:HJ.size=4:=rfl
theorem Ve:NK.size=2:=rfl
theorem AdL:KP.size=3:=rfl
theorem AdM:KQ.size=3:=rfl
theorem AdN:KR.size=3:=rfl
theorem Vf:R9.size=16:=rfl
theorem Vg:Z0.size=11:=rfl
theorem AdO:CJ.size=11:=rfl
theorem AdP:NL.size=2:=rfl
theorem AdQ:Gc.size=5:=rfl
end Go.Proofs.YtcgkgmmclfeohaaGreatDoor
namespace Go.Proofs.YtcgkgmmclfeohaaGreatDoor
open Go.Proofs.Tryz
open Go.RowKit
theorem SR{nd has tg:List BA}(hn:AM nd)(h1:J3 has nd)(h2:J3 tg nd):nd.filter (D7 (has++tg))=Y8 has tg:=by
 obtain⟨bm,bp⟩:=YU tg has;refine AbS (JM _ _ ((QH hn).sublist (List.Sublist.map _ List.filter_sublist)) (bp (QH h1.2)) λx=>?_);refine Iff.trans ?_ (bm x).symm;simp only[AH,List.mem_map,List.mem_filter,S0,C9];constructor
 ·rintro⟨s,⟨-,hs|hs⟩,e⟩
  ·exact .inl ⟨s,hs,e⟩
  ·exact .inr ⟨s,hs,e⟩
 ·rintro (⟨s,hs,e⟩|⟨s,hs,e⟩)
  ·exact⟨s,⟨GO h1.1 hs,.inl hs⟩,e⟩
  ·exact⟨s,⟨GO h2.1 hs,.inr hs⟩,e⟩
def Ey(b:Bk)(nm s:BA):Prop:=Ei b.bs s≠⟨#[]⟩/\Ei b.bs s≠nm
theorem Zr{s:BA}(h:U0 s=true):s≠⟨#[]⟩:=λe=>by subst e;revert h;decide
theorem Zs{b:Bk}{nm:BA}(hm:D7 (I3 b.bs) nm=true):∃hpl:F3 b nm<b.bs.length,(b.bs[F3 b nm]).nm=nm:=by
 obtain⟨hi,a0⟩:=BI hm;obtain⟨k,hk,a2,a1⟩:=IM (l:=I3 b.bs) (s:=nm) (by omega);obtain rfl:F3 b nm=k:=by omega
 exact⟨a0,by rw[← CE b.bs _ a0];exact a1⟩
theorem PZ{b:Bk}{nm s:BA}(hok:I8 b)(hm:D7 (I3 b.bs) nm=true):Ey b nm s↔∃(i:Nat)(x:Ba),i≠F3 b nm/\b.bs[i]?=some x/\D7 x.has s=true:=by
 obtain⟨a0,a1⟩:=Zs hm;constructor
 ·rintro⟨h1,h2⟩;cases hf:b.bs.find? (λx=>D7 x.has s) with
  | none=>exact absurd (by rw[Ei,hf];rfl) h1
  | some x =>
   obtain⟨hx,k,hk,e,-⟩:=List.find?_eq_some_iff_getElem.1 hf;refine⟨k,x,λhp=>h2 ?_,by rw[A0 hk,e],hx⟩;rw[Ei,hf];subst hp;rw[← e];exact a1
 ·rintro⟨i,x,hip,hx,hs⟩;obtain⟨hi,rfl⟩:=A2.1 hx
  have hw:Ei b.bs s=(b.bs[i]).nm:=Ur hi (λj y hj hy=>by
   cases hq:D7 y.has s
   ·rfl
   ·have:=hok.2.2.2.2.2 i j _ y hj (by omega) (A0 hi) hy;rw[S9] at this;exact absurd ((S0 _ _).1 hq) (this s ((S0 _ _).1 hs))) hs
  rw[Ey,hw];refine⟨Zr ?_,λe=>hip ?_⟩
  ·exact hok.2.2.1 i _ (by rw[N7];exact hi) (by rw[A0 (by rw[N7];exact hi),CE _ _ hi])
  ·refine IL hok.2.2.2.1 (a:=nm) ?_ ?_
   ·rw[A0 (by rw[N7];exact hi),CE _ _ hi,e]
   ·rw[A0 (by rw[N7];exact a0),CE _ _ a0,a1]
theorem Zt{b:Bk}{nm:BA}{tg:List BA}(hok:I8 b)(hm:D7 (I3 b.bs) nm=true):Z8 b.bs (F3 b nm:Int) tg↔∃s∈tg,Ey b nm s:=by
 constructor
 ·rintro⟨i,x,hi,hx,hs⟩;obtain⟨s,h1,h2⟩:=(Gs _ _).1 hs;exact⟨s,h2,(PZ hok hm).2 ⟨i,x,by omega,hx,(S0 _ _).2 h1⟩⟩
 ·rintro⟨s,hs,ho⟩;obtain⟨i,x,hi,hx,h1⟩:=(PZ hok hm).1 ho;exact⟨i,x,by omega,hx,(Gs _ _).2 ⟨s,(S0 _ _).1 h1,hs⟩⟩
def O4(b:Bk):Prop:=∃ss,Y3 b ss true
theorem DM{b:Bk}{ss:List BA}{ok:Bool}(h:Y3 b ss ok):ok=pB (O4 b):=by
 cases ok with
 | true=>exact (Au ⟨ss,h⟩).symm
 | false=>exact (AL λ⟨ss',h'⟩=>by have:=(h.uniq h').2;cases this).symm
noncomputable def Bq(b:Bk)(nm:BA)(tg:List BA):Int :=
 if O8 b nm tg≠0 then O8 b nm tg else if pB (Z8 b.bs (F3 b nm:Int) tg)=true then 5 else if (pB (O4 b) && !pB (O4 (X8 b (F3 b nm) (P7 tg))))=true then 6 else 0
theorem Ly{b:Bk}{nm:BA}{tg:List BA}(h:O8 b nm tg≠0):Bq b nm tg=O8 b nm tg:=by simp[Bq,h]
theorem KS{b:Bk}{nm:BA}{tg:List BA}(h:O8 b nm tg=0)(ht:Z8 b.bs (F3 b nm:Int) tg):Bq b nm tg=5:=by simp[Bq,h,Au ht]
theorem Ge{b:Bk}{nm:BA}{tg:List BA}(h:O8 b nm tg=0)(ht:¬Z8 b.bs (F3 b nm:Int) tg):Bq b nm tg=if (pB (O4 b) && !pB (O4 (X8 b (F3 b nm) (P7 tg))))=true then 6 else 0:=by simp[Bq,h,AL ht]
theorem Ix{b:Bk}{nm:BA}{tg:List BA}(h:Bq b nm tg=0):O8 b nm tg=0:=by
 by_cases h0:O8 b nm tg=0
 ·exact h0
 ·rw[Ly h0] at h;exact absurd h h0
theorem Agq{b b':Bk}{nm:BA}{tg:List BA}{cd:Int}(h:CU b nm tg cd b'):cd=L0 b (Bq b nm tg)/\b'=K7 b (Bq b nm tg) (X8 b (F3 b nm) (P7 tg)):=by
 rcases h with⟨h1,rfl,hb⟩|⟨h1,h2,rfl,hb⟩|⟨h1,h2,h3,rfl,hb⟩|⟨h1,h2,h3,h4,rfl,hb⟩|⟨h1,h2,h3,h4,⟨ss,h5⟩,⟨st,h6⟩,rfl,hb⟩|⟨h1,h2,h3,h4,h5,rfl,hb⟩
 ·exact⟨by simp[L0,h1],by rw[hb];simp[K7,h1]⟩
 ·have e:Bq b nm tg=3:=by rw[Ly (by rw[Lg h2];omega),Lg h2]
  exact⟨by simp[L0,h1,e],by rw[hb];simp[K7,h1,e]⟩
 ·have e:Bq b nm tg=2:=by rw[Ly (by rw[Nd h2 h3];omega),Nd h2 h3]
  exact⟨by simp[L0,h1,e],by rw[hb];simp[K7,h1,e]⟩
 ·have e:=KS (IX h2 h3) h4;exact⟨by simp[L0,h1,e],by rw[hb];simp[K7,h1,e]⟩
 ·have e:=Ge (IX h2 h3) h4;rw[← DM h5,← DM h6] at e;simp at e;exact⟨by simp[L0,h1,e],by rw[hb];simp[K7,h1,e]⟩
 ·have e:Bq b nm tg=0:=by
   rw[Ge (IX h2 h3) h4];rcases h5 with⟨ss,h5⟩|⟨ss,h5⟩
   ·rw[← DM h5];simp
   ·rw[← DM h5];simp
  exact⟨by simp[L0,h1,e],by rw[hb];simp[K7,h1,e]⟩
theorem Ack{W w0 w1:World}{q r i j k:Nat}{x0 x1 x2:Value}(hq:q<W.heap.size)(hr:r<W.heap.size)(h:Up W w0/\At w0 q i x0/\At w0 q j x1/\At w0 r k x2)(hB:Up w0 w1):Up W w1/\At w1 q i x0/\At w1 q j x1/\At w1 r k x2:=by
 have lq:q<w0.heap.size:=A1 hq h.1.size;have lr:r<w0.heap.size:=A1 hr h.1.size;exact⟨D4 h.1 hB,(hB.cell (p:=⟨q,i,none⟩) lq).trans h.2.1,(hB.cell (p:=⟨q,j,none⟩) lq).trans h.2.2.1,(hB.cell (p:=⟨r,k,none⟩) lr).trans h.2.2.2⟩
theorem SS(f g:Value×List BA):AQ [f,g] [f,g].length=f.2++g.2:=by simp[AQ]
theorem WR(ss has tg:List BA)(v hv tv:Value)(sb:Nat)(w:World)(h:Ls w v ss)(hs:ss.length<=100)(hc:At w sb 0 hv)(hc2:At w sb 1 tv)(hl:Ls w hv has)(hl2:Ls w tv tg)(hsb:sb<w.heap.size)(hn:has.length+tg.length<=900):
  Calls prog 82 #[v,Sz sb 2 2] w λe w'=>(∃u,e=.returned u/\G3 w' w.heap.size u (ss.filter (D7 (has++tg))))/\Up w w':=by
 have:=PA ss v [(hv,has),(tv,tg)] sb w h hs (λi f hf=>by
  match i,hf with
  | 0,hf =>
   obtain rfl:(hv,has)=f:=by simpa using hf
   exact⟨hc,hl⟩
  | 1,hf =>
   obtain rfl:(tv,tg)=f:=by simpa using hf
   exact⟨hc2,hl2⟩) hsb (by simp) (by rw[SS,A9];exact hn)
 rw[SS] at this;exact this
theorem LV(b:Bk)(v:Value)(nm:BA)(lv:Value)(ls:List BA)(w:World)(h:K6 w v b)(hl:Ls w lv ls)(hls:ls.length<=100)(hok:I8 b)(hpt:J3 ls (N8 b nm))(hm:D7 (I3 b.bs) nm=true):
  Calls prog 61 #[v,.iface 60 (.agg #[Tz nm,lv])] w λe w'=>(∃u,e=.returned u/\K8 w' w.heap.size u (X8 b (F3 b nm) (P7 ls)))/\Up w w':=by
 have f1:=UB;have f2:=Aht;have f3:=Ahu;obtain⟨a1,c1,a2,c2,rfl,-,-⟩:=h.parts;obtain⟨la,lc,rfl,-,k3,-⟩:=id hl;have e9:=h.szb;obtain⟨s1,s2,s3⟩:=Ai hok;obtain⟨W1,f8,kA,kR,e8,k4⟩:=cbE2 w [Vz a1 (b).tg.length c1,Vz a2 (b).bs.length c2] 26 [Nz,Nz] 26;go_in;go_upto_region 1 with fail;try rw[f8]
 clear f8;have hk:=h.up e8;obtain⟨e0,e1⟩:=kA.c2';go_wp2_with fail;refine (FY b _ _ hk (by omega) (by omega) (λy hy=>by have:=s3 y hy;omega)).mono ?_;rintro e w2 ⟨⟨a3,c3,a4,c4,ps,rfl,x2,x3,hF⟩,c6⟩;have k6:=c6.size;have c9:∀g',(Vz a4 b.bs.length c4).ownBlock=some g'->g'<w2.heap.size:=λg' hg'=>(x2.1.lt g' hg').2;replace hF:=hF.avoid (A3 _);have Hnm:Hid (∀p∈ps,p.1.nm.size<=maxLen):=λp hp=>(x2.2 p hp).2.2;have g5:=kA.up c6 (by omega);have g6:=kR.up c6 (by omega);have g7:=hk.up c6;have g8:=D4 e8 c6;clear e0 e1 kA kR hk e8 c6;go_upto_region 2 with fail;obtain⟨W3,f9,kX,b3,k5⟩:=cbE1 w2 [(Vz a3 b.tg.length c3),Vz a4 b.bs.length c4] 26;try rw[f9]
 clear f9;have g9:=g5.up b3 (by omega);have h0:=g6.up b3 (by omega);have h2:=g7.up b3;have h3:=D4 g8 b3;have h4:=x2.up b3;have h5:=hF.up b3;clear g5 g6 g7 g8 x2 hF b3;obtain⟨e0,e1⟩:=g9.c2';have h6:Up W3 W3/\At W3 w.heap.size 0 (Vz a1 b.tg.length c1)/\At W3 w.heap.size 1 (Vz a2 b.bs.length c2):=⟨A4 _ _,e0,e1⟩;have j8:w.heap.size<W3.heap.size:=by omega
 clear e0 e1;go_wp2_with fail
 go_region_held (λw'=>Up W3 w'/\At w' w.heap.size 0 (Vz a1 b.tg.length c1)/\At w' w.heap.size 1 (Vz a2 b.bs.length c2)) (first|exact Lh h6|exact Il j8 (by assumption) (by assumption))
  (first
   | (go_at_call 142;refine (EM nm _).mono ?_;rintro e' w9 ⟨rfl,c7⟩)
   | (go_at_call 80;refine (Ft b _ nm _ ((h2.up (A4 _ _).drew).up c7) hok).mono ?_;rintro e' wA ⟨rfl,k2⟩))
 rename_i hHeld;have b5:=hHeld.1;clear hHeld h6 c7 k2;have k7:=b5.size;have h7:=kX.up b5 (by omega);have h8:=h0.up b5 (by omega);have h9:=D4 h3 b5;have i0:=h4.up b5;have i1:=h5.up b5;clear kX h0 g9 h3 h4 h5 h2 b5;rw[Na hok.2.2.2.1 hm];obtain⟨-,c8⟩:=BI hm;have i2:ps.length=b.bs.length:=by rw[← x3,B5]
 have a8:=i0.1;rw[i2] at a8;obtain⟨g,cp,g0⟩:=U5 a8 (by omega);obtain⟨rfl,-,rfl⟩:=Value.slice.inj g0;clear g0
 have b4:∃hv nv,ps[F3 b nm]?=some (b.bs[F3 b nm],hv,nv):=by
  have h1:(ps.map (·.1))[F3 b nm]?=some b.bs[F3 b nm]:=by rw[x3,A0 c8]
  rw[B3] at h1;obtain⟨p,hp,e⟩:=B6.1 h1;exact⟨p.2.1,p.2.2,by rw[hp,← e]⟩
 obtain⟨hv,nv,b4⟩:=b4;have Hchg:Hid (X8 b (F3 b nm) (P7 ls)=⟨b.tg,b.bs.set (F3 b nm) (P7 ls b.bs[F3 b nm])⟩):=BQ (A0 c8);have b6:=hok.2.2.2.2.1.at (k:=F3 b nm) c8 c8;rw[BL (A0 c8)] at hpt;obtain⟨s4,s5⟩:=s3 b.bs[F3 b nm] (by simp);have i3:=e9.2 b.bs[F3 b nm] (by simp);have Hflt:Hid ((b.bs[F3 b nm]).nd.filter (D7 ((b.bs[F3 b nm]).has++ls))=Y8 (b.bs[F3 b nm]).has ls):=SR b6.1.2 b6.2 hpt;have Hm3:Hid (∀(u1 u2:Value),(ps.set (F3 b nm) ((P7 ls b.bs[F3 b nm],u1,u2):Bv)).map (·.1)=b.bs.set (F3 b nm) (P7 ls b.bs[F3 b nm])):=λu1 u2=>by rw[List.map_set,x3]
 clear b6 hpt;generalize hp0:F3 b nm=p at *;have Hp0:Hid (F3 b nm=p):=hp0;clear hp0;generalize b.bs[p]=x0 at *;go_upto_region 10 with fail;obtain⟨W7,g1,g2,b9,g3⟩:=cbE1 wA [Tz nm,Vz la ls.length lc] 60;try rw[g1]
 clear g1;have Hz7:Hid (W7.heap.size=wA.heap.size+1):=g3;have f0:=h7.up b9 (by omega);have i4:=h8.up b9 (by omega);have f4:=D4 h9 b9;have i5:=i1.up b9;have k8:=c9 g rfl;have k9:=(a8.lt g rfl).1;have a5:=P0 a8 b9;have i6:=hl.up f4;have d0:=i5.front b4;have b7:G3 W7 W1.heap.size hv x0.has:=d0.own _ List.mem_cons_self;have b8:G3 W7 W1.heap.size nv x0.nd:=d0.own _ (C7 _ List.mem_cons_self);obtain⟨ah,ch,j6⟩:=b7.lst.shape;subst j6;obtain⟨an,cn,j7⟩:=b8.lst.shape;subst j7;have d4:=b7.lst.ls i3.1;have d5:=b8.lst.ls i3.2;clear h7 h8 h9 i0 i1 b9 a8 c9 h hl b7 b8 i5 g3;obtain⟨⟨y0,y1⟩,-⟩:=f0.c2;go_upto_region 11 with fail;clear y0 y1;have d1:=a5.cellAt (p*3+1) (by omega);rw[Bh _ p _ b4 1 _ rfl] at d1;have d2:=a5.cellAt (p*3+2) (by omega);rw[Bh _ p _ b4 2 _ rfl] at d2;have d3:At W7 wA.heap.size 1 (Vz la ls.length lc):=g2.1 1 _ rfl;have i7:g<W7.heap.size:=by have:=Hz7.out;omega
 have i8:wA.heap.size<W7.heap.size:=by have:=Hz7.out;omega
 have l0:w2.heap.size+1<W7.heap.size:=by have:=Hz7.out;omega
 have a6:Up W7 W7.drew/\At W7.drew g (p*3+1) (Vz ah x0.has.length ch)/\At W7.drew g (p*3+2) (Vz an x0.nd.length cn)/\At W7.drew wA.heap.size 1 (Vz la ls.length lc):=⟨(A4 _ _).drew,d1,d2,d3⟩;have i9:Below W7.drew.heap.size W7.drew (W7.alloc (Kz [Vz ah x0.has.length ch,Vz la ls.length lc] 23)).drew:=(A4 W7.drew.heap.size W7.drew).alloc (A3 _) (Kz [Vz ah x0.has.length ch,Vz la ls.length lc] 23);have e5:Up W7 (W7.alloc (Kz [Vz ah x0.has.length ch,Vz la ls.length lc] 23)).drew/\World.cell? (W7.alloc (Kz [Vz ah x0.has.length ch,Vz la ls.length lc] 23)).drew ⟨g,p*3+1,none⟩=some (Vz ah x0.has.length ch)/\World.cell? (W7.alloc (Kz [Vz ah x0.has.length ch,Vz la ls.length lc] 23)).drew ⟨g,p*3+2,none⟩=some (Vz an x0.nd.length cn)/\World.cell? (W7.alloc (Kz [Vz ah x0.has.length ch,Vz la ls.length lc] 23)).drew ⟨wA.heap.size,1,none⟩=some (Vz la ls.length lc):=Ack i7 i8 a6 i9;clear d1 d2 d3 g2;go_wp2_with fail;refine T9 15 (λw'=>Up W7 w'/\At w' g (p*3+1) (Vz ah x0.has.length ch)/\At w' g (p*3+2) (Vz an x0.nd.length cn)/\At w' wA.heap.size 1 (Vz la ls.length lc)) (by kernel_rfl) ?_;refine I2 0 rfl a6 ?_;refine I2 1 rfl a6 ?_;refine I2 2 rfl a6 ?_;refine I2 3 rfl a6 ?_;refine I2 4 rfl a6 ?_;refine I2 5 rfl a6 ?_;refine I2 6 rfl a6 ?_;refine I2 7 rfl a6 ?_;refine I2 8 rfl a6 ?_;refine I2 9 rfl a6 ?_;refine I2 10 rfl a6 ?_;refine T0 11 rfl (λK hK=>?_);go_simp;refine Y1 hK e5 ?_;clear hK K;have e6:Up W7 (W7.alloc (Kz [Vz ah x0.has.length ch,Vz la ls.length lc] 23)).drew:=e5.1;have a9:(W7.alloc (Kz [Vz ah x0.has.length ch,Vz la ls.length lc] 23)).drew.cell? ⟨W7.heap.size,0,none⟩=some (Vz ah x0.has.length ch):=(O7 W7 [Vz ah x0.has.length ch,Vz la ls.length lc] 23).1 0 _ rfl;have b0:(W7.alloc (Kz [Vz ah x0.has.length ch,Vz la ls.length lc] 23)).drew.cell? ⟨W7.heap.size,1,none⟩=some (Vz la ls.length lc):=(O7 W7 [Vz ah x0.has.length ch,Vz la ls.length lc] 23).1 1 _ rfl;have d6:=d4.up e6;have d7:=d5.up e6;have d8:=i6.up e6;have Hz8:Hid ((W7.alloc (Kz [Vz ah x0.has.length ch,Vz la ls.length lc] 23)).drew.heap.size=W7.heap.size+1):=by show _=_;simp
 generalize (W7.alloc (Kz [Vz ah x0.has.length ch,Vz la ls.length lc] 23)).drew=W8 at *;have j9:W7.heap.size<W8.heap.size:=by have:=Hz8.out;omega
 refine T0 12 rfl (λK hK=>?_);go_simp;go_wp2_with (go_at_call 82;refine (WR x0.nd x0.has ls _ _ _ W7.heap.size _ d7 (by omega) a9 b0 d6 d8 j9 (by omega)).mono ?_;rintro e w9 ⟨⟨uh,rfl,e7⟩,c7⟩)
 obtain⟨xh,yh,g4⟩:=e7.lst.shape;rw[Hflt.out] at g4 e7;subst g4;have c5:Up W7 w9/\At w9 g (p*3+1) (Vz ah x0.has.length ch)/\At w9 g (p*3+2) (Vz an x0.nd.length cn)/\At w9 wA.heap.size 1 (Vz la ls.length lc):=Ack i7 i8 e5 c7;refine Y1 hK c5 ?_;clear hK K;refine T0 13 rfl (λK hK=>?_);go_simp;refine Y1 hK c5 ?_;clear hK K;refine I2 14 rfl c5 ?_;have l1:=c7.size;have a7:=c5.1;have j0:=f0.up a7 (by omega);have j1:=i4.up a7 (by omega);have j2:=D4 f4 a7;have a0:=P0 a5 a7;have j3:=d0.up a7;have j4:=M2.new d0.tail j3.tail e7 (by omega) (by omega) (FJ (by omega));have d1:=c5.2.1;have q1:=a0.frozenAt (p*3+1);have st:=a0.stored (p*3+1) (Vz xh (Y8 x0.has ls).length yh);have b1:=st.1;rw[Mu _ p _ (P7 ls x0) (Vz xh (Y8 x0.has ls).length yh) b4 rfl] at b1;have d9:=j4.row a0 st.2;have f5:=j0.kept st.2 (by simp;omega);have e2:=j1.kept st.2 (by simp;omega);have f6:Up w (w9.setCell ⟨g,p*3+1,none⟩ (Vz xh (Y8 x0.has ls).length yh)):=O6 j2 a0 st.2 (by omega);clear a6 e5 f0 i4 f4 a5 d0 d4 d5 i9 e6 a9 b0 d6 d7 d8 i6 e7 c7 a7 j0 j1 j2 a0 j3 j4 st;refine T0 15 rfl (λK hK=>?_);go_simp;refine GU hK ?_;clear hK K;refine Y2 (by kernel_rfl) ?_ _;clear d1 q1 c5;have Hlf:Hid (P7 ls x0=⟨x0.nm,Y8 x0.has ls,x0.nd⟩):=rfl;generalize Y8 x0.has ls=fl at *;generalize w9.setCell ⟨g,p*3+1,none⟩ (Vz xh fl.length yh)=W10 at *;obtain⟨⟨y0,y1⟩,-⟩:=f5.c2;obtain⟨⟨r0,r1⟩,q0,q1⟩:=e2.c2;have b2:w.heap.size+1<W1.heap.size:=by omega
 have f7:M2 W10 W1.heap.size (some w2.heap.size) (((Vz a3 b.tg.length c3),b.tg)::V6 (ps.set p ((P7 ls x0,Vz xh fl.length yh,Vz an x0.nd.length cn):Bv))):=by
  refine M2.back ?_ (by omega);rw[Hlf.out];exact d9
 clear d9;go_wp2_with fail;refine CF results61 underlying26 rfl M4 e2 rfl ?_;have e3:=J0 (J0 b1 (E6 (rb:=w.heap.size+1) (off:=0) (F4 _ _) (Vz a3 b.tg.length c3)) b2) (E6 (rb:=w.heap.size+1) (off:=1) (F4 _ _) (Sz g b.bs.length c4)) b2;have j5:=(f7.free.setLow b2 0 (Vz a3 b.tg.length c3)).setLow b2 1 (Sz g b.bs.length c4)
 have k0:=j5.bsW (fs:=[((Vz a3 b.tg.length c3),b.tg)]) (v:=Sz g b.bs.length c4) (by rw[List.length_set,i2];exact e3) (λq hq=>by
  rcases List.mem_or_eq_of_mem_set hq with h|h
  ·exact Hnm.out q h
  ·subst h;exact Hnm.out ((x0,Vz ah x0.has.length ch,Vz an x0.nd.length cn):Bv) (A6 b4))
 have k1:=Hm3.out (Vz xh fl.length yh) (Vz an x0.nd.length cn);have e4:=Hchg.out;rw[← Hp0.out] at e4;rw[e4];refine⟨⟨_,rfl,a3,c3,some ⟨g,0,none⟩,c4,_,?_,?_,by rw[Hp0.out];exact k1,j5.low (by omega)⟩,I4 f6 (Nat.le_succ _) _ _⟩
 ·show Value.agg #[_,_]=Value.agg #[_,Vz _ (b.bs.set _ _).length _]
  rw[List.length_set]
 ·show BM _ _ (Vz _ (b.bs.set _ _).length _) _
  rw[List.length_set];exact k0.low (by omega)
theorem ST{s:BA}(h:s.toList=[]):s=⟨#[]⟩:=GM (by rw[h,Go.ByteArray.toList_eq])
theorem Vh{b:Bk}{nm:BA}{tg:List BA}(h:Ah b)(hn:∀s∈tg,s.size<=maxLen):Ah (X8 b (F3 b nm) (P7 tg)):=by
 cases hx:b.bs[F3 b nm]? with
 | none=>simp only[X8,hx];exact h
 | some x =>
  rw[BQ hx];refine⟨h.1,λy hy=>?_⟩;rcases List.mem_or_eq_of_mem_set hy with k|k
  ·exact h.2 y k
  ·subst k;have hm:=A6 hx;refine⟨λs hs=>?_,(h.2 x hm).2⟩;rcases EV x.has tg s hs with k|k
   ·exact (h.2 x hm).1 s k
   ·exact hn s k
end Go.Proofs.YtcgkgmmclfeohaaGreatDoor
namespace Go.Proofs.YtcgkgmmclfeohaaGreatDoor
open Go.Proofs.Tryz
theorem QL{b:Bk}(h:I8 b){k:Nat}{x:Ba}(hx:b.bs[k]?=some x):BK (I3 b.bs) x.nm=(k:Int):=by
 obtain⟨hk,rfl⟩:=A2.1 hx;have hl:k<(I3 b.bs).length:=by rw[N7];exact hk
 refine Gu hl ?_ (by rw[CE _ _ hk];simp);rw[Av];intro hm;obtain⟨j,hj,a0⟩:=List.mem_take_iff_getElem.1 hm;have a1:j<(I3 b.bs).length:=by omega
 have h1:(I3 b.bs)[j]?=some (b.bs[k]).nm:=by rw[A0 a1,← a0]
 have h2:(I3 b.bs)[k]?=some (b.bs[k]).nm:=by rw[A0 hl,CE _ _ hk]
 have:=IL h.2.2.2.1 h1 h2;omega
theorem Abi{bs:List Ba}{k:Nat}{g g':List BA}(h:ES bs k g)(hs:∀s,D7 g s=true->D7 g' s=true):ES bs k g':=λi x y hi hne hx hy hm=>by
 refine h i x y hi hne hx hy ?_;cases hc:D7 g x.nm
 ·rfl
 ·rw[hs _ hc] at hm;cases hm
theorem Vi{l:List BA}(hd:∀(i:Nat)(s:BA),l[i]?=some s->D7 (l.take i) s=false):∀(i j:Nat)(a:BA),l[i]?=some a->l[j]?=some a->i=j:=by
 have a0:∀(i j:Nat)(a:BA),l[i]?=some a->l[j]?=some a->¬i<j:=λi j a hi hj hlt=>by
  have:=hd j a hj;rw[Av] at this;obtain⟨a1,rfl⟩:=A2.1 hi;exact this (List.mem_take_iff_getElem.2 ⟨i,by omega,rfl⟩)
 intro i j a hi hj;have h1:=a0 i j a hi hj;have h2:=a0 j i a hj hi;omega
theorem TW{b:Bk}(hok:I8 b){n:Nat}{ss:List BA}(h:AD b.bs n ss):FW b.bs ss ss.length:=by
 induction h with
 | none=>exact λi s hi=>by simp at hi
 | @more n gone k x h1 h2 h3 ih =>
  have a0:Good b.bs gone k:=by
   rcases h2 with⟨h0,_⟩|⟨j,hj,_,hg,_⟩
   ·omega
   ·obtain rfl:k=j:=by omega
    exact hg
  obtain⟨y,hy,hm,hc⟩:=a0;rw[h3] at hy;obtain rfl:=A5 hy;have a1:=QL hok h3;intro i s hi hs;by_cases e:i<gone.length
  ·rw[List.getElem?_append_left e] at hs;rw[List.take_append_of_le_length (by omega)];exact ih i s e hs
  ·have hl:i=gone.length:=by simp at hi;omega
   subst hl;obtain rfl:x.nm=s:=by simpa using hs
   rw[List.take_left,a1];exact⟨by omega,hm,hc⟩
theorem Zu{b:Bk}(hok:I8 b){ss:List BA}(h:AD b.bs b.bs.length ss):Ko b ss:=⟨hok,h.length,TW hok h⟩
theorem Qa{b:Bk}{order gone:List BA}{n:Nat}(hf:Ko b order)(hg:AD b.bs n gone)(hn:n<b.bs.length):∃k,k<b.bs.length/\Good b.bs gone k:=by
 obtain⟨b0,hl,a3⟩:=hf;have hd:∀(i:Nat)(s:BA),order[i]?=some s->D7 (order.take i) s=false:=λi s hs=>(a3 i s (A2.1 hs).1 hs).2.1
 have a8:∃i:Nat,∃s,order[i]?=some s/\D7 gone s=false:=by
  refine Classical.byContradiction λhno=>?_
  have a1:∀s∈order,s∈gone:=λs hs=>by
   obtain⟨i,hi,rfl⟩:=B7 hs;refine (S0 _ _).1 ?_;cases hc:D7 gone order[i]
   ·exact absurd ⟨i,order[i],A0 hi,hc⟩ hno
   ·rfl
  have:=Fp order gone (Vi hd) a1;have:=hg.length;omega
 obtain⟨i,hi⟩:=a8
 obtain⟨j,⟨s,hs,a5⟩,a0⟩:∃j:Nat,(∃s,order[j]?=some s/\D7 gone s=false)/\∀m:Nat,m<j->¬∃s,order[m]?=some s/\D7 gone s=false:=by
  have:∀n:Nat,∀i:Nat,i<n->(∃s,order[i]?=some s/\D7 gone s=false)->∃j:Nat,(∃s,order[j]?=some s/\D7 gone s=false)/\∀m:Nat,m<j->¬∃s,order[m]?=some s/\D7 gone s=false:=by
   intro n;induction n with
   | zero=>intro i hi;omega
   | succ n ih =>
    intro i hi hp;by_cases hq:∃m,m<i/\∃s,order[m]?=some s/\D7 gone s=false
    ·obtain⟨m,hm,hs⟩:=hq;exact ih m (by omega) hs
    ·exact⟨i,hp,λm hm hs=>hq ⟨m,hm,hs⟩⟩
  exact this (i+1) i (by omega) hi
 have hj:=(A2.1 hs).1;obtain⟨h0,-,hc⟩:=a3 j s hj hs;obtain⟨k,hk,a6,a4⟩:=IM h0;rw[hk] at hc;have a2:k<b.bs.length:=by rwa [N7] at a6
 refine⟨k,a2,b.bs[k],A0 a2,?_,Abi hc λt ht=>?_⟩
 ·rw[CE _ _ a2] at a4;rw[a4];exact a5
 ·obtain⟨m,hm,a7⟩:=List.mem_take_iff_getElem.1 ((S0 _ _).1 ht);have a9:=a0 m (by omega);cases hq:D7 gone t
  ·exact absurd ⟨t,by rw[A0 (by omega),a7],hq⟩ a9
  ·rfl
theorem WT{bs:List Ba}{gone:List BA}{k:Nat}(hk:k<bs.length)(h:Good bs gone k):∃(j:Nat)(x:Ba),Ag bs gone (j:Int)/\bs[j]?=some x:=by
 have:∀n,∀k,k<n->k<bs.length->Good bs gone k->∃(j:Nat)(x:Ba),Ag bs gone (j:Int)/\bs[j]?=some x:=by
  intro n;induction n with
  | zero=>intro k hk;omega
  | succ n ih =>
   intro k hk hkl hg;by_cases hq:∃m,m<k/\Good bs gone m
   ·obtain⟨m,hm,a0⟩:=hq;exact ih m (by omega) (by omega) a0
   ·exact⟨k,bs[k],.inr ⟨k,rfl,hkl,hg,λm hm a0=>hq ⟨m,hm,a0⟩⟩,A0 hkl⟩
 exact this (k+1) k (by omega) hk h
theorem Zv{b:Bk}{order:List BA}(hf:Ko b order):∃ss,AD b.bs b.bs.length ss:=by
 have:∀n,n<=b.bs.length->∃ss,AD b.bs n ss:=by
  intro n;induction n with
  | zero=>exact λ_=>⟨[],.none⟩
  | succ n ih =>
   intro hn;obtain⟨g,hg⟩:=ih (by omega);obtain⟨k,hk,a0⟩:=Qa hf hg (by omega);obtain⟨j,x,hj,hx⟩:=WT hk a0;exact⟨_,.more hg hj hx⟩
 exact this _ (A3 _)
theorem WU{b:Bk}{ss:List BA}(h:Y3 b ss true):Ko b ss:=by
 rcases h with⟨-,hok,hg⟩|⟨h0,_⟩
 ·exact Zu hok hg
 ·cases h0
end Go.Proofs.YtcgkgmmclfeohaaGreatDoor
namespace Go.Proofs.YtcgkgmmclfeohaaGreatDoor
open Go.Proofs.Tryz
open Go.Conc Go.ConcN Go.RowKit Go.Conc.Lib Go.ConcR.Gen Go.ConcN.Gen
section
variable {X:Nat->Prop} {Shun:Loc->Prop} {W:World} {fv:Value}
theorem WV(hX:∀l,Shun l->∃a,l=.cell a/\X a.block){p:L6}(hL:p.Low=W.heap.size+3)(hWg:p.Wg=W.heap.size+2)(hS:p.S=W.heap.size+1)(hSh:p.Shun=Shun){a:Addr}(hlt:a.block<W.heap.size+1)(hx:¬X a.block):Fy p a:=by
 refine⟨by omega,λh=>?_⟩;rcases h with h|⟨b,e,hb⟩|⟨b,e,hb⟩
 ·rw[hSh] at h;obtain⟨b,e,hb⟩:=hX _ h;cases e;exact hx hb
 ·cases e;omega
 ·cases e;omega
theorem FF{a:Addr}{v:Value}(hc:W.cell? a=some v):(VC W fv).cell? a=some v:=by
 have a0:=World.block_lt_of_cell? W a hc;unfold VC VB VA;rw[World.cell?_alloc_lt _ _ _ (by rw[World.size_alloc,World.size_alloc];omega),World.cell?_alloc_lt _ _ _ (by rw[World.size_alloc];omega),World.cell?_alloc_lt _ _ _ a0,hc]
theorem AjS:(VC W fv).cell? ⟨W.heap.size,0,none⟩=some fv:=by
 unfold VC VB;rw[World.cell?_alloc_lt _ _ _ (show W.heap.size<_ by rw[World.size_alloc,Lr];omega),World.cell?_alloc_lt _ _ _ (show W.heap.size<_ by rw[Lr];omega)];unfold VA;have:=heap_alloc_new W (Kz [fv] 78);unfold World.cell?;simp only[];rw[this];rfl
end
end Go.Proofs.YtcgkgmmclfeohaaGreatDoor
namespace Go.Proofs.YtcgkgmmclfeohaaGreatDoor
open Go.Proofs.Tryz
open Go.RowKit
theorem OV(T:Array Value)(h:T.size=13):∃v0 v1 v2 v3 v4 v5 v6 v7 v8 v9 v10 v11 v12:Value,T=#[v0,v1,v2,v3,v4,v5,v6,v7,v8,v9,v10,v11,v12]:=by
 obtain⟨l⟩:=T;simp only[List.size_toArray] at h;match l,h with
 | [v0,v1,v2,v3,v4,v5,v6,v7,v8,v9,v10,v11,v12],_=>exact⟨_,_,_,_,_,_,_,_,_,_,_,_,_,rfl⟩
noncomputable def BU:Code:=Tryz.f17.body.getD .skip
noncomputable def KT:Code:=match BU with | .seq r _=>r|_=>.skip
noncomputable def Vj:Code:=match BU with | .seq _ (.seq (.seq r _) _)=>r|_=>.skip
noncomputable def NP:Code:=match BU with | .seq _ (.seq (.seq _ r) _)=>r|_=>.skip
noncomputable def Vk:Code:=match BU with | .seq _ (.seq r _)=>r|_=>.skip
noncomputable def Zw:Code:=match BU with | .seq _ (.seq _ r)=>r|_=>.skip
noncomputable def Vl:Code:=match BU with | .seq _ (.seq _ (.seq r _))=>r|_=>.skip
noncomputable def SU:Code:=match BU with | .seq _ (.seq _ (.seq _ r))=>r|_=>.skip
def Vm(bv:Value):Array Value:=#[bv,undef,undef,undef,undef,undef,undef,undef,undef,undef,undef,undef,undef]
def AtM(b:Bk)(R:World->Prop)(a:Act)(u:World):Prop :=
 ∃T tb,a=⟨T,[]⟩/\T.size=13/\T[3]?=some (.pointer (some ⟨tb,0,none⟩))/\Bo u tb b.tg (Z4 b.bs b.bs.length)/\R u
theorem Abj(b:Bk)(bv:Value)(w:World)(h:K6 w bv b)(hok:I8 b)(hbk:J6 b=true){R:World->Prop}(HR:Hid (∀u,Up w u->R u)):
  BG prog [KT,Vk,Vl] (λe a u=>e=.normal/\AtM b R a u) ⟨Vm bv,[]⟩ w:=by
 have Hok:Hid (I8 b):=hok;clear hok;obtain⟨a1,c1,a2,c2,rfl,h1,h2⟩:=h.parts;clear h1 h2;simp only[KT,Vk,Vl,Vm,BU,Tryz.f17,Option.getD_some];obtain⟨W1,a3,kA,a4,a6⟩:∃W1,w.alloc (Kz [Vz a1 (b).tg.length c1,Vz a2 (b).bs.length c2] 26)=W1/\CB W1 w.heap.size [Vz a1 b.tg.length c1,Vz a2 b.bs.length c2]/\Up w W1/\W1.heap.size=w.heap.size+1:=⟨_,rfl,ML w _ _⟩;clear a6;apply Al;intro K hK;(go_wp2_with fail);(try clear hK);(try clear K);(try rw[a3]);clear a3;have hk:=h.up a4;obtain⟨e0,e1⟩:=kA.c2';have a5:=kA.2.2;clear h;apply Al;intro K hK
 go_wp2_with fail;refine (Cf b _ _ hk).mono ?_;rintro e w2 ⟨rfl,a0⟩;have f0:=(a0.cell (p:=⟨w.heap.size,0,none⟩) a5).trans e0;have f1:=(a0.cell (p:=⟨w.heap.size,1,none⟩) a5).trans e1;have a7:=hk.up a0;go_wp2_with fail;try clear hK
 try clear K
 apply Al;intro K hK
 go_wp2_with fail;refine (LS b _ _ a7 Hok.out).mono ?_;rintro e w5 ⟨⟨tb,rfl,hT,a9⟩,a8⟩;clear f0 f1 e0 e1;go_wp2_with fail;exact⟨rfl,_,tb,rfl,rfl,rfl,hT,HR.out _ (D4 a4 (D4 a0 a8))⟩
theorem Abk(b:Bk)(bv:Value)(w:World)(h:K6 w bv b)(hbk:J6 b=false){R:World->Prop}(HR:Hid (∀u,Up w u->R u)):
  BG prog [KT,Vj] (λe a u=>e=.normal/\(∃T,a=⟨T,[]⟩/\T.size=13/\T[6]?=some (.bool true))/\R u) ⟨Vm bv,[]⟩ w:=by
 obtain⟨a1,c1,a2,c2,rfl,h1,h2⟩:=h.parts;clear h1 h2;simp only[KT,Vj,Vm,BU,Tryz.f17,Option.getD_some];obtain⟨W1,a0,kA,a3,a4⟩:∃W1,w.alloc (Kz [Vz a1 (b).tg.length c1,Vz a2 (b).bs.length c2] 26)=W1/\CB W1 w.heap.size [Vz a1 b.tg.length c1,Vz a2 b.bs.length c2]/\Up w W1/\W1.heap.size=w.heap.size+1:=⟨_,rfl,ML w _ _⟩;clear a4;apply Al;intro K hK;(go_wp2_with fail);(try clear hK);(try clear K);(try rw[a0]);clear a0;have hk:=h.up a3;obtain⟨e0,e1⟩:=kA.c2';have a6:=kA.2.2;clear h;apply Al;intro K hK
 go_wp2_with fail;refine (Cf b _ _ hk).mono ?_;rintro e w2 ⟨rfl,a5⟩;go_wp2_with fail;exact⟨rfl,⟨_,rfl,rfl,rfl⟩,HR.out _ (D4 a3 a5)⟩
end Go.Proofs.YtcgkgmmclfeohaaGreatDoor
namespace Go.Proofs.YtcgkgmmclfeohaaGreatDoor
open Go.Proofs.Tryz
open Go.Conc Go.RowKit
section
variable {P:Program} {X:Nat->Prop} {s:Nat->Bool}
theorem Abl(S:M6 P s){r:Code}(hr:O0 P s r=true){b:Frame}(hb:Cm P b){a:Act}(hd:a.defers=[]){Q:Act->World->Prop}{u:World}(hu:S6 (λ_=>False) u u)(h:r.wp P (λe a u=>e=.ret/\Q a u) a u){N:Nat}{a':Act}{todo:List Item}{u':World}
  (hN:runN P N (lone (b.at a [.code r]) ([]++[c0 P]) u)=.next (lone {b.at a' todo with mode:=.returning} [c0 P] u')):todo≠[]:=λe=>by
 subst e;have hok:O2 P s (b.at a [.code r]):=hb.ok hd (by intro i hi;simp at hi;subst hi;exact hr);obtain⟨e,a2,u2,⟨rfl,_⟩,harr⟩:=h b [OO] [c0 P];obtain⟨todo2,M,hM⟩:=harr;exact ON S OO (λfr x h1 h2 h3=>Su fr x h1 h2 h3) N hok (seg:=[]) (by simp) (by simp) (by simp) hu (λ_=>rfl) hN rfl rfl M hM rfl
def Agr(X:Nat->Prop)(b:Frame)(bw:List Frame)(Q:Act->World->Prop)(g:Goroutine)(w:World):Prop:=∃a' todo,g=G {b.at a' todo with mode:=.returning} bw/\a'.defers=[]/\M1 X w/\∀τ d,AG (Q a') (E0 X w τ d)
theorem Zx(S:M6 P s){r:Code}(hr:O0 P s r=true){b:Frame}(hb:Cm P b){a:Act}(hd:a.defers=[]){w:World}(hw:M1 X w){Q:Act->World->Prop}
  (h:∀τ d,AG (λu=>r.wp P (λe a u=>e=.ret/\Q a u) a u) (E0 X w τ d)) (k:List Item) (bw:List Frame) :
  Bx P X (Agr X b bw Q) (G (b.at a (.code r::k)) bw) w:=by
 have a4:O2 P s (b.at a [.code r]):=hb.ok hd (by intro i hi;simp at hi;subst hi;exact hr)
 have a5:St P X s IK (λfe u=>∃a' a0,fe={b.at a' a0 with mode:=.returning}/\AG (Q a') u) (b.at a [.code r]) [] w:=by
  refine⟨a4,by simp,hw,λτ d=>?_⟩;obtain⟨u0,h1,h2⟩:=h τ d;obtain⟨e,a',u',⟨rfl,hq⟩,a2⟩:=h1 b [] [c0 P];obtain⟨a0,N,hN⟩:=a2;have a6:=Abl S hr hb hd (h2.trans h2.symm) h1 hN;obtain⟨ve,q1,q2⟩:=shift S N a4 (seg:=[]) (by simp) h2 hN;exact⟨N,_,ve,q1,⟨rfl,a6⟩,a',a0,rfl,_,hq,q2⟩
 refine (Nr S (λfe u v hf ⟨a',a0,h1,h3⟩=>⟨a',a0,h1,h3.full hf⟩) k bw a5).mono λg w' ⟨fe,h1,h2,h3,h4,h5⟩=>?_;obtain⟨a',a0,e,_⟩:=h5 (λ_ _=>0) 0;subst e;refine⟨a',a0++k,h1,h2.defers,h3,λτ d=>?_⟩;obtain⟨a1,a3,e,hq⟩:=h5 τ d;have e1:a'.tmps=a1.tmps:=congrArg Frame.tmps e;have e2:a'.defers=a1.defers:=congrArg Frame.defers e;obtain rfl:a'=a1:=by cases a';cases a1;simp_all
 exact hq
variable {X0:Nat->Prop} {W0 V:World} {F:World->Prop} {Shun:Loc->Prop} {Post:Value->World->Prop} {b:Frame} {a:Act} {k:List Item} {bw:List Frame} {gs:Array Goroutine} {sl:Option (Nat×Nat)} {t:Trace}
theorem AjT(S:M6 P s){r:Code}(hr:O0 P s r=true)(hb:Cm P b)(hd:a.defers=[])(hF:S2 F)(hI:F5 X0 W0 F X Shun V){G':Act->World->Prop}(hG:∀a,N6 (G' a))(h:∀u,F u->r.wp P (λe a' u'=>e=.ret/\G' a' u'/\Up u u') a u)
  (hh:G6 P Shun gs (G (b.at a (.code r::k)) bw) t) (kk:∀gs V sl t a' todo,G6 P Shun gs (G {b.at a' todo with mode:=.returning} bw) t->a'.defers=[]->F5 X0 W0 (λu=>F u/\G' a' u) X Shun V->E7 P Post (crowd gs V sl) t):E7 P Post (crowd gs V sl) t:=by
 refine Y5 hI.hX hh (Zx S hr hb hd hI.base (Q:=λa u=>∃τ d,G' a u/\Below V.heap.size (E0 X V τ d) u) (λτ d=>AW hI.base (λτ d=>wp_mono (h _ (hI.hold τ d)) ?_) τ d) k bw) λgs' g' w' sl' t' hh' hst=>?_
 ·intro e a' u' hq;refine⟨hq.1,τ,d,hq.2.1,?_⟩;have:=hq.2.2;(try unfold Up at this);rwa [I5] at this
 obtain⟨a',todo,rfl,a0,a1,hQ⟩:=hst;have h1:=λτ d=>S8 (hG a') (hQ τ d);exact kk gs' w' sl' t' a' todo hh' a0 ⟨hI.hX,a1,λτ d=>⟨hF.up _ _ (hI.hold τ d) (by (try unfold Up);rw[I5];exact (h1 τ d).2),(h1 τ d).1⟩,λτ d=>(hI.low τ d).trans ((h1 τ d).2.mono hI.size),hI.far⟩
end
theorem Abm{P:Program}{s:Nat->Bool}(S:M6 P s){f:FuncId}(hf:s f=true){vs:Array Value}{X:Nat->Prop}{Shun:Loc->Prop}{W:World}(hb:M1 X W)(hX:Y9 Shun X){R:Value->World->Prop}(hR:∀v,N6 (R v))
  (hc:∀τ d,Calls P f vs (E0 X W τ d) λe u'=>(∃v,e=.returned v/\R v u')/\Below (E0 X W τ d).heap.size (E0 X W τ d) u') (hbf:((P.funcs[f]?).bind (·.body)).isSome=true:=by kernel_rfl):AB P f vs X Shun W R:=by
 intro Post c cs gs sl t hh k;refine Y5 hX hh (KI S hf hb (R:=λw v u=>R v u/\Up w u) (λτ d=>(hc τ d).mono ?_) c cs hbf) λgs2 g2 w2 sl2 t2 hh2 hst2=>?_
 ·rintro e u' ⟨⟨v,rfl,h1⟩,h2⟩;exact⟨v,rfl,h1,h2⟩
 obtain⟨v,rfl,a0,a1⟩:=hst2;exact k X Shun gs2 w2 sl2 t2 v hX (λ_ h=>.inl h) hh2 a0 λτ d=>S8 (hR v) ((a1 τ d).imp λu h=>let ⟨τ,d,h1,h2⟩:=h;⟨τ,d,h1,by (try unfold Up at h2);rw[I5] at h2;exact h2⟩)
end Go.Proofs.YtcgkgmmclfeohaaGreatDoor
namespace Go.Proofs.YtcgkgmmclfeohaaGreatDoor
open Go.Proofs.Tryz
open Go.RowKit
theorem Iy{P:Program}(w:World)(dT sT ty elem:TypeId)(size b o dLen dCap:Nat)(a:Addr)(sLen sCap:Nat)(cs:List Value)
  (hu:P.underlying dT=some (.slice elem)) (hs:(P.info? elem).map (·.size)=some size) (hn:cs.length=Nat.min sLen dLen*size)
  (hsrc:∀j v,cs[j]?=some v->w.cell? (a.add j)=some v) (hc:∀j,j<cs.length->(w.cell? ⟨b,o+j,none⟩).isSome=true) (hf:∀j,j<cs.length->w.frozen? ⟨b,o+j,none⟩=false) (h1:∀v∈cs,v.oneCell'=true) :
  (Builtin.copy_ #[dT,sT] ty #[.slice (some ⟨b,o,none⟩) dLen dCap,.slice (some a) sLen sCap]).run P w=.ok (goInt (Nat.min sLen dLen)) (w.setCells b o cs):=by
 have hl:=run_loadCells_list (P:=P) w a cs hsrc;have a0:=run_storeCells_cells (P:=P) b o cs 0 w (by simpa using hc) (by simpa using hf) h1;cases hq:P.info? elem with
 | none=>simp[hq] at hs
 | some i =>
  have hi:i.size=size:=by simpa [hq] using hs
  simp[Builtin.copy_,run_underlying hu,Builtin.lenOf,Builtin.firstCells,sizeOf,typeInfo,hq,hi,← hn,hl,a0]
theorem Abn{w:World}{base e size n m c g:Nat}{xs:List Value}(h:w.ownsRow base e size (Sz g n c) n xs)(hn:n<=m)(hm:m<=c):∃ys,ys.length=(m-n)*size/\w.ownsRow base e size (Sz g m c) m (xs++ys):=by
 have hl:=h.1;rcases h.2 with⟨h0,_⟩|⟨g',cap,cur,h',h1,h2,h3,h4,h5,h6⟩
 ·simp at h0
 ·obtain⟨e1,-,rfl⟩:=Value.slice.inj h';obtain rfl:g=g':=by simpa using e1
  have a1:n*size<=m*size:=Nat.mul_le_mul_right _ hn;have a0:m*size<=c*size:=Nat.mul_le_mul_right _ hm;have a2:cur.toList.length=c*size:=by simpa using h5
  refine⟨(cur.toList.take (m*size)).drop (n*size),?_,?_,.inr ⟨g,c,cur,rfl,h1,h2,hm,h4,h5,?_⟩⟩
  ·rw[A8,B8,a2,Nat.min_eq_left a0,Nat.sub_mul]
  ·rw[A9,hl,A8,B8,a2,Nat.min_eq_left a0];omega
  ·rw[← h6];conv=>lhs;rw[← List.take_append_drop (n*size) (cur.toList.take (m*size))]
   rw[List.take_take,Nat.min_eq_left a1]
theorem Fh{base e size n c g:Nat}:∀(vs:List Value)(o:Nat)(w:World)(xs:List Value),w.ownsRow base e size (Sz g n c) n xs->o+vs.length<=xs.length->
  (w.setCells g o vs).ownsRow base e size (Sz g n c) n (xs.take o++vs++xs.drop (o+vs.length))/\w.grownBy (w.setCells g o vs) (some g)
 | [],o,w,xs,h,_=>by
  refine⟨?_,F4 _ _⟩;simpa [World.setCells] using h
 | v::r,o,w,xs,h,ho=>by
  obtain⟨s1,s2⟩:=World.ownsRow.stored h o v;simp only[List.length_cons] at ho;obtain⟨t1,t2⟩:=Fh r (o+1) (w.setCell ⟨g,o,none⟩ v) (xs.set o v) s1 (by rw[List.length_set];omega);refine⟨?_,S3 s2 t2⟩
  have e:(xs.set o v).take (o+1)++r++(xs.set o v).drop (o+1+r.length)=xs.take o++(v::r)++xs.drop (o+(v::r).length):=by
   have a0:o<xs.length:=by omega
   rw[List.take_set,List.drop_set_of_lt (by omega),A7 a0,List.set_append_right _ _ (by rw[B8];omega),B8,Nat.min_eq_left (by omega),Nat.sub_self];simp[Nat.add_assoc,Nat.add_comm 1]
  rw[e] at t1;exact t1
end Go.Proofs.YtcgkgmmclfeohaaGreatDoor
