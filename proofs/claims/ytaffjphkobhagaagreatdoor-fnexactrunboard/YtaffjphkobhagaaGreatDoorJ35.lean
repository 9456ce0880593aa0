/- The starter, 9: from Add's return to the go. -/
import Derived.Test.YtaffjphkobhagaaGreatDoorJ33
set_option maxRecDepth 100000
set_option maxHeartbeats 2000000
namespace Go.Proofs.YtaffjphkobhagaaGreatDoor
open Proofs.Tryz
variable{T' args:Array Value}{wr:Bool}{e:Event}{fn:Func}{g':Goroutine}{A A' S:Goroutine->World->Prop}{ss:List BA}{H h j m:Nat}{hv nv:Value}{w' w1:World}{F:World->Prop}{R:World->World->Prop}
namespace Bd
open Go.Conc Go.ConcN
open Go.ConcR (DC0)
section
variable {p:F5} {q:BM} {M:Nat->Prop} {T:Array Value} {k:List Item} {cs:List Frame} {w:World} {Next:Goroutine->World->Prop}
theorem AfY(_hP:p.P=prog)(e4:T[4]?=some (Pz p.Wg 0))(e3:T[3]?=some (Pz q.B1 0))(e5:T[5]?=some (Pz q.C 0))(e6:T[6]?=some (Pz q.Bb 0))(e1:T[1]?=some (Pz q.H 0))(l:List Item)(w:World):
  (execOp (sf T l).eval (og 7 0)).runT p.P w #[]=(.ok (.value (.func (.func Ic) #[] (Kw p q).toArray)) w,#[]):=by
 obtain⟨a1,a2,a3,a4⟩:=AfV;unfold execOp;rw[a2];simp only[List.map_toArray,List.map_cons,List.map_nil,S4 e4,S4 e3,S4 e5,S4 e6,S4 e1];rfl
theorem Ahp(hP:p.P=prog)(_hT:T.size=41)(e4:T[4]?=some (Pz p.Wg 0))(e3:T[3]?=some (Pz q.B1 0))(e5:T[5]?=some (Pz q.C 0))(e6:T[6]?=some (Pz q.Bb 0))(e1:T[1]?=some (Pz q.H 0))(hF2:∀w w',R0 p M w w'->F w->F w')
  (hgo:∀w,F w->ES p M j Next (G (sf (T.setIfInBounds 22 (.func (.func Ic) #[] (Kw p q).toArray)) (.inRegion (rg 7) [1]::k)) cs) w) (hF:F w) :
  Goes p.P true (R0 p M) DC0 (ES p M j Next) 3 (G (sf T (.inRegion (rg 6) []::.code (.region 7 (rg 7) false)::k)) cs) w:=by
 refine Goes.step rfl λw₁ qb=>?_;have hF:=hF2 _ _ qb hF;have s1:stepG p.P true (G (sf T (.inRegion (rg 6) []::.code (.region 7 (rg 7) false)::k)) cs) w₁=.go (G (sf T (.code (.region 7 (rg 7) false)::k)) cs) w₁ #[]:=by simp[stepG,stepG.exec,G,sf,ff]
 rw[s1];simp only[goes_go];refine⟨⟨rfl,rfl⟩,Goes.step rfl λqc qh=>?_⟩;have hF:=hF2 _ _ qh hF;have s2:stepG p.P true (G (sf T (.code (.region 7 (rg 7) false)::k)) cs) qc=.go (G (sf T (.inRegion (rg 7) [0,1]::k)) cs) qc #[]:=by simp[stepG,stepG.exec,G,sf,ff,Aao.2.2.2.1,List.range,List.range.loop]
 rw[s2];simp only[goes_go];refine⟨⟨rfl,rfl⟩,Goes.step rfl λqg qi=>?_⟩;have hF:=hF2 _ _ qi hF;obtain⟨a1,a2,a3,a4⟩:=AfV;have a0:Bg (sf T (.inRegion (rg 7) [0,1]::k)) (rg 7) 0 [1] k (og 7 0):=⟨rfl,rfl,rfl,rfl,a1,a4⟩
 have s3:stepG p.P true (G (sf T (.inRegion (rg 7) [0,1]::k)) cs) qg=.go (G (sf (T.setIfInBounds 22 (.func (.func Ic) #[] (Kw p q).toArray)) (.inRegion (rg 7) [1]::k)) cs) qg #[]:=by
  rw[a0.step];unfold stepG.apply;simp only[AfY hP e4 e3 e5 e6 e1,a0.early,if_true,Bool.false_eq_true,if_false,GStep.after,seen_none,Array.append_empty];rw[P0 a1,a3];rfl
 rw[s3];simp only[goes_go];exact⟨⟨rfl,rfl⟩,Goes.stop λqm qq=>hgo _ (hF2 _ _ qq hF)⟩
end
end Bd
namespace Bd
open Go.Conc Go.ConcN Go.RowKit Go.Conc.Lib Go.ConcR.Gen Go.ConcN.Gen
open Go.ConcR (DC0 stA)
theorem Lj{P:Program}{f:FuncId}(hf:P.funcs[f]?=some fn)(hb:fn.body.isNone=false)(hn:(fn.name == "runtime.NumGoroutine")=false)(args:Array Value)(w:World)(es:Array Event):(callFunc f args).runT P w es=(.ok (.enter f args) w,es):=by
 unfold callFunc;show Sem.runT P (match P.funcs[f]? with|none=>_|some fn=>_) w es=_
 rw[hf];simp only[hn,hb];rfl
section
variable {p:F5} {q:BM} {M:Nat->Prop} {T:Array Value} {k:List Item} {cs:List Frame} {w:World} {Next:Goroutine->World->Prop}
theorem Acr(hP:p.P=prog)(_hty:p.ty=97)(hT:T.size=41)(e4:T[4]?=some (Pz p.Wg 0))(e3:T[3]?=some (Pz q.B1 0))(e5:T[5]?=some (Pz q.C 0))(e6:T[6]?=some (Pz q.Bb 0))(e1:T[1]?=some (Pz q.H 0)){r:Nat}(hF2:∀w w',R0 p M w w'->F w->F w')(hset:∀w v,F w->F (w.setCell (stA p.Wg) v))
  (hgo:∀T' w,T'.size=41->(∀x,x<21->T'[x]?=T[x]?)->T'[22]?=some (.func (.func Ic) #[] (Kw p q).toArray)->F w/\WgLive p.ty p.Wg w->ES p M (p.n-(r+1)) Next (G (sf T' (.inRegion (rg 7) [1]::k)) cs) w) (hF:F w/\WgLive p.ty p.Wg w) :
  Ends p true (L5 p r Next) M (G (sf T (.inRegion (rg 5) []::.code (.seq (.region 6 (rg 6) false) (.region 7 (rg 7) false))::k)) cs) w:=by
 refine Ends.ctl (g':=G (sf T (.code (.seq (.region 6 (rg 6) false) (.region 7 (rg 7) false))::k)) cs) rfl (λw=>by simp[stepG,stepG.exec,G,sf,ff]) ?_;refine Ends.ctl (g':=G (sf T (.code (.region 6 (rg 6) false)::.code (.region 7 (rg 7) false)::k)) cs) rfl (λw=>by simp[stepG,stepG.exec,G,sf,ff]) ?_;refine Ends.ctl (g':=G (sf T (.inRegion (rg 6) [0]::.code (.region 7 (rg 7) false)::k)) cs) rfl (λw=>by simp[stepG,stepG.exec,G,sf,ff,Aao.2.2.1,List.range,List.range.loop]) ?_;obtain⟨a1,a2,a4⟩:=Ais;refine Ends.enter (f:=52) (args:=#[Pz p.Wg 0,Iz 1]) ⟨rfl,rfl,rfl,rfl,a1,a4⟩ (λw₁=>?_) ?_
 .rw[Db,FB _ a2,hP,Lj func52 sI sI,← Db];simp only[List.map_toArray,List.map_cons,List.map_nil];rw[show (sf T (.inRegion (rg 6) [0]::.code (.region 7 (rg 7) false)::k)).eval (.tmp 4)=_ from S4 e4];rfl
 .have hA:=AhZ (L:=Ng) (p:=p) (M:=M) (F:=F) (Next:=ES p M (p.n-(r+1)) Next) (b₀:=base 21) (a₀:=⟨T,[]⟩) (ops₀:=rg 6) (i₀:=0) (rest₀:=[]) (k₀:=.code (.region 7 (rg 7) false)::k) (cs:=cs) (mT:=3) (by rw[hP];exact wgl) hF2 hset (λw hw hl=>?_) w hF
  .refine Ends.of_goes (λg w h=>h) 12 ?_;refine Eq.mp (congrArg (λf=>Goes p.P true (R0 p M) DC0 (AK p M .disable (WI p M (ES p M (p.n-(r+1)) Next))) 12 (G f (sf T (.inRegion (rg 6) [0]::.code (.region 7 (rg 7) false)::k)::cs)) w) ?_) hA;rw[hP];kernel_rfl
  .have ed:((rg 6)[0]?).bind (·.dst)=some 21:=sI
   rw[ed];show Goes p.P true (R0 p M) DC0 (ES p M (p.n-(r+1)) Next) 3 (G (sf (T.setIfInBounds 21 (.tuple #[])) (.inRegion (rg 6) []::.code (.region 7 (rg 7) false)::k)) cs) w
   have nx:∀x,x<21->(T.setIfInBounds 21 (Value.tuple #[]))[x]?=T[x]?:=λx hx=>Array.getElem?_setIfInBounds_ne oM;refine Ahp (q:=q) (F:=λw=>F w/\WgLive p.ty p.Wg w) hP (by simp[hT]) ((nx 4 oM).trans e4) ((nx 3 oM).trans e3) ((nx 5 oM).trans e5) ((nx 6 oM).trans e6) ((nx 1 oM).trans e1) (λw w' hR h=>⟨hF2 _ _ hR h.1,hR.rk.live h.2⟩) (λw h=>hgo _ w (by simp[hT]) (λx hx=>?_) ?_ h) ⟨hw,hl⟩
   .grind
   .simp_all
end
def Walk(P:Program)(main:Bool):Nat->Goroutine->Goroutine->Prop
 | 0,g,g'=>g=g'
 | n+1,g,g'=>g.status=.running/\∃g1,(∀w,stepG P main g w=.go g1 w #[])/\Walk P main n g1 g'
section
variable {P:Program} {p:F5} {main:Bool} {M:Nat->Prop} {Stop:(Nat->Prop)->Goroutine->World->Prop} {w:World}
theorem Walk.trans:∀{n m:Nat} {g g1 g2:Goroutine},Walk P main n g g1->Walk P main m g1 g2->Walk P main (m+n) g g2
 | 0,_,_,_,_,h,k=>by cases h;exact k
 | _+1,_,_,_,_,⟨h1,g,h2,h3⟩,k=>⟨h1,g,h2,h3.trans k⟩
theorem Walk.ends:∀{n:Nat} {g g':Goroutine},Walk p.P main n g g'->Ends p main Stop M g' w->Ends p main Stop M g w
 | 0,_,_,h,k=>by cases h;exact k
 | _+1,_,_,⟨h1,_,h2,h3⟩,k=>Ends.ctl h1 h2 (h3.ends k)
theorem Walk.goes{D:World->World->Array Event->Prop}(hR:∀a b c,R a b->R b c->R a c)(hD:∀w,D w w #[]):∀{n:Nat} {g g':Goroutine},Walk P main n g g'->Goes P main R D S m g' w->Goes P main R D S (m+n) g w
 | 0,_,_,h,k=>by cases h;exact k
 | n+1,g,g',⟨h1,g1,h2,h3⟩,k=>by
  refine Goes.step h1 λw₁ hw=>?_;rw[h2];simp only[goes_go];exact⟨hD _,Goes.rely hR (h3.goes hR hD k) hw⟩
theorem Walk.one{g:Goroutine}(hs:g.status=.running)(h:∀w,stepG P main g w=.go g' w #[]):Walk P main 1 g g':=⟨hs,g',h,rfl⟩
variable {fr:Frame} {cs:List Frame} {ops:Array Oper} {i:Nat} {rest:List Nat} {k:List Item} {o:Oper}
theorem Walk.value(h:Bg fr ops i rest k o){v:Value}(hx:∀w₁,(execOp fr.eval o).runT P w₁ #[]=(.ok (.value v) w₁,#[])):Walk P main 1 (G fr cs) (G (fr.finish v) cs) :=
 .one rfl λw=>by
  rw[h.step];unfold stepG.apply;simp only[hx,h.early,if_true,Bool.false_eq_true,if_false,GStep.after,seen_none,Array.append_empty];rfl
end
structure Sk (p:F5) (W w:World):Prop where
 tape:w.tape=W.tape
 os:w.os=W.os
 output:w.output=W.output
 nv:NV w
 size:W.heap.size<=w.heap.size
 low:∀b,b<p.Low->b≠p.Wg->b≠p.Ch->w.heap[b]?=W.heap[b]?
section
variable {p:F5} {M:Nat->Prop} {W w w₁:World}
theorem Sk.sl(h:Sk p W w)(k:Sl p w w₁):Sk p W w₁:=⟨k.tape.trans h.tape,k.os.trans h.os,k.output.trans h.output,k.nv h.nv,B4 h.size k.size,λb h1 h2 h3=>(k.low b h1 h2 h3).trans (h.low b h1 h2 h3)⟩
theorem Sk.r0(h:Sk p W w)(k:R0 p M w w₁):Sk p W w₁:=h.sl (.of_r0 k)
theorem Ll{a:Addr}{v:Value}{b:Nat}(hb:b≠a.block):(w.setCell a v).heap[b]?=w.heap[b]?:=by
 show (w.heap.modify _ _)[b]?=_
 rw[Array.getElem?_modify,if_neg (Ne.symm hb)]
theorem Sk.set(h:Sk p W w){a:Addr}(ha:a.block=p.Wg)(v:Value):Sk p W (w.setCell a v):=by
 refine⟨h.tape,h.os,h.output,λb c t hx=>?_,?_,λb h1 h2 h3=>(Ll (by rw[ha];exact h2)).trans (h.low b h1 h2 h3)⟩
 .have hx:(w.heap.modify _ _)[b]?=_:=hx;rw[Array.getElem?_modify] at hx;split at hx
  .cases e:w.heap[b]? with
   | none=>rw[e] at hx;cases hx
   | some ob =>
    rw[e,Option.map_some,Option.some.injEq] at hx;cases ob with
    | pending c' t'=>exact h.nv b c' t' e
    | _=>cases hx
  .exact h.nv b c t hx
 .show W.heap.size<=(w.heap.modify _ _).size
  rw[Array.size_modify];exact h.size
end
end Bd
namespace Bd
open Go.Conc
def ctl(c:Operand->Option Bool):List Item->Option (List Item)
 | .code .skip::k | .code (.label _)::k | .inBlock _::k | .inScope _::k=>some k
 | .code (.seq a b)::k=>some (.code a::.code b::k)
 | .code (.cond x a b)::k=>(c x).map λt=>.code (if t then a else b)::k
 | .code (.block i a)::k=>some (.code a::.inBlock i::k)
 | .code (.loop a)::k | .inLoop a::k=>some (.code a::.inLoop a::k)
 | .code (.scope a)::k=>some (.code a::.inScope a::k)
 | .code (.exit i)::k=>exitTo i k
 | .code (.region _ ops false)::k=>some (.inRegion ops (List.range ops.size)::k)
 | .inRegion _ []::k=>some k
 | _=>none
def Tc(c:Operand->Option Bool):Nat->List Item->Option (List Item)
 | 0,l=>some l
 | n+1,l=>(ctl c l).bind (Tc c n)
def Acs(x:Nat)(t:Bool):Operand->Option Bool
 | .tmp y=>if y=x then some t else none
 | _=>none
section
variable {P:Program} {main:Bool} {b:Frame} {cs:List Frame} {c:Operand->Option Bool}
theorem Td(hm:b.mode=.run)(hc:∀x t,c x=some t->b.eval x=.bool t){l l':List Item}(h:ctl c l=some l')(w:World):stepG P main (G {b with todo:=l} cs) w=.go (G {b with todo:=l'} cs) w #[]:=by
 unfold ctl at h;split at h
 all_goals first
  | (cases h;done)
  | (obtain rfl:=A5 h;simp[stepG,stepG.exec,G,hm];done)
  | skip
 .rename_i x p q k;cases e:c x with
  | none=>rw[e] at h;cases h
  | some t =>
   rw[e] at h;obtain rfl:=A5 h;have ev:Frame.eval {b with todo:=.code (.cond x p q)::k,mode:=.run} x=.bool t:=hc x t e;simp[stepG,stepG.exec,G,hm,ev]
 .simp[stepG,stepG.exec,G,hm,h]
theorem XL(hm:b.mode=.run)(hc:∀x t,c x=some t->b.eval x=.bool t):∀(n:Nat) {l l':List Item},Tc c n l=some l'->Walk P main n (G {b with todo:=l} cs) (G {b with todo:=l'} cs)
 | 0,_,_,h=>by cases h;rfl
 | n+1,l,l',h=>by
  unfold Tc at h;cases e:ctl c l with
  | none=>rw[e] at h;cases h
  | some l1 =>
   rw[e] at h;exact⟨rfl,_,Td hm hc e,XL hm hc n h⟩
variable {f:FuncId} {T:Array Value} {l l':List Item} {r:Option Nat} {ds:List Deferred}
theorem G6(n:Nat)(h:Tc (λ_=>none) n l=some l'):Walk P main n (G (ff f T l r ds) cs) (G (ff f T l' r ds) cs):=XL (b:=ff f T [] r ds) rfl (λ_ _ h=>by cases h) n h
theorem CA{x:Nat}{t:Bool}(e:T[x]?=some (.bool t))(n:Nat)(h:Tc (Acs x t) n l=some l'):Walk P main n (G (ff f T l r ds) cs) (G (ff f T l' r ds) cs):=XL (b:=ff f T [] r ds) (c:=Acs x t) rfl (λy s h=>by
 unfold Acs at h;split at h
 .split at h
  .rename_i y e1;obtain rfl:=A5 h;subst e1;exact S4 e
  .cases h
 .cases h) n h
end
theorem Et(f:FuncId)(T:Array Value)(k:List Item):ff f T k=(base f).at ⟨T,[]⟩ k:=rfl
theorem Te{f:FuncId}(hf:prog.funcs[f]?=some fn){x:Nat}(hr:fn.results=#[.tmp x]){T:Array Value}{v:Value}(e:T[x]?=some v){c:Frame}{cs:List Frame}{k:List Item}:Walk prog true 2 (G (ff f T (.code .ret::k)) (c::cs)) (G (c.finish v) cs):=by
 have w2:Walk prog true 1 (G (ff f T (.code .ret::k)) (c::cs)) _:=Walk.one (g':=G {(base f).at ⟨T,[]⟩ (.code .ret::k) with mode:=.returning} (c::cs)) rfl (λw=>by rw[Et];exact stepG_ret');have w3:Walk prog true 1 (G {(base f).at ⟨T,[]⟩ (.code .ret::k) with mode:=.returning} (c::cs)) _:=Walk.one (g':=G (c.finish v) cs) rfl (λw=>stepG_leave rfl rfl hf (by simp[results,hr,e]) (by simp[results,hr]));exact w2.trans w3
theorem Dv{f:FuncId}(hf:prog.funcs[f]?=some fn){x:Nat}(hr:fn.results=#[.tmp x]){T:Array Value}{v:Value}(e:T[x]?=some v){c:Frame}{cs:List Frame}{k:List Item}{ops:Array Oper}:Walk prog true 3 (G (ff f T (.inRegion ops []::.code .ret::k)) (c::cs)) (G (c.finish v) cs):=(G6 1 rfl).trans (Te hf hr e)
end Bd
namespace Bd
open Go.Conc Go.ConcN Go.RowKit Go.Conc.Lib Go.ConcR.Gen Go.ConcN.Gen
open Go.ConcR (DC0 stA)
structure Ie where
 V:Nat->Prop
 B1:Nat
 H:Nat
 hc:List Value
 bcs:Nat->List Value
 line:Nat->BA
 bb:Nat
 oo:Nat
noncomputable def Ie.job(q:Ie)(p:F5)(W:World)(i C Bb:Nat):BM:=⟨q.B1,C,Bb,q.H,(i:Int),q.bcs i,q.hc,q.line i,q.V,(AW q.V p.Low W).heap⟩
def XK(p:F5)(b:Nat):Prop:=b<p.Low/\b≠p.Wg/\b≠p.Ch/\∀a:Addr,a.block=b->¬p.Sh (.cell a)
structure Ns (p:F5) (W:World) (q:Ie):Prop where
 P:p.P=prog
 ok:p.Ok
 ty:p.ty=97
 b1:XK p q.B1
 h:XK p q.H
 hl:q.hc.length=6
 hv:VR (Y1 q.V p.Low) (.agg q.hc.toArray) (.agg q.hc.toArray)
 bl:∀i,i<p.n->(q.bcs i).length=6
 one:∀i,i<p.n->∀u∈q.bcs i,u.oneCell'=true
 bv:∀i,i<p.n->VR (Y1 q.V p.Low) (.agg (q.bcs i).toArray) (.agg (q.bcs i).toArray)
 c1:∀i,i<p.n->∀x:World,x.heap=(AW q.V p.Low W).heap->Calls prog 56 #[.agg q.hc.toArray,.agg (q.bcs i).toArray] x λe u'=>∃v,e=.returned v/\Xy (q.job p W i 0 0) v u'
 val:∀i,i<p.n->p.val i=.agg #[.int .i64 (i:Int),.string (q.line i)]
 sight:Adk p q.V
 seen:HU q.V p.Low W
 bat:0<p.n->XK p q.bb
 bats:∀i,i<p.n->∀(j:Nat) v,(q.bcs i)[j]?=some v->W.cell? ⟨q.bb,q.oo+i*6+j,none⟩=some v
 mB1:∃t f,W.heap[q.B1]?=some (.cells [Value.chan (some p.Ch)].toArray t f)
 mH:∃t f,W.heap[q.H]?=some (.cells q.hc.toArray t f)
structure BX (p:F5) (q:Ie) (c i:Nat) (T:Array Value):Prop where
 size:T.size=41
 s16:T[16]?=some (.int .i64 (i:Int))
 s15:T[15]?=some (.int .i64 (p.n:Int))
 s14:0<p.n->T[14]?=some (.slice (some ⟨q.bb,q.oo,none⟩) p.n c)
 s4:T[4]?=some (.pointer (some ⟨p.Wg,0,none⟩))
 s3:T[3]?=some (.pointer (some ⟨q.B1,0,none⟩))
 s1:T[1]?=some (.pointer (some ⟨q.H,0,none⟩))
section
variable {p:F5} {W w:World} {q:Ie} {T:Array Value} {k:List Item} {cs:List Frame} {Next:Goroutine->World->Prop} {c i r:Nat}
theorem BX.keep(h:BX p q c i T)(hs:T'.size=41)(hx:∀x,x<17->x≠5->x≠6->T'[x]?=T[x]?):BX p q c i T' :=
 ⟨hs,(hx 16 oM oM oM).trans h.s16,(hx 15 oM oM oM).trans h.s15,λhn=>(hx 14 oM oM oM).trans (h.s14 hn),(hx 4 oM oM oM).trans h.s4,(hx 3 oM oM oM).trans h.s3,(hx 1 oM oM oM).trans h.s1⟩
theorem Aas(g:Ns p W q)(hi:i+(r+1)=p.n)(hT:BX p q c i T)(hs:Sk p W w)(hlv:WgLive p.ty p.Wg w)
  (next:∀T' w',BX p q c i T'->Sk p W w'->WgLive p.ty p.Wg w'->Next (G (sf T' (.inRegion (rg 7) []::k)) cs) w') :
  Ends p true (L5 p r Next) Mt (G (sf T (.inRegion (rg 5) [0,1,2,3,4,5,6]::.code (.seq (.region 6 (rg 6) false) (.region 7 (rg 7) false))::k)) cs) w:=by
 have a0:i<p.n:=oM
 have hn:0<p.n:=oM
 have hb:=g.bat hn;refine AfX g.P g.ok (bc:=q.bcs i) (g.bl i a0) (g.one i a0) hT.size hT.s16 (hT.s14 hn) a0 (B4 g.seen.le hs.size) hb (λj v hv=>?_) λM C Bb w' mC mB lC lB _ sl cC cB T' hT' f5 f6 keep=>?_
 .rw[C2 (w:=W) (hs.low _ hb.1 hb.2.1 hb.2.2.1)];exact g.bats i a0 j v hv
 have hq:W8 p (q.job p W i C Bb):=⟨g.P,g.ok,g.b1,g.h,lC,lB,g.bl i a0,g.hl,g.bv i a0,g.hv,g.c1 i a0⟩;have a2:BX p q c i T':=hT.keep hT' keep;have nC:C≠p.Wg:=by have:=g.ok.wg;omega
 have nB:Bb≠p.Wg:=by have:=g.ok.wg;omega
 refine Acr (q:=q.job p W i C Bb) (F:=λw=>Sk p W w/\w.heap[C]?=some (Kz [Iz (i:Int)] 3)/\w.heap[Bb]?=some (.cells (q.bcs i).toArray 52)) g.P g.ty hT' a2.s4 a2.s3 f5 f6 a2.s1
  (λw w' R h=>⟨h.1.r0 R,(R.rk.own _ mC).trans h.2.1,(R.rk.own _ mB).trans h.2.2⟩) (λw v h=>⟨h.1.set rfl v,(Ll nC).trans h.2.1,(Ll nB).trans h.2.2⟩) (λT3 w3 hT3 k3 e22 hF=>?_) ⟨⟨hs.sl sl,cC,cB⟩,sl.live hlv⟩
 obtain⟨⟨h1,h2,h3⟩,a3⟩:=hF;have ej:p.n-(r+1)=i:=oM
 refine Aho (q:=q.job p W i C Bb) hq g.ty (by rw[g.P];exact mixed) (by rw[ej];exact g.val i a0) mC mB ⟨?_,?_,h2,⟨_,_,h3⟩,a3⟩ ?_ e22 (next T3 w3 (a2.keep hT3 λx hx _ _=>k3 x oM) h1 a3)
 .obtain⟨t,f,e⟩:=g.mB1;exact⟨t,f,(h1.low _ g.b1.1 g.b1.2.1 g.b1.2.2.1).trans e⟩
 .obtain⟨t,f,e⟩:=g.mH;exact⟨t,f,(h1.low _ g.h.1 g.h.2.1 g.h.2.2.1).trans e⟩
 .have a1:∀b,q.V b->w3.heap[b]?=W.heap[b]?:=λb hb=>h1.low b (g.seen.low b hb) (g.sight.wg b hb) (g.sight.ch b hb);exact XC (q:=q.job p W i C Bb) g.sight (g.seen.same h1.size a1) (Aah a1).symm M _
end
theorem Lm(a b:Int)(f:Operand->Value){o:Oper}{x y:Operand}(hop:o.op=.binOp .lss 3 x y 3)(hx:f x=.int .i64 a)(hy:f y=.int .i64 b)(w:World):(execOp f o).runT prog w #[]=(.ok (.value (.bool (decide (a<b)))) w,#[]):=by
 unfold execOp;rw[hop,Sem.runT_eq];simp[go_sem,hx,hy]
theorem VY(a b:Int)(f:Operand->Value){o:Oper}{x y:Operand}(hop:o.op=.binOp .add 3 x y 3)(hx:f x=.int .i64 a)(hy:f y=.int .i64 b)(w:World):(execOp f o).runT prog w #[]=(.ok (.value (Iz (IntKind.i64.wrap (a+b)))) w,#[]):=by
 unfold execOp;rw[hop,Sem.runT_eq];simp[go_sem,hx,hy]
section
variable {p:F5} {W w:World} {q:Ie} {T:Array Value} {k:List Item} {cs:List Frame} {c i r n:Nat}
theorem Aaw(hT:T.size=41)(e16:T[16]?=some (Iz (i:Int)))(hi:i<4294967296):Walk prog true 7 (G (sf T (.inRegion (rg 7) []::.inBlock 1::.code (.region 8 (rg 8) false)::.inLoop S3::k)) cs) (G (sf ((T.setIfInBounds 23 (Iz ((i+1:Nat):Int))).setIfInBounds 16 (Iz ((i+1:Nat):Int))) (.code S3::.inLoop S3::k)) cs):=by
 obtain⟨a1,a2,a3,a4⟩:=Aip;obtain⟨b1,b2,b3,b4⟩:=Aiq;have ew:IntKind.i64.wrap ((i:Int)+1)=((i+1:Nat):Int):=by rw[IntKind.wrap_i64];omega
 have w4:Walk prog true 1 (G (sf T (.inRegion (rg 8) [0,1]::.inLoop S3::k)) cs) _:=Walk.value (v:=.int .i64 ((i+1:Nat):Int)) ⟨rfl,rfl,rfl,rfl,a1,a4⟩ λw=>by rw[← ew];exact VY _ _ _ a2 (S4 e16) rfl w
 rw[P0 a1,a3] at w4;have a0:(T.setIfInBounds 23 (Iz ((i+1:Nat):Int)))[23]?=some (Iz ((i+1:Nat):Int)):=Array.getElem?_setIfInBounds_self_of_lt oM;have w5:Walk prog true 1 (G (sf (T.setIfInBounds 23 (Iz ((i+1:Nat):Int))) (.inRegion (rg 8) [1]::.inLoop S3::k)) cs) _:=Walk.value (v:=.int .i64 ((i+1:Nat):Int)) ⟨rfl,rfl,rfl,rfl,b1,b4⟩ λw=>by rw[Y2 b2,S4 a0]
 rw[P0 b1,b3] at w5;exact (((G6 3 sI).trans w4).trans w5).trans (G6 2 sI)
noncomputable def Qu:Code:=.seq (.cond (.tmp 17) .skip (.exit 0)) (.seq (.block 1 (.seq (.region 5 (rg 5) false) (.seq (.region 6 (rg 6) false) (.region 7 (rg 7) false)))) (.region 8 (rg 8) false))
theorem Px(e16:T[16]?=some (Iz (i:Int)))(e15:T[15]?=some (Iz (n:Int))):Walk prog true 4 (G (sf T (.code S3::k)) cs) (G (sf (T.setIfInBounds 17 (.bool (decide ((i:Int)<(n:Int))))) (.code Qu::k)) cs):=by
 obtain⟨a1,a2,a3,a4⟩:=Aih;have w3:Walk prog true 1 (G (sf T (.inRegion (rg 4) [0]::.code Qu::k)) cs) _:=Walk.value (v:=.bool (decide ((i:Int)<(n:Int)))) ⟨rfl,rfl,rfl,rfl,a1,a4⟩ λw=>Lm _ _ _ a2 (S4 e16) (S4 e15) w;rw[P0 a1,a3] at w3;exact ((G6 2 sI).trans w3).trans (G6 1 sI)
theorem Ae3(e17:T[17]?=some (.bool true)):Walk prog true 7 (G (sf T (.code Qu::k)) cs) (G (sf T (.inRegion (rg 5) [0,1,2,3,4,5,6]::.code (.seq (.region 6 (rg 6) false) (.region 7 (rg 7) false))::.inBlock 1::.code (.region 8 (rg 8) false)::k)) cs):=CA e17 7 sI
theorem Acu(e17:T[17]?=some (.bool false)):Walk prog true 3 (G (sf T (.code Qu::.inLoop S3::.inBlock 0::k)) cs) (G (sf T k) cs):=CA e17 3 sI
variable {Anch:Goroutine->World->Prop}
theorem IK(hP:p.P=prog){n:Nat}{g:Goroutine}(h:Walk prog true n g g')(k:Sp p Anch r g' w):Sp p Anch r g w:=by
 rw[← hP] at h;cases r with
 | zero =>
  obtain⟨m,hk⟩:=k;exact⟨_,h.goes R0.tr (λ_=>⟨rfl,rfl⟩) hk⟩
 | succ r=>exact h.ends k
theorem Aax(g:Ns p W q)(hlast:∀T w,BX p q c p.n T->Sk p W w->WgLive p.ty p.Wg w->∃m,Goes p.P true (R0 p Mt) DC0 (AK p Mt .disable Anch) m (G (sf T k) cs) w):
  ∀r i T w,i+r=p.n->BX p q c i T->Sk p W w->WgLive p.ty p.Wg w->Sp p Anch r (G (sf T (.code S3::.inLoop S3::.inBlock 0::k)) cs) w
 | 0,i,T,w,hi,hT,hs,hl=>by
  have e:i=p.n:=oM
  subst e;refine IK g.P (Px hT.s16 hT.s15) ?_;refine IK g.P (Acu ?_) ?_
  .rw[Array.getElem?_setIfInBounds_self_of_lt (by rw[hT.size];omega)];simp
  .exact hlast _ w (hT.keep (by simp[hT.size]) λx hx _ _=>Array.getElem?_setIfInBounds_ne oM) hs hl
 | r+1,i,T,w,hi,hT,hs,hl=>by
  have hn:=g.ok.n;refine IK g.P (Px hT.s16 hT.s15) ?_;refine IK g.P (Ae3 ?_) ?_
  .rw[Array.getElem?_setIfInBounds_self_of_lt (by rw[hT.size];omega)];have:(i:Int)<(p.n:Int):=oM
   simp[this]
  .refine Aas g oM (hT.keep (by simp[hT.size]) λx hx _ _=>Array.getElem?_setIfInBounds_ne oM) hs hl λT' w' hT' hs' hl'=>?_;refine IK g.P (Aaw hT'.size hT'.s16 oM) ?_;refine Aax g hlast r (i+1) _ w' oM ?_ hs' hl';have kp:∀x,x<16->((T'.setIfInBounds 23 (Iz ((i+1:Nat):Int))).setIfInBounds 16 (Iz ((i+1:Nat):Int)))[x]?=T'[x]?:=λx hx=>by rw[Array.getElem?_setIfInBounds_ne oM,Array.getElem?_setIfInBounds_ne oM]
   exact⟨by simp[hT'.size],Array.getElem?_setIfInBounds_self_of_lt (by simp[hT'.size]),(kp 15 oM).trans hT'.s15,λh=>(kp 14 oM).trans (hT'.s14 h),(kp 4 oM).trans hT'.s4,(kp 3 oM).trans hT'.s3,(kp 1 oM).trans hT'.s1⟩
end
noncomputable def Bl:Code:=.seq (.region 10 (rg 10) false) (.seq (.region 11 (rg 11) false) (.seq (.seq (.region 12 (rg 12) false) (.block 2 (.loop An))) (.seq (.region 16 (rg 16) false) .ret)))
theorem Acv:(rg 9)[0]?=some (og 9 0)/\(og 9 0).op=.call {callee:=.value (.func 57),args:=#[.tmp 4],argTypes:=(match (og 9 0).op with | .call c=>c.argTypes|_=>#[])}/\(og 9 0).guard=none/\(og 9 0).dst=some 24/\(rg 9).size=1:=⟨sI,sI,sI,sI,sI⟩
theorem Oa.mono{p:F5}{F:Goroutine->World->Prop}(h:∀g w,A g w->A' g w){v:Nat}{g:Goroutine}{w:World}(hh:Oa p A F v g w):Oa p A' F v g w :=
 ⟨hh.1,λu hu hw=>⟨(hh.2 u hu hw).1,λe=>let ⟨g',h1,m,h2⟩:=(hh.2 u hu hw).2 e;⟨g',h1,m,EJ (λ_ _ r=>r) (λ_ _ _ d=>d) h h2⟩⟩⟩
theorem ET.mono{p:F5}{F:Goroutine->World->Prop}(h:∀g w,A g w->A' g w){g:Goroutine}{w:World}(hh:ET p A F g w):ET p A' F g w :=
 ⟨hh.1,λu hu hw=>let ⟨g',h1,h2,h3⟩:=hh.2 u hu hw;⟨g',h1,h2,λe=>let ⟨m,h4⟩:=h3 e;⟨m,EJ (λ_ _ r=>r) (λ_ _ _ d=>d) (λ_ _ x=>Oa.mono h x) h4⟩⟩⟩
def AnB(p:F5)(q:Ie)(W:World)(c:Nat)(cs:List Frame)(g:Goroutine)(w:World):Prop :=
 ∃T,BX p q c p.n T/\VG Ng p (Sk p W) (sf T [.inRegion (rg 9) [0],.code Bl]) cs g w
def StB(p:F5)(q:Ie)(W:World)(c:Nat)(cs:List Frame)(s:List Nat)(g:Goroutine)(w:World):Prop :=
 ∃T,g=G (sf T [.inRegion (rg 9) [],.code Bl]) cs/\BX p q c p.n T/\Sk p W w/\WgLive p.ty p.Wg w/\BP p w s
section
variable {p:F5} {q:Ie} {W:World} {c:Nat} {cs:List Frame}
theorem Ae4{g:Goroutine}{w:World}(h:AnB p q W c cs g w):g.status=.running:=by
 obtain⟨T,_,U,rfl,_⟩:=h;rfl
theorem Aaz(hp:p.P=prog)(g:Goroutine)(w:World)(h:AnB p q W c cs g w):∃m,Goes p.P true (R0 p Mt) DC0 (ET p (AnB p q W c cs) (AbB p (StB p q W c cs))) m g w:=by
 obtain⟨T,hT,hA⟩:=h;have ed:((rg 9)[0]?).bind (·.dst)=some 24:=by rw[Acv.1,Option.bind_some,Acv.2.2.2.1]
 have a0:∀s w,Sk p W w->WgLive p.ty p.Wg w->BP p w s->Goes p.P true AtRel DC0 (StB p q W c cs s) 0 (G ((base 21).at ((⟨T,[]⟩:Act).put (((rg 9)[0]?).bind (·.dst)) (.tuple #[])) (.inRegion (rg 9) []::[.code Bl])) cs) w:=λs w h1 h3 h2=>Goes.stop λw₁ r=>by
  rw[ed];refine⟨T.setIfInBounds 24 (.tuple #[]),rfl,hT.keep (by simp[hT.size]) λx hx _ _=>Array.getElem?_setIfInBounds_ne oM,h1.r0 (M:=Mt) (Qp r),(Qp (p:=p) (M:=Mt) r).rk.live h3,by obtain⟨d,rfl⟩:=r;exact h2⟩
 obtain⟨m,hm⟩:=AgU (L:=Ng) (p:=p) (F:=Sk p W) (Stp:=StB p q W c cs) (b₀:=base 21) (a₀:=⟨T,[]⟩) (ops₀:=rg 9) (i₀:=0) (rest₀:=[]) (k₀:=[.code Bl]) (cs:=cs) (mT:=0) (by rw[hp];exact wgl) (λ_ _ R h=>h.r0 R) (λw a v ha h=>h.set ha v) a0 g w hA;exact⟨m,EJ (λ_ _ r=>r) (λ_ _ _ d=>d) (λ_ _ y=>ET.mono (λ_ _ z=>⟨T,hT,z⟩) y) hm⟩
theorem Walk.enter{P:Program}{main:Bool}{fr:Frame}{cs:List Frame}{ops:Array Oper}{i:Nat}{rest:List Nat}{k:List Item}{o:Oper}(h:Bg fr ops i rest k o){f:FuncId}(hx:∀w₁,(execOp fr.eval o).runT P w₁ #[]=(.ok (.enter f args) w₁,#[])):Walk P main 1 (G fr cs) (G (Frame.enter P f args .normal) (fr::cs)) :=
 .one rfl λw=>by
  rw[h.step];unfold stepG.apply;simp only[hx,h.early,h.todo,if_true,Bool.false_eq_true,if_false,GStep.after,seen_none,Array.append_empty];rfl
theorem Ae5(hp:p.P=prog)(T:Array Value)(w:World)(hT:BX p q c p.n T)(hs:Sk p W w)(hl:WgLive p.ty p.Wg w):∃m,Goes p.P true (R0 p Mt) DC0 (AK p Mt .disable (AnB p q W c cs)) m (G (sf T [.code BW]) cs) w:=by
 obtain⟨a1,a2,a4,a3,-⟩:=Acv
 have w3:Walk prog true 1 (G (sf T [.inRegion (rg 9) [0],.code Bl]) cs) _:=Walk.enter (f:=57) (args:=#[Pz p.Wg 0]) ⟨rfl,rfl,rfl,rfl,a1,a4⟩ λw₁=>by
  rw[Db,FB _ a2,Lj func57 sI sI,← Db];simp only[List.map_toArray,List.map_cons,List.map_nil];rw[show (sf T [.inRegion (rg 9) [0],.code Bl]).eval (.tmp 4)=_ from S4 hT.s4]
 have hW:=(G6 (l:=[.code BW]) 2 sI).trans w3;have hI:=AbC (L:=Ng) (p:=p) (F:=Sk p W) (b₀:=base 21) (a₀:=⟨T,[]⟩) (ops₀:=rg 9) (i₀:=0) (rest₀:=[]) (k₀:=[.code Bl]) (cs:=cs) (by rw[hp];exact wgl) (λ_ _ R h=>h.r0 R) w ⟨hs,hl⟩;refine⟨_,Walk.goes R0.tr (λ_=>⟨rfl,rfl⟩) (by rw[hp];exact hW) (m:=3) ?_⟩
 have a0:Goes p.P true (R0 p Mt) DC0 (AK p Mt .disable (VG Ng p (Sk p W) (sf T [.inRegion (rg 9) [0],.code Bl]) cs)) 3 (G (Frame.enter prog 57 #[Pz p.Wg 0] .normal) (sf T [.inRegion (rg 9) [0],.code Bl]::cs)) w :=
  Eq.mp (congrArg (λf=>Goes p.P true (R0 p Mt) DC0 (AK p Mt .disable (VG Ng p (Sk p W) (sf T [.inRegion (rg 9) [0],.code Bl]) cs)) 3 (G f (sf T [.inRegion (rg 9) [0],.code Bl]::cs)) w) sI) hI
 refine EJ (λ_ _ r=>r) (λ_ _ _ d=>d) (λg w h=>?_) a0;obtain⟨h1,g',h2,m,h3⟩:=h;exact⟨h1,g',h2,m,EJ (λ_ _ r=>r) (λ_ _ _ d=>d) (λ_ _ z=>⟨T,hT,z⟩) h3⟩
theorem Aga(g:Ns p W q){T:Array Value}{w:World}(hT:BX p q c 0 T)(hs:Sk p W w)(hl:WgLive p.ty p.Wg w):Sp p (AnB p q W c cs) p.n (G (sf T [.code S3,.inLoop S3,.inBlock 0,.code BW]) cs) w :=
 Aax g (λT w hT hs hl=>Ae5 g.P T w hT hs hl) p.n 0 T w oM hT hs hl
end
end Bd
namespace Bd
open Go.Conc
open Go.ConcN (sumTo upd sumTo_upd upd_ne upd_same Deaf_still)
section
variable {P:Program} {Shun:Loc->Prop} {B:Nat} {Post:Value->World->Prop} {gs:Array Goroutine} {a g g₂:Goroutine} {t:Trace} {V:World} {sl:Option (Nat×Nat)}
theorem LH{q:Nat->Nat}(h0:gs[0]?=some a)(hr:a.status=.running)(hL:Leavers P t gs q)(hP:Fr Shun B t)(w:World)(sl:Option (Nat×Nat)):
  ∃d sl',stepT P (crowd gs w sl)=runT P (crowd gs (w.at d) sl') 0\/
   ∃gs' t' q',runNT P 1 (crowd gs w sl) t=(.next (crowd gs' (w.at d) sl'),t')/\gs'.size=gs.size/\gs'[0]?=some a/\Leavers P t' gs' q'/\Fr Shun B t'/\sumTo gs.size q'<sumTo gs.size q:=by
 have a4:∀g∈gs,awake g:=λg hg=>by
  obtain⟨i,hi⟩:=Array.mem_iff_getElem?.1 hg;cases i with
  | zero=>rw[h0] at hi;cases hi;exact awake_of (.inl hr)
  | succ i=>exact awake_of ((hL.old (i+1) g oM hi).status.elim .inl λx=>.inr (.inr x))
 obtain⟨i,g,d,sl',hi,hg,a1⟩:=crowd_pick (P:=P) (w:=w) (sl:=sl) a4 ⟨0,a,h0,hr⟩;have a2:i<gs.size:=(D1.1 hi).1
 have a0:∀(g':Goroutine)(w':World)(j:Nat)(x:Goroutine),j≠i->((gs.map (woken P g g' w')).setIfInBounds i g')[j]?=some x->∃y,gs[j]?=some y/\x=woken P g g' w' y:=λg' w' j x hj hx=>by
  grind
 refine⟨d,sl',?_⟩;cases i with
 | zero=>exact .inl a1
 | succ i =>
  refine .inr ?_;have hq:=hL.old (i+1) g oM hi;cases hqi:q (i+1) with
  | zero=>rw[hqi] at hq;rw[hq.1] at hg;cases hg
  | succ k =>
   rw[hqi] at hq;rcases hq with⟨hf,_⟩|⟨_,g',es,hm,hstp,hq'⟩
   .simp_all
   have a5:sumTo gs.size (upd q (i+1) k)+(k+1)=sumTo gs.size q+k:=by
    have:=sumTo_upd q k id a2;simpa [hqi] using this
   refine⟨_,_,upd q (i+1) k,by simp only[runNT,a1,runT_crowd_go (P:=P) (sl:=sl') (i:=i+1) hi (show stepG P (i+1==0) g (w.at d)=_ from hstp (w.at d))];rfl,dC,?_,⟨λj x hj hx=>?_,λj hj=>?_⟩,hP.mute oM hm,oM⟩
   .rw[Array.getElem?_setIfInBounds_ne oM,Array.getElem?_map,h0];simp[woken_run hr]
   .by_cases hji:j=i+1
    .subst hji;rw[Array.getElem?_setIfInBounds_self_of_lt (by simpa using a2)] at hx;cases hx
     rw[upd_same,Deaf_own];exact hq'
    .obtain⟨y,hy,rfl⟩:=a0 g' (w.at d) j x hji hx;have a3:=hL.old j y hj hy;rw[woken_quitsD a3,upd_ne q k hji,Deaf_other t (g':=i+1) oM _ GB];exact a3
   .rw[Deaf_other t (g':=i+1) (by simp at hj;omega) _ GB];exact hL.above j (by simpa using hj)
theorem Ahq(hr:a.status=.running)(hs:∀(gs:Array Goroutine)(t:Trace)(q:Nat->Nat)(B:Nat)(d:Nat)(sl:Option (Nat×Nat)),gs[0]?=some a->Leavers P t gs q->Fr Shun B t->∃m' ops,runT P (crowd gs (V.at d) sl) 0=(.next m',ops)/\D9 P Post m' (t++ops)):
  ∀(M:Nat)(gs:Array Goroutine)(t:Trace)(q:Nat->Nat)(B:Nat)(d:Nat)(sl:Option (Nat×Nat)),sumTo gs.size q<=M->gs[0]?=some a->Leavers P t gs q->Fr Shun B t->D9 P Post (crowd gs (V.at d) sl) t:=by
 intro M;induction M with
 | zero =>
  intro gs t q B d sl hM h0 hL hF;obtain⟨d',a0,h1|⟨a2,t1,q1,_,_,_,_,_,a3⟩⟩:=LH h0 hr hL hF (V.at d) sl
  .obtain⟨m',ops,e,k⟩:=hs gs t q B d' a0 h0 hL hF;exact D9.of_run (N:=1) (t':=t++ops) (by simp only[runNT,h1];rw[show (V.at d).at d'=V.at d' from rfl,e]) k
  .omega
 | succ M ih =>
  intro gs t q B d sl hM h0 hL hF;obtain⟨d',a0,h1|⟨a2,t1,q1,r1,z1,a1,L1,P1,a3⟩⟩:=LH h0 hr hL hF (V.at d) sl
  .obtain⟨m',ops,e,k⟩:=hs gs t q B d' a0 h0 hL hF;exact D9.of_run (N:=1) (t':=t++ops) (by simp only[runNT,h1];rw[show (V.at d).at d'=V.at d' from rfl,e]) k
  .exact D9.of_run r1 (ih a2 t1 q1 B d' a0 (by rw[z1];omega) a1 L1 P1)
theorem Tg(hh:F0 P Shun gs a t)(hr:a.status=.running)(hs:∀(gs:Array Goroutine)(t:Trace)(q:Nat->Nat)(B:Nat)(d:Nat)(sl:Option (Nat×Nat)),gs[0]?=some a->Leavers P t gs q->Fr Shun B t->∃m' ops,runT P (crowd gs (V.at d) sl) 0=(.next m',ops)/\D9 P Post m' (t++ops)):D9 P Post (crowd gs V sl) t:=by
 obtain⟨q,hL⟩:=hh.leave;obtain⟨B,hF⟩:=hh.fr;exact Ahq hr hs _ gs t q B V.drawn sl (A3 _) hh.zero hL hF
theorem Gm(hh:F0 P Shun gs a t)(hr:a.status=.running)(hs:∀d,∃g' w' es B,stepG P true a (V.at d)=.go g' w' es/\(∀e∈es,EvL Shun B e)/\∀gs' sl' t',F0 P Shun gs' g' t'->D9 P Post (crowd gs' w' sl') t'):D9 P Post (crowd gs V sl) t:=by
 refine Tg hh hr λgs t q B d sl h0 hL hF=>?_;obtain⟨g',w',es,B',e,a2,kk⟩:=hs d;have a0:0<gs.size:=(D1.1 h0).1;have a1:∀e∈es,EvL Shun (max B B') e:=λe he=>by have:=a2 e he;exact⟨this.1,this.2.1,this.2.2.1,MemAct.low_mono (Nat.le_max_right _ _) this.2.2.2⟩
 refine⟨_,_,runT_crowd_go (P:=P) (sl:=sl) (i:=0) h0 (show stepG P (0==0) a (V.at d)=_ from e),kk _ _ _ ⟨by simp[a0],⟨q,⟨λj x hj hx=>?_,λj hj=>?_⟩⟩,⟨_,(hF.mono (Nat.le_max_left _ _)).own a1⟩⟩⟩
 .rw[Array.getElem?_setIfInBounds_ne oM,Array.getElem?_map] at hx;obtain⟨y,hy,rfl⟩:=B6.1 hx;have hq:=hL.old j y hj hy;rw[woken_quitsD hq,Deaf_other t (g':=0) oM _ GB];exact hq
 .rw[Deaf_other t (g':=0) (by simp at hj;omega) _ GB];exact hL.above j (by simpa using hj)
theorem Nt{q:Nat->Nat}(h0:gs[0]?=some a)(hL:Leavers P t gs q)(hF:Fr Shun B t){ops:Trace}(hg:∀op∈ops,op.g=0)(hn:∀op∈ops,op.act.touch?=none)(hm:∀op∈ops,op.act≠.mark .disable/\op.act≠.mark .enable)(g':Goroutine):F0 P Shun (gs.setIfInBounds 0 g') g' (t++ops):=by
 have a1:0<gs.size:=(D1.1 h0).1;obtain⟨B',hB,a0⟩:=Vm B ops;have hp:Past Shun B' (t++ops):=(hF.past.mono hB).app0 hg (λop hop b hb=>by rw[hn op hop] at hb;cases hb) (Deaf_still t 0 ops hm) a0;refine⟨by simp[a1],⟨q,⟨λj x hj hx=>?_,λj hj=>?_⟩⟩,⟨B',(hF.mono hB).app hp λop hop=>.inl (hg op hop)⟩⟩
 .rw[Array.getElem?_setIfInBounds_ne oM] at hx;rw[Deaf_other t (g':=0) oM _ hg];exact hL.old j x hj hx
 .rw[Deaf_other t (g':=0) (by simp at hj;omega) _ hg];exact hL.above j (by simpa using hj)
theorem Nu{q:Nat->Nat}(hL:Leavers P t gs q)(c:Nat):partners (gs.setIfInBounds 0 ph) c true=[]:=partners_nil λk y hy=>by
 rcases getElem?_stand gs 0 k y hy with⟨_,rfl⟩|⟨hne,hy⟩
 .exact offersAt_ph _ _
 .exact offersAt_of_not_blocked (by rcases (hL.old k y oM hy).status with e|e<;>rw[e]<;>simp) _ _
variable {c cap s r:Nat} {buf:Array Value} {closed tm:Bool} {z:Value} {shape:CommShape}
theorem Agb(hh:F0 P Shun gs g t)(hr:g.status=.running)(hs:∀d,stepG P true g (V.at d)=.comm g₂ #[rcase c z] true shape (V.at d) #[])(hc:V.heap[c]?=some (.chan cap buf closed s r tm))(hsome:0<buf.size)
  (kk:∀gs' sl' t' d,F0 P Shun gs' (g₂.finishComm P #[rcase c z] shape 0 (buf.getD 0 undef) true) t'->D9 P Post (crowd gs' ((V.at d).setChan c cap (buf.extract 1 buf.size) closed s (r+1) tm) sl') t'):D9 P Post (crowd gs V sl) t:=by
 refine Tg hh hr λgs t q B d sl h0 hL hF=>?_;have a0:=crowd_recv_buf (P:=P) (sl:=sl) h0 (by exact hs d) (show (V.at d).heap[c]?=_ from hc) hsome (Nu hL c);have a1:∀(fn:FuncId)(pos:String),MemOp.ofEvents 0 fn pos #[]=#[]:=λfn pos=>by rw[ofEvents_eq];simp
 rw[a1,Array.empty_append] at a0;refine⟨_,_,a0,kk _ _ _ d (Nt h0 hL hF (λop hop=>?_) (λop hop=>?_) (λop hop=>?_) _)⟩<;>(simp at hop;rcases hop with rfl|rfl<;>simp[MemAct.touch?])
theorem Ae6(hh:F0 P Shun gs g t)(hr:g.status=.running)(hs:∀d,stepG P true g (V.at d)=.comm g₂ #[rcase c z] true shape (V.at d) #[])(hc:V.heap[c]?=some (.chan cap #[] true s r tm))
  (kk:∀gs' sl' t' d,F0 P Shun gs' (g₂.finishComm P #[rcase c z] shape 0 z false) t'->D9 P Post (crowd gs' (V.at d) sl') t'):D9 P Post (crowd gs V sl) t:=by
 refine Tg hh hr λgs t q B d sl h0 hL hF=>?_;have a0:=crowd_recv_closed (P:=P) (sl:=sl) h0 (by exact hs d) (show (V.at d).heap[c]?=_ from hc) (Nu hL c);have a1:∀(fn:FuncId)(pos:String),MemOp.ofEvents 0 fn pos #[]=#[]:=λfn pos=>by rw[ofEvents_eq];simp
 rw[a1,Array.empty_append] at a0;refine⟨_,_,a0,kk _ _ _ d (Nt h0 hL hF (λop hop=>?_) (λop hop=>?_) (λop hop=>?_) _)⟩<;>(simp at hop;subst hop;simp[MemAct.touch?])
end
section
variable {p:F5} {Shun:Loc->Prop} {Post:Value->World->Prop} {Stop:(Nat->Prop)->Goroutine->World->Prop}
theorem Ae7(es:Array Event):∃B,∀e∈es,(MemAct.ofEvent e).low B:=by
 have a0:∀l:List Event,∃B,∀e∈l,(MemAct.ofEvent e).low B:=λl=>by
  induction l with
  | nil=>exact⟨0,dC⟩
  | cons x l ih =>
   obtain⟨b1,h2⟩:=ih;obtain⟨b2,h3⟩:=Ru (MemAct.ofEvent x);refine⟨max b1 b2,λe he=>?_⟩;rcases List.mem_cons.1 he with rfl|he
   .exact MemAct.low_mono (Nat.le_max_right _ _) h3
   .exact MemAct.low_mono (Nat.le_max_left _ _) (h2 e he)
 obtain⟨B,h⟩:=a0 es.toList;exact⟨B,λe he=>h e (by simpa using he)⟩
theorem FP.evl{M:Nat->Prop}{B:Nat}(h:FP p M e)(hSh:∀l,Shun l->p.Sh l)(hl:(MemAct.ofEvent e).low B):EvL Shun B e:=by
 refine⟨λx hx hs=>?_,h.2.1,h.2.2.1,hl⟩;rcases h.1 x hx with h1|⟨_,b,_,h2,_⟩
 .exact h1.2.1
 .simp_all
theorem Py(hSh:∀l,Shun l->p.Sh l):∀(T:Tr) {M:Nat->Prop} {g:Goroutine} {w:World} {gs:Array Goroutine} {sl:Option (Nat×Nat)} {t:Trace},DY p true Stop T M g w->F0 p.P Shun gs g t->
  (∀gs' M' g' w' sl' t',F0 p.P Shun gs' g' t'->Stop M' g' w'->D9 p.P Post (crowd gs' w' sl') t')->D9 p.P Post (crowd gs w sl) t
 | .leaf,M,g,w,gs,sl,t,h,hh,k=>k gs M g w sl t hh (h w (.refl w))
 | .node f,M,g,w,gs,sl,t,h,hh,k=>Gm hh h.1 λd=>by
  obtain⟨g',w',es,e,_,he,ht⟩:=h.2 (w.at d) (.at w d);obtain⟨B,hB⟩:=Ae7 es;exact⟨g',w',es,B,e,λx hx=>(he x hx).evl hSh (hB x hx),λgs' sl' t' hh'=>Py hSh (f (w.at d)) ht hh' k⟩
end
end Bd
namespace Bd
open Go.Conc Go.ConcN Go.RowKit
def Has(n:Nat)(T:Array Value)(l:List (Nat×Value)):Prop:=T.size=n/\∀p∈l,T[p.1]?=some p.2
section
variable {n:Nat} {T:Array Value} {l l':List (Nat×Value)}
theorem Has.get(h:Has n T l)(x:Nat)(v:Value)(hm:(x,v)∈l):T[x]?=some v:=h.2 _ hm
theorem Has.gi(h:Has n T l)(x:Nat){v:Value}(hm:(x,v)∈l:=by repeat first|exact List.Mem.head _|apply List.Mem.tail):T[x]?=some v:=h.2 _ hm
theorem Has.put(h:Has n T l)(d:Nat)(v:Value)(hd:d<n)(hn:∀p∈l,p.1≠d):Has n (T.setIfInBounds d v) ((d,v)::l):=by
 refine⟨by simp[h.1],λp hp=>?_⟩;rcases List.mem_cons.1 hp with rfl|hp
 .simp[h.1,hd]
 .rw[Array.getElem?_setIfInBounds_ne (Ne.symm (hn p hp))];exact h.2 p hp
theorem Has.sub(h:Has n T l)(hs:∀p∈l',p∈l):Has n T l':=⟨h.1,λp hp=>h.2 p (hs p hp)⟩
end
section
variable {P:Program} {Shun:Loc->Prop} {Post:Value->World->Prop} {gs:Array Goroutine} {t:Trace} {V V':World} {sl:Option (Nat×Nat)}
theorem E8:∀{n:Nat} {g g':Goroutine} {V:World} {gs:Array Goroutine} {t:Trace} {sl:Option (Nat×Nat)},Walk P true n g g'->F0 P Shun gs g t->(∀gs' sl' t' d,F0 P Shun gs' g' t'->D9 P Post (crowd gs' (V.at d) sl') t')->D9 P Post (crowd gs V sl) t
 | 0,g,g',V,gs,t,sl,h,hh,kk=>by cases h;exact kk gs sl t V.drawn hh
 | n+1,g,g',V,gs,t,sl,⟨h1,g1,h2,h3⟩,hh,kk=>Gm hh h1 λd=>⟨g1,V.at d,#[],0,h2 _,dC,λgs' sl' t' hh'=>E8 h3 hh' λgs'' sl'' t'' d' hh''=>kk gs'' sl'' t'' d' hh''⟩
variable {fr:Frame} {cs:List Frame} {ops:Array Oper} {i:Nat} {rest:List Nat} {k:List Item} {o:Oper}
theorem FC(h:Bg fr ops i rest k o){v:Value}(hh:F0 P Shun gs (G fr cs) t)(hx:∀d,∃es B,(execOp fr.eval o).runT P (V.at d) #[]=(.ok (.value v) (V'.at d),es)/\∀e∈es,EvL Shun B e)
  (kk:∀gs' sl' t' d,F0 P Shun gs' (G (fr.finish v) cs) t'->D9 P Post (crowd gs' (V'.at d) sl') t'):D9 P Post (crowd gs V sl) t :=
 Gm hh rfl λd=>by
  obtain⟨es,B,e1,e2⟩:=hx d;refine⟨_,V'.at d,seen P fr.fn es ++ #[],B,?_,Dg e2,λgs' sl' t' hh'=>kk gs' sl' t' d hh'⟩;rw[h.step];unfold stepG.apply;simp only[e1,h.early,if_true,Bool.false_eq_true,if_false,GStep.after];rfl
theorem Agc(h:Bg fr ops i rest k o)(hh:F0 P Shun gs (G fr cs) t)(hx:∀d,∃es B,(execOp fr.eval o).runT P (V.at d) #[]=(.ok .skip (V'.at d),es)/\∀e∈es,EvL Shun B e)
  (kk:∀gs' sl' t' d,F0 P Shun gs' (G (fr.finish undef) cs) t'->D9 P Post (crowd gs' (V'.at d) sl') t'):D9 P Post (crowd gs V sl) t :=
 Gm hh rfl λd=>by
  obtain⟨es,B,e1,e2⟩:=hx d;refine⟨_,V'.at d,seen P fr.fn es ++ #[],B,?_,Dg e2,λgs' sl' t' hh'=>kk gs' sl' t' d hh'⟩;rw[h.step];unfold stepG.apply;simp only[e1,h.early,if_true,Bool.false_eq_true,if_false,GStep.after];rfl
end
section
variable {Shun:Loc->Prop} {Post:Value->World->Prop} {gs:Array Goroutine} {t:Trace} {V V':World} {sl:Option (Nat×Nat)} {f:FuncId} {n:Nat} {T:Array Value} {cs:List Frame} {ops:Array Oper} {i:Nat} {rest:List Nat} {k:List Item} {l:List (Nat×Value)} {r:Option Nat} {ds:List Deferred} {v:Value}
theorem XS{p:Op}{d:Option Tmp}(hr:Nn r p=true)(hq:(ops[i]?.map λo=>(o.op,o.dst,o.guard))=some (p,d,none)):∃o,Bg (ff f T (.inRegion ops (i::rest)::k) r ds) ops i rest k o/\o.op=p/\o.dst=d:=by
 cases e:ops[i]? with
 | none=>rw[e] at hq;cases hq
 | some o =>
  rw[e] at hq;obtain⟨rfl,rfl,hg⟩:o.op=p/\o.dst=d/\o.guard=none:=by simpa using hq
  exact⟨o,⟨rfl,hr,rfl,rfl,e,hg⟩,rfl,rfl⟩
theorem N9(p:Op)(d:Nat)(hh:F0 prog Shun gs (G (ff f T (.inRegion ops (i::rest)::k) r ds) cs) t)(hT:Has n T l)(hx:∀o:Oper,o.op=p->∀x,∃es B,(execOp (ff f T (.inRegion ops (i::rest)::k) r ds).eval o).runT prog (V.at x) #[]=(.ok (.value v) (V'.at x),es)/\∀e∈es,EvL Shun B e)
  (kk:∀gs' sl' t' x T',F0 prog Shun gs' (G (ff f T' (.inRegion ops rest::k) r ds) cs) t'->Has n T' ((d,v)::l)->D9 prog Post (crowd gs' (V'.at x) sl') t') (hn:∀p∈l,p.1≠d:=by simp) (hd:d<n:=by decide) (hr:Nn r p=true:=by rfl) (hq:(ops[i]?.map λo=>(o.op,o.dst,o.guard))=some (p,some d,none):=by kernel_rfl):D9 prog Post (crowd gs V sl) t:=by
 obtain⟨o,h,h2,h3⟩:=XS hr hq;refine FC h hh (hx o h2) λgs' sl' t' x hh'=>?_;rw[P0 h.at_,h3] at hh';exact kk gs' sl' t' x _ hh' (hT.put d v hd hn)
theorem F4(p:Op)(d:Nat)(hh:F0 prog Shun gs (G (ff f T (.inRegion ops (i::rest)::k) r ds) cs) t)(hT:Has n T l)(hx:∀o:Oper,o.op=p->∀x,(execOp (ff f T (.inRegion ops (i::rest)::k) r ds).eval o).runT prog x #[]=(.ok (.value v) x,#[]))
  (kk:∀gs' sl' t' x T',F0 prog Shun gs' (G (ff f T' (.inRegion ops rest::k) r ds) cs) t'->Has n T' ((d,v)::l)->D9 prog Post (crowd gs' (V.at x) sl') t') (hn:∀p∈l,p.1≠d:=by simp) (hd:d<n:=by decide) (hr:Nn r p=true:=by rfl) (hq:(ops[i]?.map λo=>(o.op,o.dst,o.guard))=some (p,some d,none):=by kernel_rfl):D9 prog Post (crowd gs V sl) t :=
 N9 p d hh hT (λo e x=>⟨#[],0,hx o e _,dC⟩) kk hn hd hr hq
theorem Agd(p:Op)(hh:F0 prog Shun gs (G (ff f T (.inRegion ops (i::rest)::k) r ds) cs) t)(hx:∀o:Oper,o.op=p->∀x,∃es B,(execOp (ff f T (.inRegion ops (i::rest)::k) r ds).eval o).runT prog (V.at x) #[]=(.ok (.value v) (V'.at x),es)/\∀e∈es,EvL Shun B e)
  (kk:∀gs' sl' t' x,F0 prog Shun gs' (G (ff f T (.inRegion ops rest::k) r ds) cs) t'->D9 prog Post (crowd gs' (V'.at x) sl') t') (hr:Nn r p=true:=by rfl) (hq:(ops[i]?.map λo=>(o.op,o.dst,o.guard))=some (p,none,none):=by kernel_rfl):D9 prog Post (crowd gs V sl) t:=by
 obtain⟨o,h,h2,h3⟩:=XS hr hq;refine FC h hh (hx o h2) λgs' sl' t' x hh'=>?_;rw[P0 h.at_,h3] at hh';exact kk gs' sl' t' x hh'
theorem FD(p:Op)(hh:F0 prog Shun gs (G (ff f T (.inRegion ops (i::rest)::k) r ds) cs) t)(hx:∀o:Oper,o.op=p->∀x,∃es B,(execOp (ff f T (.inRegion ops (i::rest)::k) r ds).eval o).runT prog (V.at x) #[]=(.ok (.skip) (V'.at x),es)/\∀e∈es,EvL Shun B e)
  (kk:∀gs' sl' t' x,F0 prog Shun gs' (G (ff f T (.inRegion ops rest::k) r ds) cs) t'->D9 prog Post (crowd gs' (V'.at x) sl') t') (hr:Nn r p=true:=by rfl) (hq:(ops[i]?.map λo=>(o.op,o.dst,o.guard))=some (p,none,none):=by kernel_rfl):D9 prog Post (crowd gs V sl) t:=by
 obtain⟨o,h,h2,h3⟩:=XS hr hq;refine Agc h hh (hx o h2) λgs' sl' t' x hh'=>?_;rw[P0 h.at_,h3] at hh';exact kk gs' sl' t' x hh'
theorem Has.ei(h:Has n T l)(x:Nat)(hm:(x,v)∈l:=by repeat first|exact List.Mem.head _|apply List.Mem.tail):(ff f T k r ds).eval (.tmp x)=v:=S4 (h.get x v hm)
end
theorem N7{Shun:Loc->Prop}{a:Addr}(hs:¬Shun (.cell a)):EvL Shun (a.block+1) ⟨.cell a,wr,false⟩:=by
 refine⟨λx hx h=>?_,dC,dC,Nat.lt_succ_self _⟩;simp only[MemAct.ofEvent,MemAct.touch?,Option.some.injEq] at hx;subst hx;exact absurd h hs
theorem KD:prog.underlying 87=some (.chan .both 102):=sI
theorem Ae8:(prog.info? 102).map (·.bytes)=some 24:=sI
section
variable (f:Operand->Value) {o:Oper} {x y:Operand} (w:World)
theorem Qw(hop:o.op=.fieldAddr 38 x 3)(hx:f x=Pz H 0):(execOp f o).runT prog w #[]=(.ok (.value (Pz H 4)) w,#[]):=by
 unfold execOp;rw[hop];simp only[hx];exact I9 sI
theorem Age(hop:o.op=.makeChan 87 x){n:Nat}(hx:f x=.int .i64 (n:Int))(hn:n<=1048576):(execOp f o).runT prog w #[]=(.ok (.value (.chan (some w.heap.size))) (D6 w (.chan n #[] false 0 0 false)),#[]):=by
 unfold execOp;rw[hop];simp only[hx];obtain⟨a0,hi,hb⟩:=B6.1 Ae8;refine I9 ?_;rw[Sem.runT_eq,run_makeChan KD hi .i64 n oM (by rw[hb];omega),events_makeChan KD hi .i64 n oM (by rw[hb];omega)];rfl
theorem Agf(hop:o.op=.alloc 87):(execOp f o).runT prog w #[]=(.ok (.value (Pz w.heap.size 0)) (D6 w (Kz [.chan none] 87)),#[]):=by
 unfold execOp;rw[hop];exact I9 sI
theorem Agg(hop:o.op=.alloc 97):(execOp f o).runT prog w #[]=(.ok (.value (Pz w.heap.size 0)) (D6 w (Kz [.int .u64 0,.int .u32 0] 97)),#[]):=by
 unfold execOp;rw[hop];exact I9 sI
end
end Bd
section
open Go.RowKit
def Ov(ss:List BA)(s:BA):Nat:=(ss.takeWhile λx=>U1 x s).length
def Fm(ss:List BA)(s:BA)(i:Nat):Prop:=∀(k:Nat)(x:BA),k<i->ss[k]?=some x->U1 x s=true
def Dh(ss:List BA)(s:BA)(j:Nat):Prop:=∀(k:Nat)(x:BA),j<=k->ss[k]?=some x->U1 x s=false
theorem VX{s:BA}{i:Nat}(hi:i<=ss.length)(hl:Fm ss s i)(hh:Dh ss s i):Ov ss s=i :=
 Aak _ _ _ hi hl (λx hx=>hh i x (A3 _) hx)
theorem Acm{s:BA}{i:Nat}(ha:Y4 ss)(_:Fm ss s i)(hh:h<ss.length)(hs:U1 ss[h] s=true):Fm ss s (h+1):=λk x hk hx=>by
 by_cases e:k=h
 .subst e;rw[A0 hh] at hx;obtain rfl:=A5 hx;exact hs
 .exact GC (DF ha (h-k-1) k x _ hx (by rw[show k+1+(h-k-1)=h by omega];exact A0 hh)) hs
theorem Aap{s:BA}(ha:Y4 ss)(hh:h<ss.length)(hs:U1 ss[h] s=false):Dh ss s h:=λk x hk hx=>by
 by_cases e:k=h
 .subst e;rw[A0 hh] at hx;obtain rfl:=A5 hx;exact hs
 .cases hq:U1 x s
  .rfl
  .have:=GC (DF ha (k-h-1) h _ x (A0 hh) (by rw[show h+1+(k-h-1)=k by omega];exact hx)) hq;rw[hs] at this;cases this
theorem Ae1{s:BA}{i:Nat}(hl:Fm ss s i)(hh:Dh ss s i)(ha:Y4 ss)(hi:i<ss.length):E1 ss s=((ss[i]).toList==s.toList):=by
 cases hq:((ss[i]).toList==s.toList)
 .rw[Cr];intro hm;obtain⟨k,hk,rfl⟩:=B7 hm;rcases Nat.lt_trichotomy k i with h1|h1|h1
  .have:=hl k _ h1 (A0 hk);rw[Cu] at this;cases this
  .subst h1;simp at hq
  .have h2:=DF ha (k-i-1) i _ _ (A0 hi) (by rw[show i+1+(k-i-1)=k by omega];exact A0 hk);have h3:=hh i _ (A3 _) (A0 hi);rw[h2] at h3;cases h3
 .exact Ji hi hq
theorem Acn{s:BA}{i:Nat}(hl:Fm ss s i)(hi:¬i<ss.length):E1 ss s=false:=by
 rw[Cr];intro hm;obtain⟨k,hk,rfl⟩:=B7 hm;have:=hl k _ oM (A0 hk);rw[Cu] at this;cases this
theorem Aaq(s:BA)(w:World):cE prog 200 #[Tz s] w (.bool false):=by
 delta cE;go_in;go_wp2;go_ret;exact⟨rfl,rfl⟩
theorem XJ(s:BA)(w:World):cE prog 214 #[Tz s] w (.bool false):=by
 delta cE;go_in;go_wp2;go_ret;exact⟨rfl,rfl⟩
theorem Uv(a b:BA)(w:World):cE prog 176 #[Tz a,Tz b] w (.bool (U1 a b)):=by
 have Hl:Hid (U1 a b=Op.bytesLess a.toList b.toList):=rfl;delta cE;go_in;go_wp2_with (go_at_call 214;refine Swz (XJ _ _) ?_)
 go_ret;exact⟨D4 Hl.out.symm,rfl⟩
theorem Mj{i:Nat}{a b:Bool}(h1:i=j)(h2:a=b):Ending.returned (.tuple #[Iz (i:Int),.bool a])=.returned (.tuple #[Iz (j:Int),.bool b]):=by rw[h1,h2]
theorem Uw(ss:List BA)(v:Value)(s:BA)(w:World)(h:Ls w v ss)(ha:Y4 ss)(hn:ss.length<=1000):
  cE prog 152 #[v,Tz s] w (.tuple #[Iz (Ov ss s:Int),.bool (E1 ss s)]):=by
 obtain⟨a,c,rfl,-,-,a0⟩:=h;have Ha:Hid (Y4 ss):=ha;clear ha;delta cE;go_in;go_wp2_with fail;(try dsimp only[Iz,Sy,Sx,Nz,Vz,Tz,Ez,Pz]);go_loopw [7,8,9] (λvi vj _ w'=>∃i j:Nat,i<=j/\j<=ss.length/\vi=.int .i64 i/\vj=.int .i64 j/\Fm ss s i/\Dh ss s j/\w'=w) (λvi vj _ _=>(intOf vj).toNat-(intOf vi).toNat)
 case atStart=>exact⟨0,ss.length,oM,oM,rfl,rfl,λk x hk=>oM,λk x hk hx=>by have:=(A2.1 hx).1;omega,rfl⟩
 case round =>
  obtain⟨i,j,a7,a4,rfl,rfl,a1,a2,hw⟩:=hrel;obtain rfl:=hw.symm;clear hw;have HL:Hid (Fm ss s i):=a1;have HH:Hid (Dh ss s j):=a2;clear a1 a2;by_cases hp:i<j
  .have a5:(i:Int)<(j:Int):=oM
   obtain⟨b,o,rfl,hS,hb⟩:=a0 oM;have hm:(i+j) / 2<ss.length:=oM
   have c0:=hS.cell hm;have HY:Hid (U1 ss[(i+j) / 2] s=true->Fm ss s ((i+j) / 2+1)):=λhq=>Acm Ha.out HL.out hm hq;have HN:Hid (U1 ss[(i+j) / 2] s=false->Dh ss s ((i+j) / 2)):=λhq=>Aap Ha.out hm hq;generalize ss[(i+j) / 2]=s0 at *;obtain⟨m,a3,a8,a9⟩:∃m:Nat,(i+j) / 2=m/\i<=m/\m<j:=⟨_,rfl,oM,oM⟩;rw[a3] at c0 HY HN;have hI:((i:Int)+(j:Int)) / 2=(m:Int):=oM
   have b0:m<ss.length:=oM
   go_upto_region 5 with fail;try rw[hI]
   clear hI a3 hm;go_wp2_with fail;refine Swz (Uv s0 s _) ?_;cases hq:U1 s0 s
   .have Hq:Hid (Dh ss s m):=HN.out hq;go_wp2_with fail;go_roundw
    case rel=>exact⟨i,m,oM,oM,rfl,rfl,HL.out,Hq.out,by first|rfl|trivial⟩
    case measure=>simp[intOf];omega
   .have Hq:Hid (Fm ss s (m+1)):=HY.out hq;go_wp2_with fail;go_roundw
    case rel=>exact⟨m+1,j,oM,oM,mO,rfl,Hq.out,HH.out,by first|rfl|trivial⟩
    case measure=>simp[intOf];omega
  .obtain rfl:i=j:=oM
   have a5:¬(i:Int)<(i:Int):=oM
   have HI:Hid (Ov ss s=i):=VX a4 HL.out HH.out;by_cases he:i<ss.length
   .have a6:(i:Int)<(ss.length:Int):=oM
    obtain⟨b,o,rfl,hS,hb⟩:=a0 oM;have c0:=hS.cell he;have HM:Hid (E1 ss s=((ss[i]).toList==s.toList)):=Ae1 HL.out HH.out Ha.out he;generalize ss[i]=s0 at *;cases hq:(s0.toList==s.toList)
    .have Hm:Hid (E1 ss s=false):=by show _=_;rw[HM.out,hq]
     go_wp2_with (go_at_call 200;refine Swz (Aaq _ _) ?_)
     go_returns
     exact⟨Mj HI.out.symm Hm.out.symm,rfl⟩
    .have Hm:Hid (E1 ss s=true):=by show _=_;rw[HM.out,hq]
     go_wp2_with fail;go_returns
     exact⟨Mj HI.out.symm Hm.out.symm,rfl⟩
   .have a6:¬(i:Int)<(ss.length:Int):=oM
    have Hm:Hid (E1 ss s=false):=Acn HL.out he;go_wp2_with fail;go_returns
    exact⟨Mj HI.out.symm Hm.out.symm,rfl⟩
theorem Aco(b:Bk)(v:Value)(nm:BA)(w:World)(h:Z5 w v b)(hok:J3 b):
  cU prog 108 #[v,Tz nm] w (.tuple #[Iz (Ov (G9 b.bs) nm:Int),.bool (E1 (G9 b.bs) nm)]):=by
 obtain⟨a1,c1,a2,c2,rfl,-,h2⟩:=h.parts;obtain⟨W1,a0,kA,a3,a4⟩:=cbE1 w [Vz a1 (b).tg.length c1,Vz a2 (b).bs.length c2] 34;have a7:b.bs.length<=5:=hok.2.1;have Ha:Hid (Y4 (G9 b.bs)):=hok.2.2.2.1;delta cU;go_in;go_upto_region 1 with fail;try rw[a0]
 clear a0 a4;obtain⟨e0,e1⟩:=kA.c2';go_wp2_with fail;refine (Cx b.bs _ _ (h2.up a3) oM).mono ?_;rintro e w2 ⟨⟨u,rfl,-,hl⟩,a6⟩;obtain⟨ax,cx,rfl,-⟩:=id hl;have a5:=D3 a3 a6;clear e0 e1;go_wp2_with fail;refine (Uw (G9 b.bs) _ nm _ hl Ha.out (by rw[K0];omega)).mono ?_;rintro e w3 ⟨rfl,hw⟩;obtain rfl:=hw.symm;go_wp2_with fail;go_returns
 exact⟨rfl,a5⟩
end
section
open Go.Conc
def fsW:List Nat:=[6,8,16,17,18,24,25,26,39,40,41,42,61,62,63,64,77,78,79,80,84,90,116,117,118,129,130,131,144,145,156,157,168,169,191,202,203,204,206,207,208,223,224,231,232]
theorem Acp:I6 prog (Ci fsW):=LV sI
end
section
open Go.RowKit
def Y8(w:World)(base:Nat)(v:Value)(ss:List BA):Prop:=∃b,v=.slice (some ⟨b,0,none⟩) ss.length ss.length/\G0 w b 0 ss/\P7 w b 0 ss.length/\base<=b/\b<w.heap.size/\ss.length<=maxLen/\∀s∈ss,s.size<=maxLen
theorem Y8.ls{w:World}{base:Nat}{v:Value}(h:Y8 w base v ss):Ls w v ss:=by
 obtain⟨b,rfl,h1,-,-,h2,h3,h4⟩:=h;exact⟨_,_,rfl,h3,h4,λ_=>⟨b,0,rfl,h1,h2⟩⟩
theorem Y8.up{w:World}{base:Nat}{v:Value}(h:Y8 w base v ss)(hb:Up w w'):Y8 w' base v ss:=by
 obtain⟨b,rfl,h1,ht,h0,h2,h3⟩:=h;exact⟨b,rfl,h1.up hb h2,P8 ht hb h2,h0,A1 h2 hb.size,h3⟩
theorem Y8.kept{w:World}{base r:Nat}{v:Value}(h:Y8 w base v ss)(hg:w.grownBy w' (some r))(hr:r<base):Y8 w' base v ss:=by
 obtain⟨b,rfl,h1,ht,h0,h2,h3⟩:=h;exact⟨b,rfl,λi s hs=>hg.cell (h1 i s hs) gG,Sd ht hg h2 gG,h0,A1 h2 hg.size,h3⟩
theorem Y8.low{w:World}{base base':Nat}{v:Value}(h:Y8 w base v ss)(hb:base'<=base):Y8 w base' v ss:=by
 obtain⟨b,rfl,h1,ht,h0,h2⟩:=h;exact⟨b,rfl,h1,ht,oM,h2⟩
def MY(w:World)(b o:Nat)(x:Ba):Prop:=∃hv nv,w.rangeAt b o [.string x.nm,hv,nv]/\Y8 w (b+1) hv x.has/\Y8 w (b+1) nv x.nj/\x.nm.size<=maxLen
theorem MY.up{w:World}{b o:Nat}{x:Ba}(h:MY w b o x)(hb:Up w w')(hlt:b<w.heap.size):MY w' b o x:=by
 obtain⟨hv,nv,hr,h1,h2,h3⟩:=h;exact⟨hv,nv,λj v hv=>(hb.cell (p:=⟨b,o+j,none⟩) hlt).trans (hr j v hv),h1.up hb,h2.up hb,h3⟩
theorem MY.at{w:World}{b o:Nat}{x:Ba}(h:MY w b o x):GV w b o x:=by
 obtain⟨hv,nv,hr,h1,h2,h3⟩:=h;exact⟨hv,nv,hr,h1.ls,h2.ls,h3⟩
def DI(w:World)(b:Nat)(bs:List Ba):Prop:=∀(i:Nat)(x:Ba),bs[i]?=some x->MY w b (i*3) x
theorem DI.up{w:World}{b:Nat}{bs:List Ba}(h:DI w b bs)(hb:Up w w')(hlt:b<w.heap.size):DI w' b bs:=λi x hx=>(h i x hx).up hb hlt
theorem ZA{b k:Nat}{bs:List Ba}(hk:k<bs.length)(h:DI w1 b (bs.take k))(ht:P7 w1 b 0 (bs.length*3))(h1:Y8 w1 (b+1) hv (bs[k]).has)(h2:Y8 w1 (b+1) nv (bs[k]).nj)(h3:(bs[k]).nm.size<=maxLen):
  DI (w1.setCells b (k*3) [Tz (bs[k]).nm,hv,nv]) b (bs.take (k+1)):=by
 have hg:w1.grownBy (w1.setCells b (k*3) [Tz (bs[k]).nm,hv,nv]) (some b):=JX b _ _ w1 w1 (some b) (World.grownBy.refl' w1) rfl;intro i p hp;by_cases hi:i<k
 .obtain⟨a0,a1,hr,g1,g2,g3⟩:=h i p (by rw[List.getElem?_take] at hp ⊢;rw[if_pos oM] at hp;rw[if_pos hi];exact hp);refine⟨a0,a1,World.rangeAt_setCells_apart hr b (k*3) _ (.inr (.inl ?_)),g1.kept hg oM,g2.kept hg oM,g3⟩;simp;omega
 .have a2:i=k:=by
   grind
  subst a2;rw[List.getElem?_take,if_pos oM,A0 hk] at hp;obtain rfl:=A5 hp;refine⟨hv,nv,World.rangeAt_setCells_same _ _ _ _ (λj hj=>?_),h1.kept hg oM,h2.kept hg oM,h3⟩;have:=ht.1 (i*3+j) (by simp at hj;omega);simpa using this
def Ea(w:World)(base:Nat)(v:Value)(bs:List Ba):Prop:=∃b,v=.slice (some ⟨b,0,none⟩) bs.length bs.length/\DI w b bs/\P7 w b 0 (bs.length*3)/\base<=b/\b<w.heap.size/\bs.length<=maxLen
theorem Ea.bs{w:World}{base:Nat}{v:Value}{bs:List Ba}(h:Ea w base v bs):Bs w v bs:=by
 obtain⟨b,rfl,h1,-,-,h2,h3⟩:=h;exact⟨_,_,rfl,h3,λ_=>⟨b,0,rfl,λi x hx=>by rw[Nat.zero_add];exact (h1 i x hx).at,h2⟩⟩
theorem Ea.up{w:World}{base:Nat}{v:Value}{bs:List Ba}(h:Ea w base v bs)(hb:Up w w'):Ea w' base v bs:=by
 obtain⟨b,rfl,h1,ht,h0,h2,h3⟩:=h;exact⟨b,rfl,h1.up hb h2,P8 ht hb h2,h0,A1 h2 hb.size,h3⟩
def BkO(w:World)(base:Nat)(v:Value)(b:Bk):Prop:=∃tv bv mid,v=.agg #[tv,bv]/\Y8 w base tv b.tg/\Ea w mid bv b.bs/\base<=mid/\∀g,tv.ownBlock=some g->g<mid
end
end Go.Proofs.YtaffjphkobhagaaGreatDoor
