/- Before anything goes: operations; what is known of a world that only grows. -/
import Derived.Test.YtaffjphkobhagaaGreatDoorJ39
import Derived.Test.YtaffjphkobhagaaGreatDoorV7
import Derived.Test.YtaffjphkobhagaaGreatDoorJ42
import Derived.Test.YtaffjphkobhagaaGreatDoorSrf0
import Derived.Test.YtaffjphkobhagaaGreatDoorJ45
import Derived.Lib.ItoaLen
import Derived.Stop.LaidErr
set_option maxRecDepth 20000
set_option maxHeartbeats 4000000
namespace Go.Proofs.YtaffjphkobhagaaGreatDoor
open Proofs.Tryz
variable{ops:Array Oper}{xs:Array Operand}{ats:Array TypeId}{args hc:Array Value}{held:Bool}{nm s:BA}{j:Code}{e:Event}{fn:Func}{ss ws:List BA}{zs:List Int}{k0:List Item}{done q:List Nat}{ps:List Ph}{vs:List Value}{B H Hb fuel i n:Nat}{sp:Nat->Bool}{ob:Obj}{m:Option Addr}{r:Option Nat}{t0 ty:TypeId}{rv sv v v0:Value}{R:Value->World->Prop}{u:World}
namespace Bd
open Go.Conc Go.ConcN Go.RowKit Go.Conc.Lib Go.ConcR.Gen Go.ConcN.Gen
open Ld (I8 none_ tp)
theorem Ago{w:World}{x:Rb}(h:CU w x rv sv)(τ)(d):CU (tp w τ d) x rv sv:=⟨h.r,h.s,h.zp,h.zs,h.zn,h.np,h.ns⟩
theorem Ads{w:World}{h:House}{tv bv xv dv:Value}(H:HV w h tv bv xv dv)(τ:Nat->Question->Nat)(d:Nat):HV (tp w τ d) h tv bv xv dv:=by
 refine⟨H.t,H.b,?_,H.d⟩;obtain⟨a,c,e,h1,h2⟩:=H.x;refine⟨a,c,e,h1,λhp=>?_⟩;obtain⟨b,o,e1,h3,h4⟩:=h2 hp;exact⟨b,o,e1,λi x hx=>let ⟨rv,sv,q1,q2⟩:=h3 i x hx;⟨rv,sv,q1,Ago q2 τ d⟩,h4⟩
structure Lw (W V:World):Prop where
 nv:NV V
 up:Below W.heap.size (z W) (z V)
section
variable {W V w:World}
theorem Lw.refl(h:NV W):Lw W W:=⟨h,A4 _ _⟩
theorem Lw.at(h:Lw W V)(d):Lw W (V.at d):=⟨h.nv,h.up⟩
theorem Lw.push(h:Lw W V)(np:∀c t,ob≠.pending c t):Lw W (D6 V ob):=by
 refine⟨h.nv.push np,{os:=h.up.os,tape:=rfl,output:=h.up.output,size:=B4 h.up.size (by show V.heap.size<=(V.heap.push ob).size;simp),block:=λb hb=>?_}⟩;show (V.heap.push ob)[b]?=_
 have h2:b<V.heap.size:=A1 hb h.up.size;rw[Array.getElem?_push_lt h2,← Array.getElem?_eq_getElem];exact h.up.block b hb
theorem Lw.call(h:Lw W V)(hn:NV w)(hb:Below V.heap.size (z V) (z w)):Lw W w:=⟨hn,h.up.trans (hb.mono h.up.size)⟩
theorem Lw.bl(h:Lw W V)(τ:Nat->Question->Nat)(d:Nat):Below W.heap.size (tp W τ d) (tp V τ d):={os:=h.up.os,tape:=rfl,output:=h.up.output,size:=h.up.size,block:=h.up.block}
theorem Lw.sz(h:Lw W V):W.heap.size<=V.heap.size:=h.up.size
theorem Lw.hv{h:House}{tv bv xv dv:Value}(k:Lw W V)(H:HV (z W) h tv bv xv dv)(τ)(d):HV (tp V τ d) h tv bv xv dv:=Ads (H.up k.up) τ d
theorem Lw.ends(k:Lw W V)(hE:F6 (z W))(τ:Nat->Question->Nat)(d:Nat):F6 (tp V τ d):=(show F6 (z V) from hE.up k.up)
theorem AE{b:Nat}(h:Below V.heap.size (z V) (z w))(hb:b<V.heap.size):w.heap[b]?=V.heap[b]?:=h.block b hb
end
section
variable (f:Operand->Value) {o:Oper} {x y:Operand} (w:World)
theorem Ah4{t:TypeId}{ds:TypeDesc}{inf:TypeInfo}(hu:prog.underlying t=some ds)(hd:Bh ds=true)(hi:prog.info? t=some inf)(hs:inf.size=vs.length)(hop:o.op=.load t x){a:Addr}(hx:f x=.pointer (some a))(hc:∀j v,vs[j]?=some v->w.cell? (a.add j)=some v):∃es,(execOp f o).runT prog w #[]=(.ok (.value (.agg vs.toArray)) w,es)/\∀e∈es,∃j,e=⟨.cell (a.add j),false,false⟩:=by
 obtain⟨a0,e1,e2⟩:=Aaa hu hd hi hs hc #[];refine⟨a0,?_,λe he=>(e2 e he).elim (λh=>by simp at h) id⟩;unfold execOp;simp_all
theorem Yc{t:TypeId}(hop:o.op=.unOp .not t x){b:Bool}(hx:f x=.bool b):(execOp f o).runT prog w #[]=(.ok (.value (.bool !b)) w,#[]):=by
 unfold execOp;rw[hop];simp[hx];rfl
theorem Ah5{g:FuncId}(hop:o.op=.call {callee:=.value x,args:=xs,argTypes:=ats})(hx:f x=.func (.func g) #[] #[])(hv:xs.map f=args)(hf:prog.funcs[g]?=some fn)(hb:fn.body.isNone=false)(hn:(fn.name == "runtime.NumGoroutine")=false):(execOp f o).runT prog w #[]=(.ok (.enter g args) w,#[]):=by
 have e2:execOp f o=callFunc g (xs.map f):=by
  unfold execOp;rw[hop]
  simp[resolve,hx];show callFunc g _=_
  simp
 rw[e2,hv];exact Lj hf hb hn args w #[]
end
theorem Aiu{a:Addr}(h:∃j,e=⟨.cell (a.add j),false,false⟩):EvL none_ (a.block+1) e:=by
 obtain⟨j,rfl⟩:=h;have:=N7 (Shun:=none_) (a:=a.add j) (wr:=false) id;rwa [BF] at this
theorem AeO:∃ds,prog.underlying 38=some ds/\Bh ds=true:=by
 obtain⟨ds,h1,h2⟩:=B6.1 (show (prog.underlying 38).map Bh=some true by kernel_rfl);exact⟨ds,h1,h2⟩
theorem Agp:∃ds,prog.underlying 34=some ds/\Bh ds=true:=by
 obtain⟨ds,h1,h2⟩:=B6.1 (show (prog.underlying 34).map Bh=some true by kernel_rfl);exact⟨ds,h1,h2⟩
theorem Wc:(prog.info? 38).map (·.size)=some 6:=sI
theorem Agq:(prog.info? 34).map (·.size)=some 2:=sI
theorem Yd(f:Operand->Value){o:Oper}{x:Operand}(w:World){t:TypeId}(hu:∃ds,prog.underlying t=some ds/\Bh ds=true)(hz:(prog.info? t).map (·.size)=some n)(hop:o.op=.load t x){off:Nat}{c:Array Value}{fz:Nat×Nat}(hx:f x=Pz B off)(hB:w.heap[B]?=some (.cells c t0 fz))(hl:vs.length=n)(hv:∀(j:Nat) v,vs[j]?=some v->c[off+j]?=some v):∃es B,(execOp f o).runT prog w #[]=(.ok (.value (.agg vs.toArray)) w,es)/\∀e∈es,EvL none_ B e:=by
 obtain⟨ds,h1,h2⟩:=hu;obtain⟨a0,hi,hs⟩:=B6.1 hz;obtain⟨es,e1,e2⟩:=Ah4 f w h1 h2 hi (by rw[hs,hl]) hop hx (λj v hj=>by rw[IJ];simp[World.cell?,hB,hv j v hj]);exact⟨es,_,e1,λe he=>Aiu (e2 e he)⟩
theorem CD(y:TypeId)(x d:Nat){Post:Value->World->Prop}{gs:Array Goroutine}{t:Trace}{V:World}{sl:Option (Nat×Nat)}{f:FuncId}{T:Array Value}{cs:List Frame}{rest:List Nat}{k:List Item}{l:List (Nat×Value)}{c:List Value}{fz:Nat×Nat}(hh:F0 prog none_ gs (G (ff f T (.inRegion ops (i::rest)::k)) cs) t)(hT:Has n T l)(hB:V.heap[B]?=some (.cells c.toArray t0 fz))
  (kk:∀gs' sl' t' x T',F0 prog none_ gs' (G (ff f T' (.inRegion ops rest::k)) cs) t'->Has n T' ((d,.agg c.toArray)::l)->D9 prog Post (crowd gs' (V.at x) sl') t') (hm:(x,Pz B 0)∈l:=by repeat first|exact List.Mem.head _|apply List.Mem.tail) (hu:(prog.underlying y).map Bh=some true:=by kernel_rfl) (hz:(prog.info? y).map (·.size)=some c.length:=by kernel_rfl) (hn:∀p∈l,p.1≠d:=by simp) (hd:d<n:=by decide) (hq:(ops[i]?.map λo=>(o.op,o.dst,o.guard))=some (.load y (.tmp x),some d,none):=by kernel_rfl):D9 prog Post (crowd gs V sl) t :=
 N9 _ d hh hT (λ_ e w=>Yd _ _ (let ⟨ds,h1,h2⟩:=B6.1 hu;⟨ds,h1,h2⟩) hz e (hT.ei x hm) hB rfl λj v hj=>by simpa using hj) kk hn hd rfl hq
end Bd
namespace Bd
open Go.Conc Go.ConcN Go.RowKit
open Ld (I8 none_ tp)
theorem TcX(k:List Item)(c:Frame)(cs:List Frame){w:World}{T:Array Value}{q o:Tmp}{t u:TypeId}{r s:Addr}{x y:Value}(hr:f132.results=#[.cell q t,.cell o u])
  (ht:T.getD q undef=.pointer (some r))(hu:T.getD o undef=.pointer (some s))(hL:(loadVar t r).run prog w=.ok x w)(hE:∀es,(loadVar t r).events prog w es=es.push ⟨.cell r,false,false⟩)(hM:(loadVar u s).run prog w=.ok y w)(hF:∀es,(loadVar u s).events prog w es=es.push ⟨.cell s,false,false⟩):
  ∃es,stepG prog true (G {(base 132).at ⟨T,[]⟩ (.code .ret::k) with mode:=.returning} (c::cs)) w=.go (G (c.finish (.tuple #[x,y])) cs) w es/\∀e∈es,e=⟨.cell r,false,false⟩\/e=⟨.cell s,false,false⟩:=by
 have h:(results f132 T).runT prog w #[]=(.ok (.tuple #[x,y]) w,#[⟨.cell r,false,false⟩,⟨.cell s,false,false⟩]):=by
  have ha(r):(asAddr (.pointer (some r))).run prog w=.ok r w:=by simp[go_sem]
  have hb(r es):(asAddr (.pointer (some r))).events prog w es=es:=by simp[go_sem]
  simp only[results,hr];simp_all
 refine⟨seen prog 132 #[⟨.cell r,false,false⟩,⟨.cell s,false,false⟩],?_,λe he=>?_⟩
 .simp only[G,stepG,unwind,doReturn,Frame.at,base,func132,h,GStep.after]
  simp
 .have:=mem_seen he
  simpa using this
section
variable {Post:Value->World->Prop} {gs:Array Goroutine} {t:Trace} {V V':World} {sl:Option (Nat×Nat)} {g g':Goroutine} {l:Nat}
theorem JI(hh:F0 prog none_ gs g t)(hs:∀d,∃es,stepG prog true g (V.at d)=.go g' (V'.at d) es/\DG l es)(kk:∀gs' sl' t' d,F0 prog none_ gs' g' t'->D9 prog Post (crowd gs' (V'.at d) sl') t')(hr:g.status=.running:=by rfl):D9 prog Post (crowd gs V sl) t :=
 Gm hh hr λd=>let ⟨es,h1,h2⟩:=hs d;⟨g',V'.at d,es,l+1,h1,λe he=>by
  have:=h2 e he;obtain⟨lo,wr,sy⟩:=e;subst this;exact⟨λ_ _ h=>h.elim,dC,dC,by cases wr<;>cases sy<;>exact Nat.lt_succ_self _⟩,λgs' sl' t' hh'=>kk gs' sl' t' d hh'⟩
end
section
variable {P:Program} {main:Bool} {b:Frame} {a:Act} {k:List Item} {cs:List Frame} {w:World} {l:Nat}
theorem AeQ(hb:b.roundOf=some l)(hk:b.kind=.normal){r:Loop}(h:w.heap[l]?=some (.loop r)){c:Frame}:
  ∃es,stepG P main (G (b.atR a (.code .ret::k)) (c::cs)) w=.go (G (c.finish (.bool false)) cs) (w.putObj l (.loop {r with state:=.done,pending:=some .ret})) es/\DG l es:=by
 have a0:=run_endRound (P:=P) (some .ret) h;refine⟨seen P b.fn ((Instr.endRound l (some .ret)).events P w #[]),?_,Ck (FV (Vu _) w)⟩;simp[G,stepG,stepG.exec,Frame.atR,hb,hk,a0,GStep.after,doReturn]
theorem Aa8{r:Loop}(h:w.heap[l]?=some (.loop r))(hr:r.state≠.busy)(hp:r.pending=some j):
  ∃es,stepG P main (G (b.at a (.endRangeFunc l::k)) cs) w=.go (G (b.at a (.code j::k)) cs) (w.putObj l (.loop {r with state:=.exhausted})) es/\DG l es:=by
 have a0:=run_endLoop (P:=P) h hr;refine⟨seen P b.fn ((Instr.endLoop l).events P w #[]),?_,Ck (FV RL w)⟩;simp[G,stepG,stepG.exec,Frame.at,a0,hp,GStep.after]
end
theorem Ac9{V:World}{l:Nat}{o o':Obj}(h:V.heap[l]?=some o):(V.putObj l o').putObj l o=V:=by
 have e:((V.heap.setIfInBounds l o').setIfInBounds l o)=V.heap:=by
  grind
 show {V with heap:=_}=V
 rw[World.putObj,e]
theorem Lw.turn{W V V':World}(h:Lw W V)(hp:∀(b:Nat) c t,V'.heap[b]?=some (Obj.pending c t)->V.heap[b]?=some (Obj.pending c t))(hz:V'.heap.size=V.heap.size)(ho:V'.os=V.os)(hu:V'.output=V.output)(hl:∀b,b<W.heap.size->V'.heap[b]?=V.heap[b]?):Lw W V' :=
 ⟨λb c t hx=>h.nv b c t (hp b c t hx),⟨ho.trans h.up.os,rfl,hu.trans h.up.output,by show _<=V'.heap.size;rw[hz];exact h.sz,λb hb=>(hl b hb).trans (h.up.block b hb)⟩⟩
theorem Lw.put{W V:World}(h:Lw W V){l:Nat}(hl:W.heap.size<=l){o:Obj}(ho:∀c t,o≠.pending c t):Lw W (V.putObj l o):=by
 refine h.turn (λb c t hx=>?_) World.putObj_size rfl rfl λb hb=>World.putObj_heap_other oM;by_cases e:b=l
 .subst e;rcases Nat.lt_or_ge b V.heap.size with hl|hl
  .rw[World.putObj_heap_same hl] at hx;exact absurd (Option.some.inj hx) (ho c t)
  .simp_all
 .rwa [World.putObj_heap_other e] at hx
theorem Lw.set{W V:World}(h:Lw W V){a:Addr}(hl:W.heap.size<=a.block)(v:Value):Lw W (V.setCell a v):=by
 refine h.turn (λb c t hx=>?_) (aside_setCell V a v).size rfl rfl λb hb=>(aside_setCell V a v).block b oM;simp[World.setCell] at hx;grind
theorem Lw.pushes{W:World}:∀(os:List Obj){V:World},Lw W V->os.all np=true->Lw W (pushes V os)
 | [],_,h,_=>h
 | o::os,V,h,ha=>by
  simp only[List.all_cons,Bool.and_eq_true] at ha;exact Lw.pushes os (h.push λc t e=>by subst e;exact absurd ha.1 (by simp[np])) ha.2
theorem Fq:∀(os:List Obj)(V:World)(b:Nat),b<V.heap.size->(pushes V os).heap[b]?=V.heap[b]?
 | [],_,_,_=>rfl
 | o::os,V,b,hb=>by
  rw[pushes,Fq os _ b (by simp[D6];omega),D6,Array.getElem?_push_lt hb,← Array.getElem?_eq_getElem]
theorem Fs:∀(os:List Obj)(V:World)(i:Nat)(o:Obj),os[i]?=some o->(pushes V os).heap[V.heap.size+i]?=some o
 | o::os,V,0,_,h=>by
  cases h
  exact (Fq os (D6 V o) V.heap.size (by simp[D6])).trans K9
 | o::os,V,i+1,o',h=>by
  have:=Fs os (D6 V o) i o' h;rwa [show (D6 V o).heap.size=V.heap.size+1 by simp[D6],Nat.add_right_comm] at this
theorem Agv{f:FuncId}{cs:List Frame}{ds:List Deferred}{T:Array Value}{l:List (Nat×Value)}{Post:Value->World->Prop}{W:World}(N:Nat)(k1:List Item)(l1:List (Nat×Value))(os:List Obj){V:World}{gs:Array Goroutine}{t:Trace}{sl:Option (Nat×Nat)}(hh:F0 prog none_ gs (G (ff f T k0 r ds) cs) t)(hT:Has n T l)(hL:Lw W V)
  (kk:∀gs' sl' t' V' T',F0 prog none_ gs' (G (ff f T' k1 r ds) cs) t'->Has n T' l1->Lw W V'->V'.heap.size=V.heap.size+os.length->(∀b,b<V.heap.size->V'.heap[b]?=V.heap[b]?)->(∀i o,os[i]?=some o->V'.heap[V.heap.size+i]?=some o)->D9 prog Post (crowd gs' V' sl') t') (e:∀u,evs n r u N V.heap.size k0 l=some (k1,l1,os):=by intro u;kernel_rfl) (ha:os.all np=true:=by rfl):D9 prog Post (crowd gs V sl) t :=
 Agt N k1 l1 os hh hT (λgs' sl' t' d T' h1 h2=>kk gs' sl' t' _ T' h1 h2 ((hL.pushes os ha).at d) (Ex os V) (Fq os V) (Fs os V)) e
theorem CK{f:FuncId}{cs:List Frame}{ds:List Deferred}{T:Array Value}{l:List (Nat×Value)}{Post:Value->World->Prop}(N:Nat)(k1:List Item)(l1:List (Nat×Value)){V:World}{gs:Array Goroutine}{t:Trace}{sl:Option (Nat×Nat)}(hh:F0 prog none_ gs (G (ff f T k0 r ds) cs) t)(hT:Has n T l)
  (kk:∀gs' sl' t' d T',F0 prog none_ gs' (G (ff f T' k1 r ds) cs) t'->Has n T' l1->D9 prog Post (crowd gs' (V.at d) sl') t') (e:∀u,evs n r u N V.heap.size k0 l=some (k1,l1,[]):=by intro u;kernel_rfl):D9 prog Post (crowd gs V sl) t:=Agt N k1 l1 [] hh hT kk e
theorem l_w{g:FuncId}{V:World}(hn:NV V)(hc:∀τ d,Calls prog g args (tp V τ d) λe u'=>(∃v,e=.returned v/\R v u')/\Below V.heap.size (tp V τ d) u')(hR:∀v,X9 (R v):=by exact λ_ _ _ _ h=>h)(hf:(Ci fsW).f g=true:=by kernel_rfl)(hbf:((prog.funcs[g]?).bind (·.body)).isSome=true:=by kernel_rfl):∀x,I8 prog g args (V.at x) R:=λx =>
 Ld.l_of Acp hf (Er (NL.out g) _) (W:=V.at x) hn hR hc hbf
noncomputable def tS:Code:=Tryz.f81.body.getD .skip
noncomputable def tO:Code:=Tryz.f132.body.getD .skip
noncomputable def tI:Code:=Tryz.f205.body.getD .skip
noncomputable def eO:Code:=.seq (.region 7 (E0 tO 7) false) .ret
noncomputable def LJ:Code:=.block 1 (.seq (.region 5 (E0 tO 5) false) (.cond (.tmp 16) (.seq (.region 6 (E0 tO 6) false) .ret) .skip))
noncomputable def PD:Code:=match tI with | .seq _ (.seq _ (.block _ (.loop (.seq _ (.block _ (.seq _ (.seq _ r)))))))=>r|_=>.skip
noncomputable def PE:Code:=.block 1 (.seq (.region 3 (E0 tI 3) false) (.seq (.seq (.region 4 (E0 tI 4) false) (.cond (.tmp 18) .ret .skip)) PD))
noncomputable def GK:Code:=.seq (.seq (.region 2 (E0 tI 2) false) (.cond (.tmp 11) .skip (.exit 0))) PE
noncomputable def Bm(T:Array Value)(d:Nat):Loop:={state:=.ready,pending:=none,fn:=132,tmps:=T,params:=#[10],assign:=(.region 4 (E0 tO 4) false),body:=LJ,defers:=d}
theorem Ah6:tS=.seq (.region 0 (E0 tS 0) false) (.seq (.region 1 (E0 tS 1) false) (.seq (.region 2 (E0 tS 2) false) .ret)):=sI
theorem Ah7:tO=.seq (.region 0 (E0 tO 0) false) (.seq (.seq (.region 1 (E0 tO 1) false) (.cond (.tmp 7) (.seq (.region 2 (E0 tO 2) false) .ret) .skip)) (.seq (.seq (.region 3 (E0 tO 3) false) (.block 0 (.rangeFunc (.tmp 9) #[10] (.region 4 (E0 tO 4) false) LJ))) eO)):=sI
theorem Ah8:tI=.seq (.region 0 (E0 tI 0) false) (.seq (.region 1 (E0 tI 1) false) (.block 0 (.loop GK))):=sI
theorem inS(v:Value):Frame.enter prog 81 #[v] .normal=ff 81 (#[v]++Array.replicate 10 undef) [.code tS]:=sI
theorem inO(v:Value):Frame.enter prog 132 #[v] .normal=ff 132 (#[v]++Array.replicate 17 undef) [.code tO]:=sI
theorem inI(v u:Value):Frame.enter prog 205 (#[v] ++ #[u]) .normal=ff 205 (#[v,u]++Array.replicate 31 undef) [.code tI]:=sI
end Bd
namespace Bd
open Go.Conc Go.ConcN Go.RowKit
open Ld (I8 none_ tp)
theorem UH(b:Bk)(a1 a2:Option Addr)(c1 c2:Nat)(w:World):
  Calls prog 169 #[.agg #[Vz a1 b.tg.length c1,Vz a2 b.bs.length c2]] w λe w'=>e=.returned (.func (.func 205) #[] #[Pz w.heap.size 0])/\w'=w.alloc (Kz [Vz a1 b.tg.length c1,Vz a2 b.bs.length c2] 34):=by
 go_in;go_wp2;go_ret;exact⟨rfl,rfl⟩
theorem Agw(f:Operand->Value){o:Oper}{x y:Operand}(w:World)(hop:o.op=.store ty x y){a:Addr}(hx:f x=.pointer (some a))(hy:f y=v)(hz:(prog.info? ty).map (·.size)=some 1)(hv:(∃p n c,v=Vz p n c)\/∃q,v=.bool q)(hc:w.cell? a=some v0)(hf:w.frozen? a=false):(execOp f o).runT prog w #[]=(.ok .skip (w.setCell a v),#[⟨.cell a,true,false⟩]):=by
 obtain⟨a0,a1,hs⟩:=B6.1 hz;have e:execOp f o=(do Instr.storeAt ty (f x) (f y);pure .skip):=by unfold execOp;rw[hop]
 rw[e,hx,hy];refine Ek ?_;show ((sizeOf ty).bind _).runT prog w #[]=_
 rw[Sem.runT_bind',Gg a1];show (if v.cells.size≠a0.size then _ else storeCells a v.cells.toList).runT prog w #[]=_
 have a2:(store a v).runT prog w #[]=(.ok () (w.setCell a v),#[⟨.cell a,true,false⟩]):=by
  rcases hv with⟨p,n,c,rfl⟩|⟨q,rfl⟩<;>(simp only[store,Sem.runT,hc,hf];rfl)
 have a3:v.cells=#[v]:=by rcases hv with⟨p,n,c,rfl⟩|⟨q,rfl⟩<;>rfl
 rw[a3,if_neg (by rw[hs];simp)];show ((store _ v).bind _).runT prog w #[]=_
 rw[show a.add 0=a from rfl,Sem.runT_bind',a2];rfl
section
variable {Post:Value->World->Prop} {gs:Array Goroutine} {t:Trace} {V W:World} {sl:Option (Nat×Nat)} {T:Array Value} {l:List (Nat×Value)} {k:List Item} {c:Frame} {cs:List Frame} {p2 p3 dl:Nat} {x2 x3 v2:Value} {y:Bool} {rest:List Nat}
theorem Ye{j:Nat}{u:Operand}{ds:List Deferred}(hh:F0 prog none_ gs (G (ff 132 T (.inRegion ops (i::j::rest)::k) r ds) cs) t)(hT:Has 18 T l)(hL:Lw W V)(h2:(2,Pz p2 0)∈l)(h3:(3,Pz p3 0)∈l)(hu:∀k,(ff 132 T k r ds).eval u=v2)(hv:∃p n c,v2=Vz p n c)(q2:V.heap[p2]?=some (.cells #[x2] 22 (0,0)))(q3:V.heap[p3]?=some (.cells #[x3] 4 (0,0)))(hne:p2≠p3)(l2:W.heap.size<=p2)(l3:W.heap.size<=p3)
  (kk:∀gs' sl' t' V',F0 prog none_ gs' (G (ff 132 T (.inRegion ops rest::k) r ds) cs) t'->Lw W V'->V'.heap.size=V.heap.size->AS V' p2 0 v2->AS V' p3 0 (.bool y)->(∀b,b≠p2->b≠p3->V'.heap[b]?=V.heap[b]?)->D9 prog Post (crowd gs' V' sl') t')
  (e1:(ops[i]?.map λo=>(o.op,o.dst,o.guard))=some (.store 22 (.tmp 2) u,none,none):=by kernel_rfl) (e2:(ops[j]?.map λo=>(o.op,o.dst,o.guard))=some (.store 4 (.tmp 3) (.const (.bool y)),none,none):=by kernel_rfl) (hr:∀q,Nn r (.store q (.tmp 2) u)=true/\Nn r (.store q (.tmp 3) (.const (.bool y)))=true:=by exact λ_=>⟨rfl,rfl⟩):D9 prog Post (crowd gs V sl) t:=by
 have c2:AS V p2 0 x2:=by simp[World.cell?,q2]
 have f2:V.frozen? ⟨p2,0,none⟩=false:=by simp[World.frozen?,q2]
 refine FD _ hh (V':=V.setCell ⟨p2,0,none⟩ v2) (λ_ e x=>⟨_,_,Agw _ _ e (hT.ei 2 h2) (hu _) sI (.inl hv) c2 f2,by intro e he;simp at he;subst he;exact N7 id⟩) (λgs sl t d hh=>?_) (hr _).1 e1;have a0:(V.setCell ⟨p2,0,none⟩ v2).heap[p3]?=some _:=((aside_setCell _ _ _).block p3 (Ne.symm hne)).trans q3;have c3:(V.setCell ⟨p2,0,none⟩ v2).cell? ⟨p3,0,none⟩=some x3:=by simp[World.cell?,a0]
 have f3:(V.setCell ⟨p2,0,none⟩ v2).frozen? ⟨p3,0,none⟩=false:=by simp[World.frozen?,a0]
 refine FD _ hh (V':=((V.setCell ⟨p2,0,none⟩ v2).at d).setCell ⟨p3,0,none⟩ (.bool y)) (λ_ e x=>⟨_,_,Agw _ _ e (hT.ei 3 h3) rfl sI (.inr ⟨y,rfl⟩) (c3) (f3),by intro e he;simp at he;subst he;exact N7 id⟩) (λgs sl t d hh=>?_) (hr _).2 e2;refine kk gs sl t _ hh (((hL.set l2 v2).at _ |>.set l3 _).at _) (((aside_setCell _ _ _).size).trans (aside_setCell _ _ _).size) ?_ ?_ λb h2 h3=>((aside_setCell _ _ _).block b h3).trans ((aside_setCell _ _ _).block b h2)
 .exact (C1 _ _ _ _ (by simp)).trans (World.cell?_setCell_same _ _ _ c2)
 .exact World.cell?_setCell_same _ _ _ c3
theorem AcA{e:Nat}{ds:List Deferred}(hd:ds=[]\/∃dl,ds=[{target:=.collected dl,args:=#[]}]/\W.heap.size<=dl/\dl≠p2/\dl≠p3/\V.heap[dl]?=some (.deferred (some [])))(hh:F0 prog none_ gs (G (ff 132 T (.code .ret::k) none ds) (c::cs)) t)(hT:Has 18 T l)(hL:Lw W V)(h2:(2,Pz p2 0)∈l)(h3:(3,Pz p3 0)∈l)(q2:AS V p2 0 (Vz m n e))(q3:AS V p3 0 (.bool y))
  (kk:∀gs' sl' t' V',F0 prog none_ gs' (G (c.finish (.tuple #[Vz m n e,.bool y])) cs) t'->Lw W V'->D9 prog Post (crowd gs' V' sl') t'):D9 prog Post (crowd gs V sl) t:=by
 have e2:T.getD 2 undef=Pz p2 0:=by rw[Array.getD_eq_getD_getElem?,hT.2 _ h2];rfl
 have e3:T.getD 3 undef=Pz p3 0:=by rw[Array.getD_eq_getD_getElem?,hT.2 _ h3];rfl
 have a0:∀{V':World} {gs:Array Goroutine} {sl} {t:Trace},Lw W V'->AS V' p2 0 (Vz m n e)->AS V' p3 0 (.bool y)->F0 prog none_ gs _ t->D9 prog Post (crowd gs V' sl) t:=λ{V' gs sl t} hL q2 q3 hh=>Gm hh rfl λd=>by
  have q2:(V'.at d).cell? ⟨p2,0,none⟩=some (Vz m n e):=q2;have q3:(V'.at d).cell? ⟨p3,0,none⟩=some (.bool y):=q3;obtain⟨es,h1,h2⟩:=TcX (w:=V'.at d) (x:=Vz m n e) (y:=.bool y) k c cs results132 e2 e3 (by simp[loadVar,isAgg,go_sem,q2]) (λes=>by simp[loadVar,isAgg,go_sem,q2];rfl) (by simp[loadVar,isAgg,go_sem,q3]) (λes=>by simp[loadVar,isAgg,go_sem,q3];rfl);refine⟨_,_,es,max p2 p3+1,h1,λe he=>?_,λgs' sl' t' hh'=>kk gs' sl' t' _ hh' (hL.at d)⟩;rcases h2 e he with rfl|rfl
  .exact⟨λ_ _ h=>h.elim,dC,dC,Nat.lt_succ_of_le (Nat.le_max_left ..)⟩
  .exact⟨λ_ _ h=>h.elim,dC,dC,Nat.lt_succ_of_le (Nat.le_max_right ..)⟩
 refine E8 (Walk.one rfl λw=>stepG_ret' (b:=base 132) (a:=⟨T,ds⟩)) hh λgs sl t d hh=>?_;rcases hd with rfl|⟨dl,rfl,h1,h4,h5,h6⟩
 .exact a0 (hL.at d) q2 q3 hh
 .refine JI (V':=(V.at d).putObj dl (.deferred none)) hh (λd'=>WN (b:=base 132) h6 rfl) λgs sl t d' hh=>?_;exact a0 (((hL.at d).put h1 dC).at d') ((C2 (World.putObj_heap_other (Ne.symm h4))).trans q2) ((C2 (World.putObj_heap_other (Ne.symm h5))).trans q3) hh
end
theorem Agx(T:Array Value)(v:Value):((#[10]:Array Tmp).zip #[v]).foldl (λt (p,a)=>t.setIfInBounds p a) T=T.setIfInBounds 10 v:=dC
structure LI (b:Bk) (W V0:World) (tb:Nat) (gone:List BA) (ag:Option Addr) (cg:Nat) (V:World):Prop where
 lw:Lw W V
 low:∀k,k<tb->V.heap[k]?=V0.heap[k]?
 tab:∃ts:List Go.Proofs.YtaffjphkobhagaaGreatDoor.Tr,ts.map (·.1)=b.bs/\IC ts gone/\Bu (z V) tb b.tg ts
 own:F9 (z V) (tb+1) (.slice ag gone.length cg) gone
 goes:Aa b.bs gone.length gone
 le:gone.length<=b.bs.length
structure LO (b:Bk) (W V0:World) (TO:Array Value) (tb l dl bx p2 p3:Nat) (a2:Option Addr) (c2:Nat):Prop where
 slots:Has 18 TO [(3,.pointer (some ⟨p3,0,none⟩)),(2,.pointer (some ⟨p2,0,none⟩)),(1,.pointer (some ⟨bx,0,none⟩))]
 rc:V0.heap[l]?=some (.loop (Bm TO dl))
 off:V0.heap[dl]?=some (.deferred (some []))
 book:V0.cell? ⟨bx,1,none⟩=some (.slice a2 b.bs.length c2)
 c2:∃x2,V0.heap[p2]?=some (.cells #[x2] 22 (0,0))
 c3:∃x3,V0.heap[p3]?=some (.cells #[x3] 4 (0,0))
 ord:W.heap.size<=p2/\p2<p3/\p3<dl/\dl<l/\l<tb/\bx<dl/\bx≠p2/\bx≠p3
theorem AcB(b:Bk)(tb:Nat)(ts:List Go.Proofs.YtaffjphkobhagaaGreatDoor.Tr)(gone:List BA)(ag:Option Addr)(cg k:Nat)(s:Nat->Value)(w:World)(hT:Bu w tb b.tg ts)(hown:F9 w (tb+1) (Vz ag gone.length cg) gone)(hok:J3 b)(hfst:ts.map (·.1)=b.bs)(hgl:gone.length<b.bs.length){p}(hpt:ts[k]?=some p)(hg0:p.2=false)
  {PP} (HP:Hid (∀(T':Array Value)(u:World)(a':Option Addr)(c':Nat),Has 33 T' [(4,Vz a' (gone.length+1) c'),(3,Pz tb 0),(0,s 0)]->F9 u (tb+1) (Vz a' (gone.length+1) c') (gone++[p.1.nm])->Bu u tb b.tg (ts.set k (p.1,true))->Below tb w u->PP .normal ⟨T',[]⟩ u)):PD.wp prog PP ⟨#[s 0,s 1,s 2,Pz tb 0,Vz ag gone.length cg,Iz k,s 6,s 7,s 8,s 9,s 10,s 11,s 12,s 13,s 14,s 15,s 16,s 17,s 18,s 19,s 20,s 21,s 22,s 23,s 24,s 25,s 26,s 27,s 28,s 29,s 30,s 31,s 32],[]⟩ w:=by
 obtain⟨ii,hi,b2,b3,b4⟩:=info_parts Av;have c1:=hok.2.1
 have a5:ts.length<=5:=by
  have:=congrArg List.length hfst;simp at this;omega
 have a7:(ts.set k (p.1,true))[k]?=some (p.1,true):=by rw[List.getElem?_set,if_pos rfl,if_pos (A2.1 hpt).1]
 have c2:(ts.set k (p.1,true)).length<=5:=by rw[List.length_set];exact a5
 have Hok:Hid (J3 b):=hok;have Hfst:Hid (ts.map (·.1)=b.bs):=hfst;have c3:=hT.lt;clear hok hfst;simp only[PD,tI,Tryz.f205,Option.getD_some];go_wp2_with fail;refine (ZE tb k b.tg ts p b.bs _ hT Hok.out.1.1 hpt hg0 Hfst.out Hok.out.2.2.2.2.2 a5).mono ?_;rintro e w3 ⟨⟨v7,rfl⟩,b8,a6,b1⟩;have a1:=b1 _ _ _ hown oM;have c4:=a6.size;clear b1 hT hown hpt hg0 a5;generalize ts.set k (p.1,true)=ts2 at *;obtain⟨rv,kT,a4⟩:=b8;have c5:=(A2.1 a7).1;obtain⟨g,b9,rfl⟩:=AG a4 oM;obtain⟨r0,-,-,-⟩:=GH a4 a7;simp only at r0;obtain⟨t0,t1⟩:=kT.c2';have b5:=kT.2.2;generalize p.1=px at *;have a0:=R8 a1 ((A4 w3.heap.size w3).alloc (A3 _) (Kz [Tz px.nm] 9));have a2:=R8 a4 ((A4 w3.heap.size w3).alloc (A3 _) (Kz [Tz px.nm] 9));have a9:=kT.up ((A4 w3.heap.size w3).alloc (A3 _) (Kz [Tz px.nm] 9)) b5;have a3:=a6.alloc oM (Kz [Tz px.nm] 9);go_wp2_with (at_builtin;refine wpList_append_own _ rfl _ _ 22 rfl (tb+1) 9 ii _ 1 16 underlying22 hi b2 b3 b4 rfl aS _ _ _ rfl a0 ⟨w3.heap.size,0,none⟩ 1 1 [Tz px.nm] rfl rfl (Eb _ _ _) (LL _) (by unfold maxLen;omega) oM gG ?_)
 intro v8 w8 hown8 hgr8 _;have b6:Bu w8 tb b.tg ts2:=⟨_,a9.kept hgr8 (JZ a0 oM),Sm a2 hgr8 (Pm a2 a0 aS)⟩;have b7:Below tb w w8:=⟨hgr8.os.trans a3.os,hgr8.tape.trans a3.tape,hgr8.output.trans a3.output,B4 a3.size hgr8.size,λi hi=>(hgr8.block i (A1 (Nat.lt_trans hi c3) a3.size) (JZ a0 oM)).trans (a3.block i hi)⟩;have b0:F9 w8 (tb+1) v8 (gone++[px.nm]):=by unfold F9;rw[A9,List.map_append];exact hown8
 obtain⟨a8,c8,rfl⟩:∃a c,v8=Vz a (gone.length+1) c:=by simpa using b0.lst.shape
 clear a0 a2 a9 a3 hown8 hgr8 a1 a4 kT t0 t1 r0 a6;go_wp2_with fail;exact HP.out _ _ a8 c8 ⟨rfl,dC⟩ b0 b6 b7
section
variable {W V0:World} {b:Bk} {TO:Array Value} {tb l dl bx p2 p3:Nat} {a2 ag:Option Addr} {c2 cg:Nat} {Post:Value->World->Prop} {gs:Array Goroutine} {t:Trace} {V:World} {sl:Option (Nat×Nat)} {c:Frame} {cs:List Frame} {T:Array Value} {gone:List BA}
theorem Agy(v:Value)(k:List Item):(ff 205 T (.inRegion (E0 tI 2) [2]::k)).finish v=ff 205 (T.setIfInBounds 11 v) (.inRegion (E0 tI 2) []::k):=by
 rw[P0 sI,show (U9 tI 2 2).dst=some 11 by kernel_rfl]
theorem Aa9{k:List Item}(hh:F0 prog none_ gs (G {(base 205).at ⟨T,[]⟩ k with mode:=.returning} (ff 132 TO [.inRangeFunc l,.inBlock 0,.code eO] none [{target:=.collected dl,args:=#[]}]::c::cs)) t)(kk:∀gs' sl' t' d,F0 prog none_ gs' (G (ff 132 TO [.endRangeFunc l,.inBlock 0,.code eO] none [{target:=.collected dl,args:=#[]}]) (c::cs)) t'->D9 prog Post (crowd gs' (V.at d) sl') t'):D9 prog Post (crowd gs V sl) t :=
 E8 (Walk.one rfl λ_=>stepG_leave rfl rfl func205 (results_none rfl _ _ _) (events_results_none rfl _ _)) hh kk
theorem AeR(a b:Int)(f:Operand->Value){o:Oper}{x y:Operand}(hop:o.op=.binOp .eql 3 x y 3)(hx:f x=.int .i64 a)(hy:f y=.int .i64 b)(w:World):(execOp f o).runT prog w #[]=(.ok (.value (.bool (a==b))) w,#[]):=by
 unfold execOp;rw[hop];simp only[hx,hy];rfl
theorem Wd(hO:LO b W V0 TO tb l dl bx p2 p3 a2 c2)(hI:LI b W V0 tb gone ag cg V)(hT:Has 33 T [(10,Vz ag gone.length cg),(9,.func (.yield l) #[] #[]),(4,Vz ag gone.length cg),(3,Pz tb 0),(0,.func (.yield l) #[] #[])])(hok:J3 b)(hh:F0 prog none_ gs (G (ff 205 T [.inRegion (E0 tI 2) [2],.code (.cond (.tmp 11) .skip (.exit 0)),.code PE,.inLoop GK,.inBlock 0]) (ff 132 TO [.inRangeFunc l,.inBlock 0,.code eO] none [{target:=.collected dl,args:=#[]}]::c::cs)) t)(kk:∀gs' sl' t' V' u ok ss,Ac b ss ok->F0 prog none_ gs' (G (c.finish (.tuple #[u,.bool ok])) cs) t'->Lw W V'->D9 prog Post (crowd gs' V' sl') t')
  (kn:∀gs' sl' t' d T',gone.length<b.bs.length->Has 33 T' (pt 11 (.bool true) [(10,Vz ag gone.length cg),(9,.func (.yield l) #[] #[]),(4,Vz ag gone.length cg),(3,Pz tb 0),(0,.func (.yield l) #[] #[])])->F0 prog none_ gs' (G (ff 205 T' [.inRegion (E0 tI 2) [],.code (.cond (.tmp 11) .skip (.exit 0)),.code PE,.inLoop GK,.inBlock 0]) (ff 132 TO [.inRangeFunc l,.inBlock 0,.code eO] none [{target:=.collected dl,args:=#[]}]::c::cs)) t'->D9 prog Post (crowd gs' (V.at d) sl') t'):D9 prog Post (crowd gs V sl) t:=by
 obtain⟨o1,o2,o3,o4,o5,o6,o7,o8⟩:=hO.ord;have hl:=(hI.low l oM).trans hO.rc;have a8:l<V.heap.size:=(D1.1 hl).1;refine JI (V':=V) hh (λd=>WO (b:=base 205) (a:=⟨T,[]⟩) (i:=2) (o:=U9 tI 2 2) (x:=.tmp 9) (xs:=#[.tmp 10]) (ats:=#[22]) (vs:=#[Vz ag gone.length cg]) (w:=V.at d) sI (AgZ sI _) rfl sI (by simp[Act.eval,hT.gi 9]) (by simp[Act.eval,hT.gi 10]) hl rfl) λgs sl t d hh=>?_;replace hh:F0 prog none_ gs (G (ff 132 (TO.setIfInBounds 10 (Vz ag gone.length cg)) [.code (.region 4 (E0 tO 4) false),.beginRound,.code LJ] (some l)) (ff 205 T [.inRegion (E0 tI 2) [2],.code (.cond (.tmp 11) .skip (.exit 0)),.code PE,.inLoop GK,.inBlock 0]::ff 132 TO [.inRangeFunc l,.inBlock 0,.code eO] none [{target:=.collected dl,args:=#[]}]::c::cs)) t:=by rw[← Agx];exact hh
 refine CK 3 [.beginRound,.code LJ] [(4,Vz ag gone.length cg),(10,Vz ag gone.length cg),(3,Pz p3 0),(2,Pz p2 0),(1,Pz bx 0)] hh (hO.slots.pt 10 (Vz ag gone.length cg) aS) λgs sl t d1 TR hh hR=>?_;refine JI (V':=V.putObj l (.loop {Bm TO dl with state:=.busy})) hh (λd=>Zn (b:=ff 132 TR [] (some l)) (a:=⟨TR,[]⟩) (k:=[.code LJ]) (w:=V.at d) rfl rfl hl rfl) λgs sl t d2 hh=>?_;have a4:(V.putObj l (.loop {Bm TO dl with state:=.busy})).heap[l]?=some (.loop {Bm TO dl with state:=.busy}):=World.putObj_heap_same a8;have a0:=Ac9 (o':=.loop {Bm TO dl with state:=.busy}) hl;have a1:∀k,k≠l->k<tb->(V.putObj l (.loop {Bm TO dl with state:=.busy})).heap[k]?=V0.heap[k]?:=λk h1 h2=>(World.putObj_heap_other h1).trans (hI.low k h2);have a9:Lw W (V.putObj l (.loop {Bm TO dl with state:=.busy})):=hI.lw.put oM dC;generalize V.putObj l (.loop {Bm TO dl with state:=.busy})=V2 at *;refine CK 6 [.inRegion (E0 tO 5) [3,4,5],.code (.cond (.tmp 16) (.seq (.region 6 (E0 tO 6) false) .ret) .skip),.inBlock 1] [(13,Pz bx 1),(12,Iz gone.length),(11,Vz ag gone.length cg),(4,Vz ag gone.length cg),(10,Vz ag gone.length cg),(3,Pz p3 0),(2,Pz p2 0),(1,Pz bx 0)] hh hR λgs sl t d3 TR hh hR=>?_;obtain⟨ds,a6,a7⟩:=B6.1 (show (prog.underlying 32).map Bh=some false by kernel_rfl);have hc:AS V2 bx 1 (Vz a2 b.bs.length c2):=(C2 (a1 bx oM oM)).trans hO.book;refine N9 (.load 32 (.tmp 13)) 14 (V':=V2) (v:=Vz a2 b.bs.length c2) hh hR (λ_ e x=>⟨_,_,JG _ _ a6 a7 e (hR.ei 13) hc,by intro e he;simp at he;subst he;exact N7 id⟩) λgs sl t d4 TR hh hR=>?_;replace hR:=hR.sub (l':=[(14,Vz a2 b.bs.length c2),(12,Iz gone.length),(4,Vz ag gone.length cg),(3,Pz p3 0),(2,Pz p2 0)]) dC;refine CK 1 [.inRegion (E0 tO 5) [5],.code (.cond (.tmp 16) (.seq (.region 6 (E0 tO 6) false) .ret) .skip),.inBlock 1] [(15,Iz b.bs.length),(14,Vz a2 b.bs.length c2),(12,Iz gone.length),(4,Vz ag gone.length cg),(3,Pz p3 0),(2,Pz p2 0)] hh hR λgs sl t d5 TR hh hR=>?_;refine F4 (.binOp .eql 3 (.tmp 12) (.tmp 15) 3) 16 hh hR (λ_ e x=>AeR _ _ _ e (hR.ei 12) (hR.ei 15) x) λgs sl t d6 TR hh hR=>?_;by_cases hf:gone.length=b.bs.length
 .rw[show ((gone.length:Int)==(b.bs.length:Int))=true by rw[hf];simp] at hR;replace hR:=hR.sub (l':=[(16,.bool true),(4,Vz ag gone.length cg),(3,Pz p3 0),(2,Pz p2 0)]) dC;refine CK 5 [.inRegion (E0 tO 6) [1,2],.code .ret,.inBlock 1] [(17,Vz ag gone.length cg),(16,.bool true),(4,Vz ag gone.length cg),(3,Pz p3 0),(2,Pz p2 0)] hh hR λgs sl t d7 TR hh hR=>?_;obtain⟨x2,q2⟩:=hO.c2;obtain⟨x3,q3⟩:=hO.c3;refine Ye (y:=true) (u:=.tmp 17) hh hR (a9.at _) (p2:=p2) (p3:=p3) dC dC (λ_=>hR.ei 17) ⟨_,_,_,rfl⟩ ((a1 p2 oM oM).trans q2) ((a1 p3 oM oM).trans q3) oM o1 oM (λgs sl t V3 hh hL3 hz3 w2 w3 how=>?_);have a5:=(how l oM oM).trans a4;have b0:=(how dl oM oM).trans ((a1 dl oM oM).trans hO.off);have a3:l<V3.heap.size:=(D1.1 a5).1;refine E8 (G6 1 rfl) hh λgs sl t d8 hh=>?_;refine JI (V':=V3.putObj l (.loop {Bm TO dl with state:=.done,pending:=some .ret})) hh (λd=>AeQ (b:=ff 132 TR [] (some l)) (a:=⟨TR,[]⟩) (k:=[.inBlock 1]) (w:=V3.at d) rfl rfl a5) λgs sl t d9 hh=>?_;rw[Agy] at hh;refine CK 3 [] [(11,.bool false)] hh ((hT.pt 11 (.bool false) aS).sub (l':=[(11,.bool false)]) (by simp[pt])) λgs sl t d10 TF hh hF=>?_;refine E8 (Walk.one (g':=G {(base 205).at ⟨TF,[]⟩ [] with mode:=.returning} (ff 132 TO [.inRangeFunc l,.inBlock 0,.code eO] none [{target:=.collected dl,args:=#[]}]::c::cs)) rfl λw=>by simp[G,stepG,stepG.exec,ff,Frame.at,base]) hh λgs sl t d11 hh=>?_;refine Aa9 hh λgs sl t d12 hh=>?_;refine JI (V':=(V3.putObj l (.loop {Bm TO dl with state:=.done,pending:=some .ret})).putObj l (.loop {Bm TO dl with state:=.exhausted,pending:=some .ret})) hh (λd=>Aa8 (b:=base 132) (a:=⟨TO,[{target:=.collected dl,args:=#[]}]⟩) (w:=(V3.putObj l (.loop {Bm TO dl with state:=.done,pending:=some .ret})).at d) (World.putObj_heap_same a3) dC rfl) λgs sl t d13 hh=>?_;have far:∀k,k≠l->((V3.putObj l (.loop {Bm TO dl with state:=.done,pending:=some .ret})).putObj l (.loop {Bm TO dl with state:=.exhausted,pending:=some .ret})).heap[k]?=V3.heap[k]?:=λk h=>(World.putObj_heap_other h).trans (World.putObj_heap_other h);refine AcA (.inr ⟨dl,rfl,oM,oM,oM,(far dl oM).trans b0⟩) hh hO.slots (((hL3.put oM dC).put oM dC).at d13) dC dC ((C2 (far p2 oM)).trans w2) ((C2 (far p3 oM)).trans w3) λgs sl t V' hh hL=>kk gs sl t V' _ true gone (.inl ⟨rfl,hok,by rw[← hf];exact hI.goes⟩) hh hL
 .rw[show ((gone.length:Int)==(b.bs.length:Int))=false by rw[beq_eq_false_iff_ne];omega] at hR;replace hR:=hR.sub (l':=[(16,.bool false)]) dC;refine CK 4 [] [(16,.bool false)] hh hR λgs sl t d7 TR hh hR=>?_;refine JI (V':=V2.putObj l (.loop (Bm TO dl))) hh (λd=>AdL (b:=ff 132 TR [] (some l)) (a:=⟨TR,[]⟩) (w:=V2.at d) rfl rfl a4) λgs sl t d8 hh=>?_;rw[a0];rw[Agy] at hh;exact kn gs sl t d8 _ (by have:=hI.le;omega) (hT.pt 11 (.bool true) aS) hh
theorem AcD(hO:LO b W V0 TO tb l dl bx p2 p3 a2 c2)(hok:J3 b)(kk:∀gs' sl' t' V' u ok ss,Ac b ss ok->F0 prog none_ gs' (G (c.finish (.tuple #[u,.bool ok])) cs) t'->Lw W V'->D9 prog Post (crowd gs' V' sl') t'):
  ∀(m:Nat)(gone:List BA)(ag:Option Addr)(cg:Nat)(T:Array Value)(V:World)(gs:Array Goroutine)(sl:Option (Nat×Nat)) (t:Trace),b.bs.length-gone.length=m->LI b W V0 tb gone ag cg V->Has 33 T [(10,Vz ag gone.length cg),(9,.func (.yield l) #[] #[]),(4,Vz ag gone.length cg),(3,Pz tb 0),(0,.func (.yield l) #[] #[])]->F0 prog none_ gs (G (ff 205 T [.inRegion (E0 tI 2) [2],.code (.cond (.tmp 11) .skip (.exit 0)),.code PE,.inLoop GK,.inBlock 0]) (ff 132 TO [.inRangeFunc l,.inBlock 0,.code eO] none [{target:=.collected dl,args:=#[]}]::c::cs)) t->D9 prog Post (crowd gs V sl) t:=by
 intro m;induction m with
 | zero=>exact λgone ag cg T V gs sl t hm hI hT hh=>Wd hO hI hT hok hh kk λ_ _ _ _ _ h=>by omega
 | succ m ih =>
  intro gone ag cg T V gs sl t hm hI hT hh;refine Wd hO hI hT hok hh kk λgs sl t d T hgl hT hh=>?_;replace hT:=hT.sub (l':=[(11,.bool true),(4,Vz ag gone.length cg),(3,Pz tb 0),(0,.func (.yield l) #[] #[])]) (by simp[pt];decide);refine CK 7 [.inRegion (E0 tI 3) [1,2,3,4,5,6],.code (.seq (.seq (.region 4 (E0 tI 4) false) (.cond (.tmp 18) .ret .skip)) PD),.inBlock 1,.inLoop GK,.inBlock 0] [(13,Pz tb 0),(11,.bool true),(4,Vz ag gone.length cg),(3,Pz tb 0),(0,.func (.yield l) #[] #[])] hh hT λgs sl t d1 T hh hT=>?_;obtain⟨ts,a1,a4,a5⟩:=hI.tab;obtain⟨o1,o2,o3,o4,o5,o6,o7,o8⟩:=hO.ord
  refine CC 207 [13] #[255] 14 hh hT (l_w (R:=λv _=>(∃k:Nat,v=.tuple #[Iz k,.bool true]/\Z6 b.bs gone (k:Int))\/v=.tuple #[Iz 0,.bool false]/\Z6 b.bs gone (-1)) hI.lw.nv λτ d=>(ZV tb b ts gone _ (show Bu (tp V τ d) tb b.tg ts from a5) hok a1 a4).mono (by
   rintro e w' ⟨⟨k,rfl,h⟩|⟨rfl,h⟩,hb⟩
   .exact⟨⟨_,rfl,.inl ⟨k,rfl,h⟩⟩,hb⟩
   .exact⟨⟨_,rfl,.inr ⟨rfl,h⟩⟩,hb⟩)) λgs V1 sl t v T hh hT hn1 hR hb1=>?_
  have a7:Lw W V1:=(hI.lw.at _).call hn1 hb1;have hu:Below V.heap.size (z V) (z V1):=hb1;have b5:tb<V.heap.size:=a5.lt;have a0:∀k,k<tb->V1.heap[k]?=V0.heap[k]?:=λk hk=>(AE hu oM).trans (hI.low k hk);rcases hR with⟨k,rfl,hnx⟩|⟨rfl,hnx⟩
  .obtain⟨k',b3,a8,⟨x,hx,a9,-⟩,-⟩:=hnx.resolve_left λh=>by omega
   obtain rfl:k=k':=oM
   obtain⟨p,a3,b4⟩:=AfK a1 a8;obtain rfl:x=p.1:=by simp_all
   refine CK 14 [.code PD,.inBlock 1,.inLoop GK,.inBlock 0] [(18,.bool false),(17,.bool true),(6,.bool true),(5,Iz k),(16,.bool true),(15,Iz k),(12,.tuple #[Iz k,.bool true]),(14,.tuple #[Iz k,.bool true]),(13,Pz tb 0),(11,.bool true),(4,Vz ag gone.length cg),(3,Pz tb 0),(0,.func (.yield l) #[] #[])] hh hT λgs sl t d2 T hh hT=>?_;have b0:Bu (z V1) tb b.tg ts:=a5.up hb1;have b1:F9 (z V1) (tb+1) (Vz ag gone.length cg) gone:=R8 hI.own hb1;have e0:=hT.gi 0;have e3:=hT.gi 3;have e4:=hT.gi 4;have e5:=hT.gi 5;obtain⟨s,rfl⟩:∃s:Nat->Value,T=((List.range 33).map s).toArray:=⟨_,AcC T 33 hT.1⟩;simp at e0 e3 e4 e5;refine AeP (b:=base 205) (a:=⟨((List.range 33).map s).toArray,[]⟩) (n:=tb) (Q:=λa u=>a.defers=[]/\∃a' c',Has 33 a.tmps [(4,Vz a' (gone.length+1) c'),(3,Pz tb 0),(0,.func (.yield l) #[] #[])]/\F9 u (tb+1) (Vz a' (gone.length+1) c') (gone++[p.1.nm])/\Bu u tb b.tg (ts.set k (p.1,true))) Acp ⟨rfl,_,func205⟩ (r:=PD) sI rfl hn1 (λ_ _ _ _ h=>h) (λτ d=>?_) hh λgs V2 sl t a hh hd hn2 hQ hb2=>?_
   .have ea:((List.range 33).map s).toArray=#[s 0,s 1,s 2,Pz tb 0,Vz ag gone.length cg,Iz k,s 6,s 7,s 8,s 9,s 10,s 11,s 12,s 13,s 14,s 15,s 16,s 17,s 18,s 19,s 20,s 21,s 22,s 23,s 24,s 25,s 26,s 27,s 28,s 29,s 30,s 31,s 32]:=by simp[List.range,List.range.loop,e3,e4,e5]
    rw[ea];exact AcB b tb ts gone ag cg k s _ (show Bu (tp V1 τ d) tb b.tg ts from b0) b1 hok a1 hgl a3 (by rw[a4 k p a3];exact a9) (show Hid _ from λT' u a' c' h1 h2 h3 h4=>⟨rfl,⟨rfl,a',c',e0 ▸ h1,h2,h3⟩,h4⟩)
   .obtain⟨T2,d3⟩:=a;obtain⟨-,a',c',hA,w1,w2⟩:=hQ;obtain rfl:d3=[]:=hd;refine CK 7 [.inRegion (E0 tI 2) [2],.code (.cond (.tmp 11) .skip (.exit 0)),.code PE,.inLoop GK,.inBlock 0] [(10,Vz a' (gone.length+1) c'),(9,.func (.yield l) #[] #[]),(4,Vz a' (gone.length+1) c'),(3,Pz tb 0),(0,.func (.yield l) #[] #[])] hh hA λgs sl t d4 T hh hT=>?_;have el:(gone++[p.1.nm]).length=gone.length+1:=dC
    exact ih (gone++[p.1.nm]) a' c' T _ gs sl t oM ⟨⟨hn2,a7.up.trans (hb2.mono oM)⟩,λk hk=>(hb2.block k hk).trans (a0 k hk),⟨_,Aen a1 a3,ZT hok.2.2.2.1 a1 a4 a3,w2⟩,by rw[el];exact w1,by rw[el];exact .more hI.goes hnx hx,oM⟩ (by rw[el];exact hT) hh
  .refine CK 13 [.code .ret,.code PD,.inBlock 1,.inLoop GK,.inBlock 0] [(18,.bool true),(17,.bool false),(6,.bool false),(5,Iz 0),(16,.bool false),(15,Iz 0),(12,.tuple #[Iz 0,.bool false]),(14,.tuple #[Iz 0,.bool false]),(13,Pz tb 0),(11,.bool true),(4,Vz ag gone.length cg),(3,Pz tb 0),(0,.func (.yield l) #[] #[])] hh hT λgs sl t d2 T hh hT=>?_;refine E8 (Walk.one rfl λw=>stepG_ret' (b:=base 205) (a:=⟨T,[]⟩)) hh λgs sl t d3 hh=>?_;refine Aa9 hh λgs sl t d4 hh=>?_;have h1:=(a0 l oM).trans hO.rc;refine JI (V':=V1.putObj l (.loop {Bm TO dl with state:=.exhausted})) hh (λd=>Zo (b:=base 132) (a:=⟨TO,[{target:=.collected dl,args:=#[]}]⟩) (k:=[.inBlock 0,.code eO]) (w:=V1.at d) h1 (by simp[Bm]) rfl) λgs sl t d5 hh=>?_;obtain⟨x2,q2⟩:=hO.c2;obtain⟨x3,q3⟩:=hO.c3;have a6:∀k,k≠l->k<tb->(V1.putObj l (.loop {Bm TO dl with state:=.exhausted})).heap[k]?=V0.heap[k]?:=λk h1 h2=>(World.putObj_heap_other h1).trans (a0 k h2);have b2:Lw W (V1.putObj l (.loop {Bm TO dl with state:=.exhausted})):=a7.put oM dC;generalize V1.putObj l (.loop {Bm TO dl with state:=.exhausted})=V2 at *;refine E8 (G6 (l':=[.inRegion (E0 tO 7) [0,1],.code .ret]) 3 sI) hh λgs sl t d6 hh=>?_;refine Ye (ops:=E0 tO 7) (i:=0) (j:=1) (rest:=[]) (k:=[.code .ret]) (y:=false) (u:=.const (Nz)) hh hO.slots (b2.at _) (p2:=p2) (p3:=p3) dC dC (λ_=>rfl) ⟨_,_,_,rfl⟩ ((a6 p2 oM oM).trans q2) ((a6 p3 oM oM).trans q3) oM o1 oM λgs sl t V3 hh hL3 hz3 w2 w3 how=>?_;refine E8 (G6 1 rfl) hh λgs sl t d7 hh=>?_;exact AcA (.inr ⟨dl,rfl,oM,oM,oM,(how dl oM oM).trans ((a6 dl oM oM).trans hO.off)⟩) hh hO.slots (hL3.at d7) dC dC w2 w3 λgs sl t V' hh hL=>kk gs sl t V' _ false [] (.inr ⟨rfl,rfl,.inr ⟨gone.length,gone,hgl,hI.goes,hnx⟩⟩) hh hL
end
section
variable {W:World} {b:Bk}
theorem AeS{bv:Value}(hn:NV W)(hB:Z5 (z W) bv b):I8 prog 132 #[bv] W λv _=>∃u ss ok,v=.tuple #[u,.bool ok]/\Ac b ss ok:=by
 obtain⟨a1,c1,a2,c2,rfl,-,-⟩:=hB.parts;intro Post c cs gs sl t hh kk;rw[inO,Ah7] at hh;have hT:Has 18 (#[Value.agg #[Vz a1 b.tg.length c1,Vz a2 b.bs.length c2]]++Array.replicate 17 undef) [(0,.agg #[Vz a1 b.tg.length c1,Vz a2 b.bs.length c2])]:=⟨dC,dC⟩;refine Agv 9 [.inRegion (E0 tO 1) [0,1,2],.code (.cond (.tmp 7) (.seq (.region 2 (E0 tO 2) false) .ret) .skip),.code (.seq (.seq (.region 3 (E0 tO 3) false) (.block 0 (.rangeFunc (.tmp 9) #[10] (.region 4 (E0 tO 4) false) LJ))) eO)] [(3,Pz (W.heap.size+2) 0),(2,Pz (W.heap.size+1) 0),(1,Pz W.heap.size 0),(0,.agg #[Vz a1 b.tg.length c1,Vz a2 b.bs.length c2])] [.cells #[Vz a1 b.tg.length c1,Vz a2 b.bs.length c2] 34 (0,0),.cells #[Nz] 22 (0,0),.cells #[.bool false] 4 (0,0)] hh hT (.refl hn) λgs sl t V T hh hT hL hz _ hg=>?_;have q1:V.heap[W.heap.size]?=some (.cells #[Vz a1 b.tg.length c1,Vz a2 b.bs.length c2] 34 (0,0)):=hg 0 _ rfl;have q2:V.heap[W.heap.size+1]?=some (.cells #[Nz] 22 (0,0)):=hg 1 _ rfl;have q3:V.heap[W.heap.size+2]?=some (.cells #[.bool false] 4 (0,0)):=hg 2 _ rfl;have hk:Z5 (z V) (.agg #[Vz a1 b.tg.length c1,Vz a2 b.bs.length c2]) b:=hB.up hL.up;simp only[List.length_cons,List.length_nil] at hz;clear hg;refine CD 34 1 5 (c:=[Vz a1 b.tg.length c1,Vz a2 b.bs.length c2]) hh hT q1 λgs sl t d T hh hT=>?_;refine CC 168 [5] #[34] 6 hh hT (l_w (R:=λv _=>v=.bool (Z1 b)) hL.nv λτ d=>(Xg b _ _ (show Z5 (tp V τ d) _ b from hk)).mono (by rintro e w' ⟨rfl,h⟩;exact⟨⟨_,rfl,rfl⟩,h⟩)) λgs V1 sl t v T hh hT hn1 hR hb1=>?_;subst hR;have a3:=(hL.at d).call hn1 hb1;have b2:V.heap.size<=V1.heap.size:=hb1.size;have p1:∀b,b<V.heap.size->V1.heap[b]?=V.heap[b]?:=λb hb=>AE hb1 hb;have b3:Z5 (z V1) (.agg #[Vz a1 b.tg.length c1,Vz a2 b.bs.length c2]) b:=hB.up a3.up;replace q1:=(p1 _ oM).trans q1;replace q2:=(p1 _ oM).trans q2;replace q3:=(p1 _ oM).trans q3;clear hb1 p1 hL;cases hbk:Z1 b with
 | false =>
  rw[hbk] at hT;refine CK 5 [.inRegion (E0 tO 2) [0,1],.code .ret,.code (.seq (.seq (.region 3 (E0 tO 3) false) (.block 0 (.rangeFunc (.tmp 9) #[10] (.region 4 (E0 tO 4) false) LJ))) eO)] [(7,.bool true),(6,.bool false),(5,.agg #[Vz a1 b.tg.length c1,Vz a2 b.bs.length c2]),(3,Pz (W.heap.size+2) 0),(2,Pz (W.heap.size+1) 0),(1,Pz W.heap.size 0),(0,.agg #[Vz a1 b.tg.length c1,Vz a2 b.bs.length c2])] hh hT λgs sl t d T hh hT=>?_;refine Ye (y:=false) hh hT (a3.at d) (p2:=W.heap.size+1) (p3:=W.heap.size+2) (u:=.const (Nz)) dC dC (λ_=>rfl) ⟨_,_,_,rfl⟩ q2 q3 oM oM oM λgs sl t V2 hh a5 _ w2 w3 _=>?_;refine E8 (G6 1 rfl) hh λgs sl t d hh=>?_;exact AcA (.inl rfl) hh hT (a5.at d) dC dC w2 w3 λgs sl t V' hh hL=>kk gs V' sl t _ hh hL.nv λτ d=>⟨⟨_,[],_,rfl,.inr ⟨rfl,rfl,.inl (N8.1 hbk)⟩⟩,hL.bl τ d⟩
 | true =>
  rw[hbk] at hT;have a8:J3 b:=G7.1 hbk;refine CK 7 [.inRegion (E0 tO 3) [0,1],.code (.block 0 (.rangeFunc (.tmp 9) #[10] (.region 4 (E0 tO 4) false) LJ)),.code eO] [(7,.bool false),(6,.bool true),(5,.agg #[Vz a1 b.tg.length c1,Vz a2 b.bs.length c2]),(3,Pz (W.heap.size+2) 0),(2,Pz (W.heap.size+1) 0),(1,Pz W.heap.size 0),(0,.agg #[Vz a1 b.tg.length c1,Vz a2 b.bs.length c2])] hh hT λgs sl t d T hh hT=>?_;refine CD 34 1 8 (c:=[Vz a1 b.tg.length c1,Vz a2 b.bs.length c2]) hh hT q1 λgs sl t d T hh hT=>?_;refine CC 169 [8] #[34] 9 hh hT (l_w (R:=λv u=>v=.func (.func 205) #[] #[Pz V1.heap.size 0]/\u.heap[V1.heap.size]?=some (.cells #[Vz a1 b.tg.length c1,Vz a2 b.bs.length c2] 34 (0,0))) a3.nv λτ d=>(UH b _ _ _ _ _).mono (by rintro e w' ⟨rfl,rfl⟩;exact⟨⟨_,rfl,rfl,World.alloc_heap_new _ _⟩,(A4 (tp V1 τ d).heap.size (tp V1 τ d)).alloc (A3 _) _⟩)) λgs V2 sl t v T hh hT hn2 hR hb2=>?_;obtain⟨rfl,q4⟩:=hR;have a5:=(a3.at d).call hn2 hb2;have b4:V1.heap.size<V2.heap.size:=(D1.1 q4).1;have p2:∀b,b<V1.heap.size->V2.heap[b]?=V1.heap[b]?:=λb hb=>AE hb2 hb;replace q1:=(p2 _ oM).trans q1;replace q2:=(p2 _ oM).trans q2;replace q3:=(p2 _ oM).trans q3;clear hb2 p2;refine CK 2 [.code (.rangeFunc (.tmp 9) #[10] (.region 4 (E0 tO 4) false) LJ),.inBlock 0,.code eO] [(9,.func (.func 205) #[] #[Pz V1.heap.size 0]),(8,.agg #[Vz a1 b.tg.length c1,Vz a2 b.bs.length c2]),(7,.bool false),(6,.bool true),(5,.agg #[Vz a1 b.tg.length c1,Vz a2 b.bs.length c2]),(3,Pz (W.heap.size+2) 0),(2,Pz (W.heap.size+1) 0),(1,Pz W.heap.size 0),(0,.agg #[Vz a1 b.tg.length c1,Vz a2 b.bs.length c2])] hh hT λgs sl t d T hh hT=>?_;refine Gm hh rfl λd=>⟨_,(pushes V2 [.deferred (some []),.loop (Bm T V2.heap.size)]).at d,#[],0,WP (b:=base 132) (a:=⟨T,[]⟩) (gf:=205) (lb:=#[Pz V1.heap.size 0]) (w:=V2.at d) (by simp[Act.eval,hT.gi 9]) func205 sI rfl rfl,dC,λgs sl t hh=>?_⟩;obtain⟨dl,l,a7,hl⟩:∃dl l,V2.heap.size=dl/\l=dl+1:=⟨_,_,rfl,rfl⟩
  replace hh:F0 prog none_ gs (G (ff 205 (#[.func (.yield l) #[] #[],Pz V1.heap.size 0]++Array.replicate 31 undef) [.code tI]) (ff 132 T [.inRangeFunc l,.inBlock 0,.code eO] none [{target:=.collected dl,args:=#[]}]::c::cs)) t:=by
   subst hl a7;rw[← inI];exact hh
  have a6:Lw W (pushes V2 [.deferred (some []),.loop (Bm T V2.heap.size)]):=a5.pushes _ rfl;have a9:=Ex [.deferred (some []),.loop (Bm T V2.heap.size)] V2;have ho:=Fq [.deferred (some []),.loop (Bm T V2.heap.size)] V2;have r0:=Fs [.deferred (some []),.loop (Bm T V2.heap.size)] V2 0 _ rfl;have r1:=Fs [.deferred (some []),.loop (Bm T V2.heap.size)] V2 1 _ rfl;generalize pushes V2 [.deferred (some []),.loop (Bm T V2.heap.size)]=V3 at *;rw[a7] at a9 r0 r1;simp only[List.length_cons,List.length_nil] at a9;rw[Ah8] at hh;have a0:Has 33 (#[Value.func (.yield l) #[] #[],Pz V1.heap.size 0]++Array.replicate 31 undef) [(1,Pz V1.heap.size 0),(0,.func (.yield l) #[] #[])]:=⟨dC,dC⟩;generalize #[Value.func (.yield l) #[] #[],Pz V1.heap.size 0]++Array.replicate 31 undef=TI at hh a0;refine CK 2 [.inRegion (E0 tI 0) [0,1,2],.code (.seq (.region 1 (E0 tI 1) false) (.block 0 (.loop GK)))] [(1,Pz V1.heap.size 0),(0,.func (.yield l) #[] #[])] hh a0 λgs sl t d TI hh a0=>?_;refine CD 34 1 7 (c:=[Vz a1 b.tg.length c1,Vz a2 b.bs.length c2]) hh a0 ((ho _ oM).trans q4) λgs sl t d TI hh a0=>?_;refine CC 206 [7] #[34] 8 hh a0 (l_w (R:=λv u=>∃tb,v=Pz tb 0/\Bu u tb b.tg (X3 b.bs b.bs.length)/\V3.heap.size<=tb) a6.nv (λτ d=>(Un b _ _ (show Z5 (tp V3 τ d) _ b from (show Z5 (z V3) _ b from hB.up a6.up)) a8).mono (by rintro e w' ⟨⟨tb,rfl,h1,h2⟩,hb⟩;exact⟨⟨_,rfl,tb,rfl,h1,h2⟩,hb⟩))) λgs V4 sl t v TI hh a0 hn4 hR hb4=>?_;obtain⟨tb,rfl,a4,b1⟩:=hR;have b0:=(a6.at d).call hn4 hb4;have p4:∀b,b<V3.heap.size->V4.heap[b]?=V3.heap[b]?:=λb hb=>AE hb4 hb;refine CK 13 [.inRegion (E0 tI 2) [2],.code (.cond (.tmp 11) .skip (.exit 0)),.code PE,.inLoop GK,.inBlock 0] [(10,Nz),(9,.func (.yield l) #[] #[]),(4,Nz),(3,Pz tb 0),(8,Pz tb 0),(7,.agg #[Vz a1 b.tg.length c1,Vz a2 b.bs.length c2]),(1,Pz V1.heap.size 0),(0,.func (.yield l) #[] #[])] hh a0 λgs sl t d TI hh a0=>?_;refine AcD (V0:=V4) (W:=W) (tb:=tb) (l:=l) (dl:=dl) (bx:=W.heap.size) (p2:=W.heap.size+1) (p3:=W.heap.size+2) (a2:=a2) (c2:=c2) ⟨hT.sub dC,?_,?_,?_,⟨_,(p4 _ oM).trans ((ho _ oM).trans q2)⟩,⟨_,(p4 _ oM).trans ((ho _ oM).trans q3)⟩,?_⟩ a8 (λgs sl t V' u ok ss ho hh hL=>kk gs V' sl t _ hh hL.nv λτ d=>⟨⟨u,ss,ok,rfl,ho⟩,hL.bl τ d⟩) _ [] none 0 TI _ gs sl t rfl ⟨b0.at d,λ_ _=>rfl,⟨_,by rw[VF,List.take_length],ZU _ _,a4⟩,Aet _ _,.none,dC⟩ (a0.sub dC) hh
  .rw[p4 _ oM,hl];exact r1
  .rw[p4 _ oM];exact r0
  .rw[C2 (show V4.heap[W.heap.size]?=V2.heap[W.heap.size]? from (p4 _ oM).trans (ho _ oM))];simp[World.cell?,q1]
  .omega
theorem Agz{bv:Value}(hn:NV W)(hB:Z5 (z W) bv b):I8 prog 81 #[bv] W λv _=>v=.bool (pB (BE b)):=by
 obtain⟨a1,c1,a2,c2,rfl,-,-⟩:=hB.parts;intro Post c cs gs sl t hh kk;rw[inS,Ah6] at hh;have hT:Has 11 (#[Value.agg #[Vz a1 b.tg.length c1,Vz a2 b.bs.length c2]]++Array.replicate 10 undef) [(0,.agg #[Vz a1 b.tg.length c1,Vz a2 b.bs.length c2])]:=⟨dC,dC⟩;refine Agv 7 [.inRegion (E0 tS 1) [0,1,2,3,4,5,6],.code (.seq (.region 2 (E0 tS 2) false) .ret)] [(2,.bool false),(1,Pz W.heap.size 0),(0,.agg #[Vz a1 b.tg.length c1,Vz a2 b.bs.length c2])] [.cells #[Vz a1 b.tg.length c1,Vz a2 b.bs.length c2] 34] hh hT (.refl hn) λgs sl t V T hh hT hL _ _ hg=>?_;refine CD 34 1 6 hh hT (hg 0 _ rfl) λgs sl t d T hh hT=>?_;refine CC 132 [6] #[34] 7 hh hT (λx=>AeS hL.nv (hB.up hL.up)) λgs V1 sl t v T hh hT hn1 hR hb1=>?_;obtain⟨u,ss,ok,rfl,ho⟩:=hR;have a0:=(hL.at d).call hn1 hb1;refine CK 10 [.inRegion (E0 tS 2) [],.code .ret] [(2,.bool ok),(10,.bool ok),(4,.bool ok),(3,u),(9,.bool ok),(8,u),(5,.tuple #[u,.bool ok]),(7,.tuple #[u,.bool ok]),(6,.agg #[Vz a1 b.tg.length c1,Vz a2 b.bs.length c2]),(1,Pz W.heap.size 0),(0,.agg #[Vz a1 b.tg.length c1,Vz a2 b.bs.length c2])] hh hT λgs sl t d2 T hh hT=>?_;refine E8 (Dv func81 results81 (hT.gi 2)) hh λgs sl t d3 hh=>?_;exact kk gs _ sl t _ hh hn1 λτ d=>⟨by rw[VN ho],a0.bl τ d⟩
end
end Bd
namespace Bd
open Go.Conc Go.ConcN Go.RowKit Go.Conc.Lib Go.ConcR.Gen Go.ConcN.Gen
open Ld (I8 none_ tp)
section
variable {T:Array Value} {cs:List Frame}
end
theorem AeT(hv:Value):Frame.enter prog 45 #[hv] .normal=ff 45 (#[hv]++Array.replicate 5 undef) [.code PC]:=sI
section
variable {h:House} {a1 a2 a3 a4:Option Addr} {c1 c2 c3 c4:Nat} {W:World}
theorem AeU(hn:NV W)(H:HV (z W) h (Vz a1 h.sh.tg.length c1) (Vz a2 h.sh.bs.length c2) (Vz a3 h.bs.length c3) (Vz a4 h.ds.length c4)):I8 prog 45 #[.agg (Hcz h a1 c1 a2 c2 a3 c3 a4 c4).toArray] W λv _=>v=.bool (pB (BE h.sh)):=by
 intro Post c cs gs sl t hh kk;rw[AeT] at hh;have hT:Has 6 (#[Value.agg (Hcz h a1 c1 a2 c2 a3 c3 a4 c4).toArray]++Array.replicate 5 undef) [(0,.agg (Hcz h a1 c1 a2 c2 a3 c3 a4 c4).toArray)]:=⟨dC,λp hp=>by simp at hp;subst hp;simp⟩;refine Agv 8 [.inRegion (E0 PC 1) [1,2,3],.code .ret] [(3,Pz W.heap.size 2),(2,.bool false),(1,Pz W.heap.size 0),(0,.agg (Hcz h a1 c1 a2 c2 a3 c3 a4 c4).toArray)] [.cells (Hcz h a1 c1 a2 c2 a3 c3 a4 c4).toArray 38 (0,0)] hh hT (.refl hn) λgs sl t V T hh hT k1 _ _ hg=>?_;refine N9 (.load 34 (.tmp 3)) 4 (V':=V) (v:=.agg [Vz a1 h.sh.tg.length c1,Vz a2 h.sh.bs.length c2].toArray) hh hT (λ_ e x=>?_) λgs sl t d5 T hh hT=>?_
 .exact Yd _ (V.at x) Agp Agq e (hT.ei 3) (hg 0 _ rfl) rfl (λj v hj=>by
   rcases j with _|_|j
   iterate 2 .exact hj
   .simp at hj)
 refine CC 81 [4] #[34] 5 hh hT (λx=>Agz (b:=h.sh) k1.nv (let q:=k1.hv H _ _;⟨_,_,rfl,q.t,q.b⟩)) (λgs w' sl t v T hh hT hn' hR hb=>?_);obtain rfl:=hR;replace hT:=hT.sub (l':=[(5,.bool (pB (BE h.sh)))]) dC;refine F4 _ 2 hh hT (λ_ e x=>by rw[S5 _ _ e,hT.ei 5]) λgs sl t d7 T hh hT=>?_;refine E8 (Dv func45 results45 (hT.gi 2)) hh λgs sl t d8 hh=>?_;exact kk gs _ sl t _ hh hn' λτ d=>⟨rfl,(k1.call hn' hb).bl τ d⟩
end
def To:List Nat:=[43,44,45,46,47,48,49]
def fnV:List Value:=To.map λf=>.func (.func f) #[] #[]
theorem Adx:prog.underlying 86=some (.slice 45):=sI
theorem Aix:∃ds,prog.underlying 45=some ds/\Bh ds=false:=by
 obtain⟨ds,h1,h2⟩:=B6.1 (by kernel_rfl);exact⟨ds,h1,h2⟩
theorem Aiy:(prog.info? 45).map (·.size)=some 1:=sI
theorem AhB(f:Operand->Value){o:Oper}{x y:Operand}(w:World)(hop:o.op=.indexAddr 86 x y){c:Nat}(hx:f x=Sy B n c)(hy:f y=.int .i64 (i:Int))(hi:i<n):(execOp f o).runT prog w #[]=(.ok (.value (Pz B i)) w,#[]):=by
 obtain⟨a1,a0,hs⟩:=B6.1 Aiy;unfold execOp;rw[hop];simp only[hx,hy];have:=Ou Adx a0 hi (a:=⟨B,0,none⟩) (c:=c) w #[];rw[hs,IJ,Nat.zero_add,Nat.mul_one] at this;exact I9 this
noncomputable def hdH:Code:=.seq (.cond (.tmp 10) .skip (.exit 0)) (.seq (.block 1 (.seq (.region 4 (E0 P9 4) false) (.seq (.region 5 (E0 P9 5) false) (.cond (.tmp 16) (.seq (.region 6 (E0 P9 6) false) .ret) .skip)))) (.region 7 (E0 P9 7) false))
noncomputable def cdH:Code:=.seq (.region 5 (E0 P9 5) false) (.cond (.tmp 16) (.seq (.region 6 (E0 P9 6) false) .ret) .skip)
noncomputable def NC:Code:=.seq (.region 8 (E0 P9 8) false) .ret
section
variable {T:Array Value} {cs:List Frame} {k:List Item}
theorem Ag1:Walk prog true 2 (G (ff 19 T (.code Gp::k)) cs) (G (ff 19 T (.inRegion (E0 P9 3) [0]::.code hdH::k)) cs):=G6 2 sI
theorem Ai3(e:T[10]?=some (.bool true)):Walk prog true 8 (G (ff 19 T (.inRegion (E0 P9 3) []::.code hdH::k)) cs) (G (ff 19 T (.inRegion (E0 P9 4) [0,1,2]::.code cdH::.inBlock 1::.code (.region 7 (E0 P9 7) false)::k)) cs):=CA e 8 sI
theorem Ai5:Walk prog true 3 (G (ff 19 T (.inRegion (E0 P9 4) []::.code cdH::k)) cs) (G (ff 19 T (.inRegion (E0 P9 5) [0,1,2,3]::.code (.cond (.tmp 16) (.seq (.region 6 (E0 P9 6) false) .ret) .skip)::k)) cs):=G6 3 sI
theorem Ai6(e:T[16]?=some (.bool true)):Walk prog true 4 (G (ff 19 T (.inRegion (E0 P9 5) []::.code (.cond (.tmp 16) (.seq (.region 6 (E0 P9 6) false) .ret) .skip)::k)) cs) (G (ff 19 T (.inRegion (E0 P9 6) [0]::.code .ret::k)) cs):=CA e 4 sI
theorem Ai7(e:T[16]?=some (.bool false)):Walk prog true 5 (G (ff 19 T (.inRegion (E0 P9 5) []::.code (.cond (.tmp 16) (.seq (.region 6 (E0 P9 6) false) .ret) .skip)::.inBlock 1::.code (.region 7 (E0 P9 7) false)::k)) cs) (G (ff 19 T (.inRegion (E0 P9 7) [0,1]::k)) cs):=CA e 5 sI
theorem Ai8:Walk prog true 2 (G (ff 19 T (.inRegion (E0 P9 7) []::.inLoop Gp::k)) cs) (G (ff 19 T (.code Gp::.inLoop Gp::k)) cs):=G6 2 sI
end
section
variable {h:House} {a1 a2 a3 a4:Option Addr} {c1 c2 c3 c4:Nat} {W V:World}
theorem QA(P:Prop):X9 (λ_:World=>P):=λ_ _ _ h=>h
theorem AhC(k:Lw W V)(hE:F6 (z W))(H:HV (z W) h (Vz a1 h.sh.tg.length c1) (Vz a2 h.sh.bs.length c2) (Vz a3 h.bs.length c3) (Vz a4 h.ds.length c4)):∀j,j<7->(∀i,i<j->Pv h i)->∀g,To[j]?=some g->∀x,I8 prog g #[.agg (Hcz h a1 c1 a2 c2 a3 c3 a4 c4).toArray] (V.at x) λv _=>v=.bool (pB (Pv h j)):=by
 have a0:∀(g:FuncId)(j:Nat),Ld.sL g=true->Ld.fsl g=[]->((prog.funcs[g]?).bind (·.body)).isSome=true->(∀u:World,HV u h _ _ _ _->F6 u->Calls prog g #[.agg (Hcz h a1 c1 a2 c2 a3 c3 a4 c4).toArray] u λe w'=>e=.returned (.bool (pB (Pv h j)))/\Up u w')->∀x,I8 prog g #[.agg (Hcz h a1 c1 a2 c2 a3 c3 a4 c4).toArray] (V.at x) λv _=>v=.bool (pB (Pv h j)):=λg j h1 h2 h3 hc x =>
  Ld.l_of Ld.setL h1 (Er h2 _) (W:=V.at x) k.nv (λv=>QA _) (λτ d=>by
   refine (hc _ (k.hv H τ d) (k.ends hE τ d)).mono ?_;rintro e w' ⟨rfl,hb⟩;exact⟨⟨_,rfl,rfl⟩,hb⟩) h3
 intro j hj hp g hg;match j,hj with
 | 0,_ =>
  obtain rfl:g=43:=(A5 hg).symm;exact a0 _ 0 sI sI sI λu Hu _=>XH h _ _ _ _ u Hu
 | 1,_ =>
  obtain rfl:g=44:=(A5 hg).symm;exact a0 _ 1 sI sI sI λu Hu _=>XI h _ _ _ _ u Hu
 | 2,_ =>
  obtain rfl:g=45:=(A5 hg).symm;exact λx=>AeU (W:=V.at x) k.nv (Ads (H.up k.up) _ _)
 | 3,_ =>
  obtain rfl:g=46:=(A5 hg).symm;exact a0 _ 3 sI sI sI λu Hu _=>XN h _ _ _ _ u Hu (BE.book (hp 2 oM))
 | 4,_ =>
  obtain rfl:g=47:=(A5 hg).symm;exact a0 _ 4 sI sI sI λu Hu He=>Aat h _ _ _ _ u He Hu
 | 5,_ =>
  obtain rfl:g=48:=(A5 hg).symm;exact a0 _ 5 sI sI sI λu Hu He=>XQ h _ _ _ _ u He Hu (BE.book (hp 2 oM)) (hp 3 oM)
 | 6,_ =>
  obtain rfl:g=49:=(A5 hg).symm;exact a0 _ 6 sI sI sI λu Hu He=>Aav h _ _ _ _ u He Hu (BE.book (hp 2 oM)) (hp 3 oM) (hp 4 oM)
variable {Post:Value->World->Prop} {c:Frame} {cs:List Frame}
theorem ND(hE:F6 (z W))(H:HV (z W) h (Vz a1 h.sh.tg.length c1) (Vz a2 h.sh.bs.length c2) (Vz a3 h.bs.length c3) (Vz a4 h.ds.length c4)){Hb Fb:Nat}(kk:∀gs' w' sl' t',F0 prog none_ gs' (G (c.finish (.bool (pB (F2 h)))) cs) t'->Lw W w'->D9 prog Post (crowd gs' w' sl') t'):
  ∀(m k:Nat)(V:World)(gs:Array Goroutine)(sl:Option (Nat×Nat)) (t:Trace) (T:Array Value),k+m=7->(∀i,i<k->Pv h i)->Lw W V->V.heap[Hb]?=some (.cells (Hcz h a1 c1 a2 c2 a3 c3 a4 c4).toArray 38 (0,0))->V.heap[Fb]?=some (.cells fnV.toArray 45 (0,0))->
   Has 18 T [(9,Iz (k:Int)),(8,Iz 7),(7,Sy Fb 7 7),(1,Pz Hb 0)]->F0 prog none_ gs (G (ff 19 T [.code Gp,.inLoop Gp,.inBlock 0,.code NC]) (c::cs)) t->D9 prog Post (crowd gs V sl) t
 | 0,k,V,gs,sl,t,T,hm,hp,hL,hH,hF,hT,hh=>by
  obtain rfl:k=7:=oM
  refine E8 Ag1 hh λgs sl t d0 hh=>?_;refine F4 (.binOp .lss 3 (.tmp 9) (.tmp 8) 3) 10 (v:=.bool false) hh hT (λ_ e x=>Lm 7 7 _ e (hT.ei 9) (hT.ei 8) x) λgs sl t d1 T hh hT=>?_;refine E8 (CA (l':=[.inRegion (E0 P9 8) [0],.code .ret]) (hT.gi 10) 6 sI) hh λgs sl t d2 hh=>?_;replace hT:=hT.sub (l':=[(1,Pz Hb 0)]) dC;refine F4 (.assign (.const (.bool true))) 2 (v:=.bool true) hh hT (λ_ e x=>S5 _ _ e) λgs sl t d3 T hh hT=>?_;refine E8 (Dv func19 results19 (hT.gi 2)) hh λgs sl t d4 hh=>?_;have e:pB (F2 h)=true:=G7.2 ((Pw h).2 hp);exact kk gs _ sl t (by rw[e];exact hh) ((((((hL.at _).at _).at _).at _).at _))
 | m+1,k,V,gs,sl,t,T,hm,hp,hL,hH,hF,hT,hh=>by
  have hk:k<7:=oM
  refine E8 Ag1 hh λgs sl t d0 hh=>?_;refine F4 (.binOp .lss 3 (.tmp 9) (.tmp 8) 3) 10 (v:=.bool true) hh hT (λ_ e x=>(Lm (k:Int) 7 _ e (hT.ei 9) (hT.ei 8) x).trans (by rw[decide_eq_true (show (k:Int)<7 by omega)])) λgs sl t d1 T hh hT=>?_;refine E8 (Ai3 (hT.gi 10)) hh λgs sl t d2 hh=>?_;replace hT:=hT.sub (l':=[(9,Iz (k:Int)),(8,Iz 7),(7,Sy Fb 7 7),(1,Pz Hb 0)]) dC;refine F4 (.indexAddr 86 (.tmp 7) (.tmp 9)) 11 (v:=Pz Fb k) hh hT (λ_ e x=>AhB _ _ e (hT.ei 7) (hT.ei 9) hk) λgs sl t d3 T hh hT=>?_;have hlen:To.length=7:=rfl;obtain⟨g,hg⟩:∃g,To[k]?=some g:=⟨To[k],A0 oM⟩
  have qk:V.cell? ⟨Fb,k,none⟩=some (.func (.func g) #[] #[]):=by
   have:fnV.toArray[k]?=some (.func (.func g) #[] #[]):=by
    rw[List.getElem?_toArray];unfold fnV;rw[B3,hg];rfl
   simp only[World.cell?,hF];exact this
  obtain⟨ds,a6,a7⟩:=Aix;refine N9 (.load 45 (.tmp 11)) 12 (V':=V) (v:=.func (.func g) #[] #[]) hh hT (λ_ hop x=>⟨_,_,JG _ _ a6 a7 hop (hT.ei 11) qk,by intro e he;simp at he;subst he;exact N7 id⟩) λgs sl t d4 T hh hT=>?_;refine F4 (.assign (.tmp 12)) 5 (v:=.func (.func g) #[] #[]) hh hT (λ_ e x=>by rw[S5 _ _ e,hT.ei 12]) λgs sl t d5 T hh hT=>?_;refine E8 Ai5 hh λgs sl t d6 hh=>?_;refine F4 (.move (.tmp 5)) 13 (v:=.func (.func g) #[] #[]) hh hT (λ_ e x=>by rw[Y2 e,hT.ei 5]) λgs sl t d7 T hh hT=>?_;refine CD 38 1 14 hh hT hH λgs sl t d8 T hh hT=>?_
  obtain⟨fn,a8,a9,b0⟩:∃fn,prog.funcs[g]?=some fn/\fn.body.isNone=false/\(fn.name == "runtime.NumGoroutine")=false:=by
   have a0:∀g∈To,∃fn,prog.funcs[g]?=some fn/\fn.body.isNone=false/\(fn.name == "runtime.NumGoroutine")=false:=by
    intro g hg;simp only[To,List.mem_cons,List.not_mem_nil,or_false] at hg;rcases hg with rfl|rfl|rfl|rfl|rfl|rfl|rfl
    .exact⟨_,func43,sI,sI⟩
    .exact⟨_,func44,sI,sI⟩
    .exact⟨_,func45,sI,sI⟩
    .exact⟨_,func46,sI,sI⟩
    .exact⟨_,func47,sI,sI⟩
    .exact⟨_,func48,sI,sI⟩
    .exact⟨_,func49,sI,sI⟩
   exact a0 g (A6 hg)
  refine Tm (.call {callee:=.value (.tmp 13),args:=#[.tmp 14],argTypes:=#[38]}) 15 hh hT (λ_ e w=>Ah5 _ w e (hT.ei 13) (args:=#[.agg (Hcz h a1 c1 a2 c2 a3 c3 a4 c4).toArray]) (by simp only[List.map_toArray,List.map_cons,List.map_nil];rw[hT.ei 14]) a8 a9 b0) (AhC (hL.at d8) hE H k hk hp g hg) λgs w' sl t v T hh hT hn' hR hB=>?_;subst hR;have b1:Hb<V.heap.size:=(D1.1 hH).1;have b2:Fb<V.heap.size:=(D1.1 hF).1;have a5:Lw W w':=(hL.at d8).call hn' hB;have b3:w'.heap[Hb]?=some (.cells (Hcz h a1 c1 a2 c2 a3 c3 a4 c4).toArray 38 (0,0)):=(AE hB b1).trans hH;have b4:w'.heap[Fb]?=some (.cells fnV.toArray 45 (0,0)):=(AE hB b2).trans hF;refine F4 (.unOp .not 4 (.tmp 15)) 16 (v:=.bool !(pB (Pv h k))) hh hT (λ_ e x=>Yc _ _ e (hT.ei 15)) λgs sl t d9 T hh hT=>?_;cases hck:pB (Pv h k) with
  | false =>
   rw[hck] at hT;refine E8 (Ai6 (hT.gi 16)) hh λgs sl t d10 hh=>?_;replace hT:=hT.sub (l':=[(1,Pz Hb 0)]) dC;refine F4 (.assign (.const (.bool false))) 2 (v:=.bool false) hh hT (λ_ e x=>S5 _ _ e) λgs sl t d11 T hh hT=>?_;refine E8 (Dv func19 results19 (hT.gi 2)) hh λgs sl t d12 hh=>?_;have e:pB (F2 h)=false:=N8.2 λhok=>N8.1 hck ((Pw h).1 hok k hk);exact kk gs _ sl t (by rw[e];exact hh) (((((a5.at _).at _).at _).at _))
  | true =>
   rw[hck] at hT;refine E8 (Ai7 (hT.gi 16)) hh λgs sl t d10 hh=>?_;replace hT:=hT.sub (l':=[(9,Iz (k:Int)),(8,Iz 7),(7,Sy Fb 7 7),(1,Pz Hb 0)]) dC;have ew:IntKind.i64.wrap ((k:Int)+1)=((k+1:Nat):Int):=by rw[IntKind.wrap_i64];omega
   refine F4 (.binOp .add 3 (.tmp 9) (.const (Iz 1)) 3) 17 (v:=.int .i64 ((k+1:Nat):Int)) hh hT (λ_ e x=>by rw[← ew];exact VY _ _ _ e (hT.ei 9) rfl x) λgs sl t d11 T hh hT=>?_;replace hT:=hT.sub (l':=[(17,Iz ((k+1:Nat):Int)),(8,Iz 7),(7,Sy Fb 7 7),(1,Pz Hb 0)]) dC;refine F4 (.move (.tmp 17)) 9 (v:=.int .i64 ((k+1:Nat):Int)) hh hT (λ_ e x=>by rw[Y2 e,hT.ei 17]) λgs sl t d12 T hh hT=>?_;refine E8 Ai8 hh λgs sl t d13 hh=>?_
   exact ND hE H kk m (k+1) _ gs sl t T oM (λi hi=>by
    rcases Nat.lt_or_ge i k with h1|h1
    .exact hp i h1
    .obtain rfl:i=k:=oM
     exact G7.1 hck) (((((a5.at _).at _).at _).at _).at _) b3 b4 (hT.sub dC) hh
theorem AeV(hv:Value):Frame.enter prog 19 #[hv] .normal=ff 19 (#[hv]++Array.replicate 17 undef) [.code P9]:=sI
theorem We(hn:NV W)(hE:F6 (z W))(H:HV (z W) h (Vz a1 h.sh.tg.length c1) (Vz a2 h.sh.bs.length c2) (Vz a3 h.bs.length c3) (Vz a4 h.ds.length c4)):I8 prog 19 #[.agg (Hcz h a1 c1 a2 c2 a3 c3 a4 c4).toArray] W λv _=>v=.bool (pB (F2 h)):=by
 intro Post c cs gs sl t hh kk;rw[AeV] at hh;have hT:Has 18 (#[Value.agg (Hcz h a1 c1 a2 c2 a3 c3 a4 c4).toArray]++Array.replicate 17 undef) [(0,.agg (Hcz h a1 c1 a2 c2 a3 c3 a4 c4).toArray)]:=⟨dC,λp hp=>by simp at hp;subst hp;simp⟩;generalize #[Value.agg (Hcz h a1 c1 a2 c2 a3 c3 a4 c4).toArray]++Array.replicate 17 undef=T at hh hT;refine Agv 19 [.code Gp,.inLoop Gp,.inBlock 0,.code NC] [(9,Iz 0),(8,Iz 7),(7,Sy (W.heap.size+1) 7 7),(3,Sy (W.heap.size+1) 7 7),(6,Sy (W.heap.size+1) 7 7),(2,.bool false),(1,Pz W.heap.size 0),(0,.agg (Hcz h a1 c1 a2 c2 a3 c3 a4 c4).toArray)] [.cells (Hcz h a1 c1 a2 c2 a3 c3 a4 c4).toArray 38 (0,0),.cells fnV.toArray 45 (0,0)] hh hT (.refl hn) λgs sl t V T hh hT hL _ _ hg=>?_;exact ND hE H (Hb:=W.heap.size) (Fb:=W.heap.size+1) (λgs' w' sl' t' hh' hL=>kk gs' w' sl' t' _ hh' hL.nv λτ d=>⟨rfl,hL.bl τ d⟩) 7 0 _ gs sl t T rfl (λi hi=>oM) hL (hg 0 _ rfl) (hg 1 _ rfl) (hT.sub dC) hh
end
theorem Aja:(E0 DV 3)[2]?=some (U9 DV 3 2)/\(U9 DV 3 2).op=.call {callee:=.value (.func 92),args:=#[.tmp 7,.const (Iz 0),.func 93],argTypes:=(match (U9 DV 3 2).op with | .call c=>c.argTypes|_=>#[])}/\(U9 DV 3 2).dst=some 8/\(U9 DV 3 2).guard=none:=⟨sI,sI,sI,sI⟩
noncomputable def tlL:Code:=.seq (.region 3 (E0 DV 3) false) .ret
noncomputable def cdL:Code:=.cond (.tmp 5) (.seq (.region 2 (E0 DV 2) false) .ret) .skip
section
variable {T:Array Value} {cs:List Frame} {k:List Item}
end
theorem AeW(hv:Value):Frame.enter prog 51 #[hv] .normal=ff 51 (#[hv]++Array.replicate 8 undef) [.code DV]:=sI
section
variable {h:House} {a1 a2 a3 a4:Option Addr} {c1 c2 c3 c4:Nat} {W V:World}
theorem Ag2(k:Lw W V)(hE:F6 (z W))(H:HV (z W) h (Vz a1 h.sh.tg.length c1) (Vz a2 h.sh.bs.length c2) (Vz a3 h.bs.length c3) (Vz a4 h.ds.length c4))(hok:F2 h):∀x,I8 prog 92 #[Vz a3 h.bs.length c3,Iz 0,.func (.func 93) #[] #[]] (V.at x) λv _=>v=.int .i64 (I0 h.bs):=λx =>
 Ld.l_of Ld.setL sI (λy hy=>by
  have hy:y=2\/y=15:=by
   have hy:y∈Ld.fsl 92:=hy;rw[show Ld.fsl 92=[2,15] by kernel_rfl] at hy;simpa using hy
  rcases hy with rfl|rfl
  .exact .inr ⟨93,rfl,sI⟩
  .exact .inl rfl) (W:=V.at x) k.nv (λv=>QA _) (λτ d=>by
   refine (Aa0 h.bs _ (tp (V.at x) τ d) (k.ends hE τ d) (k.hv H τ d).x hok.each hok.few).mono ?_;rintro e w' ⟨rfl,hb⟩;exact⟨⟨_,rfl,rfl⟩,hb⟩) sI
theorem Ag3(hn:NV W)(hE:F6 (z W))(H:HV (z W) h (Vz a1 h.sh.tg.length c1) (Vz a2 h.sh.bs.length c2) (Vz a3 h.bs.length c3) (Vz a4 h.ds.length c4))(hok:F2 h):I8 prog 51 #[.agg (Hcz h a1 c1 a2 c2 a3 c3 a4 c4).toArray] W λv _=>v=.int .i64 (I0 h.bs):=by
 intro Post c cs gs sl t hh kk;rw[AeW] at hh;have hT:Has 9 (#[Value.agg (Hcz h a1 c1 a2 c2 a3 c3 a4 c4).toArray]++Array.replicate 8 undef) [(0,.agg (Hcz h a1 c1 a2 c2 a3 c3 a4 c4).toArray)]:=⟨dC,λp hp=>by simp at hp;subst hp;simp⟩;generalize #[Value.agg (Hcz h a1 c1 a2 c2 a3 c3 a4 c4).toArray]++Array.replicate 8 undef=T at hh hT;refine Agv 8 [.inRegion (E0 DV 1) [0,1,2],.code cdL,.code tlL] [(2,Iz 0),(1,Pz W.heap.size 0),(0,.agg (Hcz h a1 c1 a2 c2 a3 c3 a4 c4).toArray)] [.cells (Hcz h a1 c1 a2 c2 a3 c3 a4 c4).toArray 38 (0,0)] hh hT (.refl hn) λgs sl t V1 T hh hT k1 _ _ hg=>?_;have a0:V1.heap[W.heap.size]?=some (.cells (Hcz h a1 c1 a2 c2 a3 c3 a4 c4).toArray 38 (0,0)):=hg 0 _ rfl;refine CD 38 1 3 hh hT a0 λgs sl t d4 T hh hT=>?_;refine CC 19 [3] #[38] 4 hh hT (λx=>We (W:=(V1.at d4).at x) k1.nv (k1.ends hE _ _) (k1.hv H _ _)) λgs w2 sl t v T hh hT hn2 hR hB=>?_;subst hR;have a5:W.heap.size<V1.heap.size:=(D1.1 a0).1;have k2:Lw W w2:=(k1.at d4).call hn2 hB;have a6:w2.heap[W.heap.size]?=some (.cells (Hcz h a1 c1 a2 c2 a3 c3 a4 c4).toArray 38 (0,0)):=(AE hB a5).trans a0;rw[G7.2 hok] at hT;refine CK 7 [.inRegion (E0 DV 3) [1,2,3],.code .ret] [(6,Pz W.heap.size 4),(5,.bool false),(4,.bool true),(3,.agg (Hcz h a1 c1 a2 c2 a3 c3 a4 c4).toArray),(2,Iz 0),(1,Pz W.heap.size 0),(0,.agg (Hcz h a1 c1 a2 c2 a3 c3 a4 c4).toArray)] hh hT λgs sl t d7 T hh hT=>?_;have q4:AS w2 W.heap.size 4 (Vz a3 h.bs.length c3):=by simp[World.cell?,a6]
 refine N9 (.load 35 (.tmp 6)) 7 (V':=w2) (v:=Vz a3 h.bs.length c3) hh hT (λ_ hop x=>⟨_,_,Nw _ _ hop (hT.ei 6) q4,by intro e he;simp at he;subst he;exact N7 id⟩) λgs sl t d8 T hh hT=>?_;refine Tm (.call {callee:=.value (.func 92),args:=#[.tmp 7,.const (Iz 0),.func 93],argTypes:=(match (U9 DV 3 2).op with | .call c=>c.argTypes|_=>#[])}) 8 hh hT (λ_ e w=>Dw _ e rfl (args:=#[Vz a3 h.bs.length c3,Iz 0,.func (.func 93) #[] #[]]) (by simp only[List.map_toArray,List.map_cons,List.map_nil];rw[hT.ei 7];rfl) func92 sI sI w) (Ag2 (k2.at d8) hE H hok) λgs w3 sl t v T hh hT hn3 hR hB3=>?_;subst hR;have k3:Lw W w3:=(k2.at d8).call hn3 hB3;replace hT:=hT.sub (l':=[(8,Iz (I0 h.bs))]) dC;refine F4 (.assign (.tmp 8)) 2 (v:=.int .i64 (I0 h.bs)) hh hT (λ_ e x=>by rw[S5 _ _ e,hT.ei 8]) λgs sl t d9 T hh hT=>?_;refine E8 (Dv func51 results51 (hT.gi 2)) hh λgs sl t d10 hh=>?_;exact kk gs _ sl t _ hh k3.nv λτ d=>⟨rfl,k3.bl τ d⟩
end
end Bd
section
open Go.RowKit
theorem AaC{x:World}(e:x.heap=u.heap)(a:Addr):x.cell? a=u.cell? a:=C2 (by rw[e])
theorem AeX{x:World}(e:x.heap=u.heap)(h:Ls u v ss):Ls x v ss:=by
 obtain⟨a,c,rfl,h1,h2,h3⟩:=h;refine⟨a,c,rfl,h1,h2,λhp=>?_⟩;obtain⟨b,o,rfl,hS,a0⟩:=h3 hp;exact⟨b,o,rfl,λi s hs=>(AaC e _).trans (hS i s hs),by rw[e];exact a0⟩
theorem JJ{P:Program}{x:World}(e:x.heap=u.heap){n:String}{k:IntKind}(h:Lib.TabIs P u n k zs):Lib.TabIs P x n k zs:=by
 unfold Lib.TabIs World.var? at *;rw[e];exact h
def Cp(x0:Rb)(has:List BA):List BA:=if x0.si=-1 then [x0.nm,x0.ad,Cn]++has else [x0.nm,x0.ad,Em,I3 x0.si]++has
theorem AcE(x0:Rb)(p q c g r d:Nat)(hv:Value)(has:List BA)(w:World)(hT:Lib.TabIs prog w "internal/strconv.uint64pow10" .u64 Lib.pow10Tab)(hL:Ls w hv has)(hn:has.length<=100)(hsi:x0.si=-1\/0<=x0.si/\x0.si<=1000000/\(I3 x0.si).size<=maxLen)(hj:(Lib.join ((Cp x0 has).map λs=>s.data.toList) [32]).length<=1000000):
  cU prog 55 #[.agg (Rzz x0 p q c g r d).toArray,hv] w (Tz (GJ (Cp x0 has))):=by
 unfold Cp at hj ⊢
 by_cases hs:x0.si=-1
 .rw[if_pos hs] at hj ⊢
  rw[Rzz,hs];exact Aa2 _ _ _ _ _ _ _ _ _ _ _ _ hL hn hj
 .rw[if_neg hs] at hj ⊢
  obtain⟨h0,h1,hz⟩:=hsi.resolve_left hs;exact Ae9 _ _ _ _ _ _ _ _ _ _ hs h0 h1 hz _ _ _ hT hL hn hj
theorem UI(h:House)(x0:Rb)(a1 a2 a3 a4:Option Addr)(c1 c2 c3 c4 p q c g r d:Nat)(U:Array Obj)(hT:∀x:World,x.heap=U->Lib.TabIs prog x "internal/strconv.uint64pow10" .u64 Lib.pow10Tab)(H:∀x:World,x.heap=U->Z5 x (.agg #[Vz a1 h.sh.tg.length c1,Vz a2 h.sh.bs.length c2]) h.sh)(hok:J3 h.sh)(hm:x0.nm∈G9 h.sh.bs)
  (hn:(J6 h.sh x0.nm).has.length<=100) (hsi:x0.si=-1\/0<=x0.si/\x0.si<=1000000/\(I3 x0.si).size<=maxLen) (hj:(Lib.join ((Cp x0 (J6 h.sh x0.nm).has).map λs=>s.data.toList) [32]).length<=1000000) :
  ∀x:World,x.heap=U->Calls prog 56 #[.agg (Hcz h a1 c1 a2 c2 a3 c3 a4 c4).toArray,.agg (Rzz x0 p q c g r d).toArray] x λe u'=>∃v,e=.returned v/\∃a b c',v=.agg #[a,b,c']/\∀x':World,x'.heap=u'.heap->Calls prog 55 #[.agg (Rzz x0 p q c g r d).toArray,b] x' λe _=>∃v,e=.returned v/\v=Tz (GJ (Cp x0 (J6 h.sh x0.nm).has)):=λx hx=>by
 refine (Ig h x0 a1 a2 a3 a4 c1 c2 c3 c4 p q c g r d x (H x hx) hok hm).mono ?_;rintro e u' ⟨⟨b1,k1,b2,k2,rfl,hL,-⟩,hB⟩;refine⟨_,rfl,_,_,_,rfl,λx' hx'=>?_⟩;refine (AcE x0 p q c g r d _ (J6 h.sh x0.nm).has x' (JJ hx' (Lib.tabBelow_of_tabIs (hT x hx) u' hB)) (AeX hx' hL) hn hsi hj).mono ?_;rintro e w' ⟨rfl,-⟩;exact⟨_,rfl,rfl⟩
end
namespace Bd
open Go.Conc Go.ConcN Go.RowKit Go.Conc.Lib Go.ConcR.Gen Go.ConcN.Gen
open Ld (I8 none_ tp)
def Oy:BA:=⟨#[110,111,119,32]⟩
def NE:BA:=⟨#[32,108,101,102,116,32]⟩
theorem NF:Oq (E0 J8 1) (U9 J8 1 0) 0 (.fieldAddr 38 (.tmp 1) 0) (some 3):=oq sI
theorem IM:Oq (E0 J8 1) (U9 J8 1 1) 1 (.load 3 (.tmp 3)) (some 4):=oq sI
theorem KH:Oq (E0 J8 1) (U9 J8 1 2) 2 (.call {callee:=.value (.func 50),args:=#[.tmp 4],argTypes:=#[3]}) (some 5):=oq sI
theorem KI:Oq (E0 J8 1) (U9 J8 1 3) 3 (.binOp .add 9 (.const (Tz Oy)) (.tmp 5) 9) (some 6):=oq sI
theorem KJ:Oq (E0 J8 1) (U9 J8 1 4) 4 (.binOp .add 9 (.tmp 6) (.const (Tz NE)) 9) (some 7):=oq sI
theorem KL:Oq (E0 J8 1) (U9 J8 1 5) 5 (.load 38 (.tmp 1)) (some 8):=oq sI
theorem KM:Oq (E0 J8 1) (U9 J8 1 6) 6 (.call {callee:=.value (.func 51),args:=#[.tmp 8],argTypes:=#[38]}) (some 9):=oq sI
theorem KN:Oq (E0 J8 1) (U9 J8 1 7) 7 (.call {callee:=.value (.func 50),args:=#[.tmp 9],argTypes:=#[3]}) (some 10):=oq sI
theorem IP:Oq (E0 J8 1) (U9 J8 1 8) 8 (.binOp .add 9 (.tmp 7) (.tmp 10) 9) (some 11):=oq sI
theorem KO:Oq (E0 J8 1) (U9 J8 1 9) 9 (.assign (.tmp 11)) (some 2):=oq sI
theorem aH1:(U9 J8 1 1).after.toList.map (·.on)=[0]/\(U9 J8 1 1).after.all (λe=>Region.binds .any e)=true:=⟨sI,sI⟩
theorem aH2:(U9 J8 1 2).after.toList.map (·.on)=[1]/\(U9 J8 1 2).after.all (λe=>Region.binds .any e)=true:=⟨sI,sI⟩
theorem aH3:(U9 J8 1 3).after.toList.map (·.on)=[2]/\(U9 J8 1 3).after.all (λe=>Region.binds .any e)=true:=⟨sI,sI⟩
theorem aH4:(U9 J8 1 4).after.toList.map (·.on)=[3]/\(U9 J8 1 4).after.all (λe=>Region.binds .any e)=true:=⟨sI,sI⟩
theorem aH6:(U9 J8 1 6).after.toList.map (·.on)=[5,2]/\(U9 J8 1 6).after.all (λe=>Region.binds .any e)=true:=⟨sI,sI⟩
theorem aH7:(U9 J8 1 7).after.toList.map (·.on)=[6,6]/\(U9 J8 1 7).after.all (λe=>Region.binds .any e)=true:=⟨sI,sI⟩
theorem aH8:(U9 J8 1 8).after.toList.map (·.on)=[4,7]/\(U9 J8 1 8).after.all (λe=>Region.binds .any e)=true:=⟨sI,sI⟩
theorem aH9:(U9 J8 1 9).after.toList.map (·.on)=[8,7,0,1,2,3,4,5,6,7,8]/\(U9 J8 1 9).after.all (λe=>Region.binds .any e)=true:=⟨sI,sI⟩
theorem Ady:(E0 J8 0).size=2/\(E0 J8 1).size=10:=⟨sI,sI⟩
theorem QD(f:Operand->Value){o:Oper}{x y:Operand}(w:World)(hop:o.op=.binOp .add 9 x y 9){u:BA}(hx:f x=Tz s)(hy:f y=Tz u)(hb:s.size+u.size<=9223372036854775807):(execOp f o).runT prog w #[]=(.ok (.value (Tz (s++u))) w,#[]):=by
 have e:Op.stringOp .add s u=pure (Tz (s++u)):=by
  show (if ((s.size+u.size:Nat):Int) > IntKind.i64.max then _ else _)=_
  rw[if_neg (by show ¬_ > (9223372036854775807:Int);omega)]
 unfold execOp;rw[hop,Sem.runT_eq];simp[go_sem,hx,hy,e]
theorem Ag4(f:Operand->Value){o:Oper}{x:Operand}(w:World)(hop:o.op=.fieldAddr 38 x 0)(hx:f x=Pz H 0):(execOp f o).runT prog w #[]=(.ok (.value (Pz H 0)) w,#[]):=by
 unfold execOp;rw[hop];simp only[hx];exact I9 sI
def KP(i:Nat):Nat:=([3,4,5,6,7,8,9,10,11,2][i]?).getD 0
section
variable {h:House} {a1 a2 a3 a4:Option Addr} {c1 c2 c3 c4:Nat} {W V:World}
abbrev BR (w:World):Prop:=Lib.TabIs prog w "internal/strconv.uint64pow10" .u64 Lib.pow10Tab
theorem AaD(k:Lw W V)(hP:BR (z W)){n:Int}(h0:-9223372036854775808<=n)(h1:n<=9223372036854775807):∀x,I8 prog 50 #[Iz n] (V.at x) λv _=>v=Tz (I3 n):=λx =>
 Ld.l_of Ld.setL sI (Er sI _) (W:=V.at x) k.nv (λv=>QA _) (λτ d=>by
  refine (Tryz.strconv_Itoa n h0 h1 (tp (V.at x) τ d) (JJ (u:=z V) rfl (Lib.tabBelow_of_tabIs hP _ k.up))).mono ?_;rintro e w' ⟨rfl,k',os,rfl⟩;exact⟨⟨_,rfl,rfl⟩,Lib.below_grow _ (tp (V.at x) τ d) (A3 _) k' os⟩) sI
theorem Bn{n:Int}(h0:-9223372036854775808<=n)(h1:n<=9223372036854775807):(I3 n).size<=21:=Lib.itoa_length_le n h0 h1
def L9(h:House):BA:=Oy++I3 h.now++NE++I3 (I0 h.bs)
def vH(h:House)(hv:Value)(Hb:Nat):Nat->Value
 | 0=>.pointer (some ⟨Hb,0,none⟩)
 | 1=>.int .i64 h.now
 | 2=>.string (I3 h.now)
 | 3=>.string (Oy++I3 h.now)
 | 4=>.string (Oy++I3 h.now++NE)
 | 5=>hv
 | 6=>.int .i64 (I0 h.bs)
 | 7=>.string (I3 (I0 h.bs))
 | _=>.string (L9 h)
structure JH (W:World) (h:House) (hc:Array Value) (Hb:Nat) (done:List Nat) (T:Array Value) (V:World):Prop where
 size:T.size=12
 s1:T[1]?=some (.pointer (some ⟨Hb,0,none⟩))
 vals:∀i∈done,i<10/\T[KP i]?=some (vH h (.agg hc) Hb i)
 up:Lw W V
 blk:V.heap[Hb]?=some (.cells hc 38 (0,0))
theorem AeY:∀i,i<10->∀j,j<10->KP i=KP j->i=j:=aS
theorem JH.put{T:Array Value}{V V':World}(J:JH W h hc Hb done T V)(hi:i<10)(hn:i∉done)(hv:v=vH h (.agg hc) Hb i)(hL:Lw W V')(hB:V'.heap[Hb]?=some (.cells hc 38 (0,0))):JH W h hc Hb (i::done) (T.setIfInBounds (KP i) v) V':=by
 have hs:KP i<12/\KP i≠1:=by
  have:∀i,i<10->KP i<12/\KP i≠1:=aS
  exact this i hi
 refine⟨by simp[J.size],by rw[Array.getElem?_setIfInBounds_ne hs.2];exact J.s1,λj hj=>?_,hL,hB⟩;rcases List.mem_cons.1 hj with rfl|hj
 .exact⟨hi,by rw[Array.getElem?_setIfInBounds_self_of_lt (by rw[J.size];exact hs.1),hv]⟩
 .obtain⟨h1,h2⟩:=J.vals j hj;refine⟨h1,?_⟩;rw[Array.getElem?_setIfInBounds_ne (λe=>hn (by rw[AeY i hi j h1 e];exact hj))];exact h2
theorem JH.get{T:Array Value}{V:World}(J:JH W h hc Hb done T V)(hi:i∈done)(l:List Item):(ff 20 T l).eval (.tmp (KP i))=vH h (.agg hc) Hb i:=S4 (J.vals i hi).2
variable {Post:Value->World->Prop} {cs:List Frame} {k:List Item}
theorem Ft{l:List Nat}{o:Oper}(hf:AL ops done (i::l))(ho:ops[i]?=some o)(ha:o.after.toList.map (·.on)=q/\o.after.all (λe=>Region.binds .any e)=true):∀x∈q,x∈done:=λx hx=>by
 rw[← ha.1] at hx;obtain⟨e,he,rfl⟩:=List.mem_map.1 hx;have he:e∈o.after:=by simpa using he
 exact hf.2.2.1 o ho e he (Array.all_eq_true'.1 ha.2 e he)
theorem AeZ(hE:F6 (z W))(hP:BR (z W))(H:HV (z W) h (Vz a1 h.sh.tg.length c1) (Vz a2 h.sh.bs.length c2) (Vz a3 h.bs.length c3) (Vz a4 h.ds.length c4))(hok:F2 h)(hnow:-9223372036854775808<=h.now/\h.now<=9223372036854775807){l:List Nat}{T:Array Value}{V:World}(hf:AL (E0 J8 1) done (i::l))(J:JH W h (Hcz h a1 c1 a2 c2 a3 c3 a4 c4).toArray Hb done T V){gs:Array Goroutine}{sl:Option (Nat×Nat)}{t:Trace}(hh:F0 prog none_ gs (G (ff 20 T (.inRegion (E0 J8 1) (i::l)::k)) cs) t)
  (kk:∀gs' V' sl' t' T',F0 prog none_ gs' (G (ff 20 T' (.inRegion (E0 J8 1) l::k)) cs) t'->JH W h (Hcz h a1 c1 a2 c2 a3 c3 a4 c4).toArray Hb (i::done) T' V'->D9 prog Post (crowd gs' V' sl') t'):D9 prog Post (crowd gs V sl) t:=by
 have hi:i<10:=by have:=hf.1;rwa [Ady.2] at this
 have hn:i∉done:=hf.2.1;have hT:Has 12 T []:=⟨J.size,λp hp=>by cases hp⟩
 have a0:∀{o:Oper} {v:Value},(E0 J8 1)[i]?=some o->o.dst=some (KP i)->o.guard=none->(∀x,(execOp ((ff 20 T (.inRegion (E0 J8 1) (i::l)::k))).eval o).runT prog x #[]=(.ok (.value v) x,#[]))->v=vH h (.agg (Hcz h a1 c1 a2 c2 a3 c3 a4 c4).toArray) Hb i->D9 prog Post (crowd gs V sl) t:=λ{o v} ho hd hg hx hv=>by
  refine FC ⟨rfl,rfl,rfl,rfl,ho,hg⟩ hh (V':=V) (λx=>⟨#[],0,hx _,dC⟩) λgs' sl' t' x hh'=>?_;rw[P0 ho,hd] at hh';exact kk gs' _ sl' t' _ hh' (J.put hi hn hv (J.up.at _) J.blk)
 have a5:∀{o:Oper} {g:FuncId} {args:Array Value} {v:Value},(E0 J8 1)[i]?=some o->o.dst=some (KP i)->o.guard=none->(∀w,(execOp ((ff 20 T (.inRegion (E0 J8 1) (i::l)::k))).eval o).runT prog w #[]=(.ok (.enter g args) w,#[]))->(∀x,I8 prog g args (V.at x) λu _=>u=v)->v=vH h (.agg (Hcz h a1 c1 a2 c2 a3 c3 a4 c4).toArray) Hb i->D9 prog Post (crowd gs V sl) t:=λ{o g args v} ho hd hg hx hc hv=>by
  refine E8 (Walk.enter ⟨rfl,rfl,rfl,rfl,ho,hg⟩ hx) hh λgs1 sl1 t1 x hh1=>?_;refine hc x Post _ cs gs1 sl1 t1 hh1 λgs' w' sl' t' u hh' hn' hR=>?_;rw[P0 ho,hd] at hh';have hB:Below V.heap.size (z V) (z w'):=(hR (λ_ _=>0) 0).2;have a7:Hb<V.heap.size:=(D1.1 J.blk).1;exact kk gs' w' sl' t' _ hh' (J.put hi hn ((hR (λ_ _=>0) 0).1.trans hv) (J.up.call hn' hB) ((AE hB a7).trans J.blk))
 have z1:=Bn hnow.1 hnow.2;have hb:=Gn hok.each h.bs.length;rw[List.take_length] at hb;have a6:=hok.few;have z2:=Bn (n:=I0 h.bs) oM oM;have z3:Oy.size=4/\NE.size=6:=⟨rfl,rfl⟩;have g1:∀l',(ff 20 T l').eval (.tmp 1)=Pz Hb 0:=λl'=>S4 J.s1;have a8:i=0\/i=1\/i=2\/i=3\/i=4\/i=5\/i=6\/i=7\/i=8\/i=9:=oM
 rcases a8 with rfl|rfl|rfl|rfl|rfl|rfl|rfl|rfl|rfl|rfl
 .exact a0 NF.1 NF.2.2.1 NF.2.2.2 (λx=>Ag4 _ _ NF.2.1 (g1 _)) rfl
 .have q0:AS V Hb 0 (Iz h.now):=by simp[World.cell?,J.blk]
  refine FC ⟨rfl,rfl,rfl,rfl,IM.1,IM.2.2.2⟩ hh (V':=V) (v:=.int .i64 h.now) (λx=>⟨_,_,JG _ _ Adq rfl IM.2.1 (J.get (Ft hf IM.1 aH1 0 dC) _) q0,by intro e he;simp at he;subst he;exact N7 id⟩) λgs' sl' t' x hh'=>?_;rw[P0 IM.1,IM.2.2.1] at hh';exact kk gs' _ sl' t' _ hh' (J.put oM hn rfl (J.up.at _) J.blk)
 .exact a5 KH.1 KH.2.2.1 KH.2.2.2 (λw=>Dw _ KH.2.1 rfl (args:=#[Iz h.now]) (by simp only[List.map_toArray,List.map_cons,List.map_nil];rw[show ((ff 20 T (.inRegion (E0 J8 1) (2::l)::k))).eval (.tmp 4)=.int .i64 h.now from J.get (Ft hf KH.1 aH2 1 dC) _]) func50 sI sI w) (AaD J.up hP hnow.1 hnow.2) rfl
 .exact a0 KI.1 KI.2.2.1 KI.2.2.2 (λx=>QD _ _ KI.2.1 rfl (J.get (Ft hf KI.1 aH3 2 dC) _) oM) rfl
 .exact a0 KJ.1 KJ.2.2.1 KJ.2.2.2 (λx=>QD _ _ KJ.2.1 (J.get (Ft hf KJ.1 aH4 3 dC) _) rfl (by rw[ByteArray.size_append];omega)) rfl
 .refine FC ⟨rfl,rfl,rfl,rfl,KL.1,KL.2.2.2⟩ hh (V':=V) (v:=.agg (Hcz h a1 c1 a2 c2 a3 c3 a4 c4).toArray) (λx=>?_) λgs' sl' t' x hh'=>?_
  .exact Yd ((ff 20 T (.inRegion (E0 J8 1) (5::l)::k))).eval (V.at x) AeO Wc KL.2.1 (g1 _) J.blk (vs:=(Hcz h a1 c1 a2 c2 a3 c3 a4 c4)) rfl (λj v hj=>by rw[Nat.zero_add];simpa using hj)
  .rw[P0 KL.1,KL.2.2.1] at hh';exact kk gs' _ sl' t' _ hh' (J.put oM hn rfl (J.up.at _) J.blk)
 .exact a5 KM.1 KM.2.2.1 KM.2.2.2 (λw=>Dw _ KM.2.1 rfl (args:=#[.agg (Hcz h a1 c1 a2 c2 a3 c3 a4 c4).toArray]) (by simp only[List.map_toArray,List.map_cons,List.map_nil];rw[show ((ff 20 T (.inRegion (E0 J8 1) (6::l)::k))).eval (.tmp 8)=.agg (Hcz h a1 c1 a2 c2 a3 c3 a4 c4).toArray from J.get (Ft hf KM.1 aH6 5 dC) _]) func51 sI sI w) (λx=>Ag3 (W:=V.at x) J.up.nv (J.up.ends hE _ _) (J.up.hv H _ _) hok) rfl
 .have hb:=Gn hok.each h.bs.length;rw[List.take_length] at hb;have a6:=hok.few;exact a5 KN.1 KN.2.2.1 KN.2.2.2 (λw=>Dw _ KN.2.1 rfl (args:=#[Iz (I0 h.bs)]) (by simp only[List.map_toArray,List.map_cons,List.map_nil];rw[show ((ff 20 T (.inRegion (E0 J8 1) (7::l)::k))).eval (.tmp 9)=.int .i64 (I0 h.bs) from J.get (Ft hf KN.1 aH7 6 dC) _]) func50 sI sI w) (AaD J.up hP oM oM) rfl
 .exact a0 IP.1 IP.2.2.1 IP.2.2.2 (λx=>QD _ _ IP.2.1 (J.get (Ft hf IP.1 aH8 4 dC) _) (J.get (Ft hf IP.1 aH8 7 dC) _) (by rw[ByteArray.size_append,ByteArray.size_append];omega)) rfl
 .exact @a0 _ (Tz (L9 h)) KO.1 KO.2.2.1 KO.2.2.2 (λx=>by rw[S5 _ _ KO.2.1,show ((ff 20 T (.inRegion (E0 J8 1) (9::l)::k))).eval (.tmp 11)=Tz (L9 h) from J.get (Ft hf KO.1 aH9 8 dC) _]) rfl
end
section
variable {T:Array Value} {cs:List Frame}
end
theorem Afa(hv:Value):Frame.enter prog 20 #[hv] .normal=ff 20 (#[hv]++Array.replicate 11 undef) [.code J8]:=sI
theorem AhD:MQ (E0 J8 1)=true:=sI
section
variable {h:House} {a1 a2 a3 a4:Option Addr} {c1 c2 c3 c4:Nat} {W:World}
theorem Tp{Post:Value->World->Prop}{cs:List Frame}{k:List Item}(hE:F6 (z W))(hP:BR (z W))(H:HV (z W) h (Vz a1 h.sh.tg.length c1) (Vz a2 h.sh.bs.length c2) (Vz a3 h.bs.length c3) (Vz a4 h.ds.length c4))(hok:F2 h)(hnow:-9223372036854775808<=h.now/\h.now<=9223372036854775807){Hb:Nat}
  (kk:∀gs' V' sl' t' T',F0 prog none_ gs' (G (ff 20 T' k) cs) t'->T'[2]?=some (Tz (L9 h))->Lw W V'->D9 prog Post (crowd gs' V' sl') t') :
  ∀(l done:List Nat)(T:Array Value)(V:World)(gs:Array Goroutine)(sl:Option (Nat×Nat)) (t:Trace),AL (E0 J8 1) done l->JH W h (Hcz h a1 c1 a2 c2 a3 c3 a4 c4).toArray Hb done T V->F0 prog none_ gs (G (ff 20 T (.inRegion (E0 J8 1) l::k)) cs) t->D9 prog Post (crowd gs V sl) t
 | [],done,T,V,gs,sl,t,hf,J,hh=>by
  have h9:9∈done:=hf 9 (by rw[Ady.2];decide);refine E8 (G6 1 (l':=k) (by rfl)) hh λgs sl t d hh=>?_;exact kk gs _ sl t T hh (J.vals 9 h9).2 (J.up.at _)
 | i::l,done,T,V,gs,sl,t,hf,J,hh=>AeZ hE hP H hok hnow hf J hh λgs' V' sl' t' T' hh' J'=>Tp hE hP H hok hnow kk l (i::done) T' V' gs' sl' t' hf.2.2.2 J' hh'
theorem Ag5(hn:NV W)(hE:F6 (z W))(hP:BR (z W))(H:HV (z W) h (Vz a1 h.sh.tg.length c1) (Vz a2 h.sh.bs.length c2) (Vz a3 h.bs.length c3) (Vz a4 h.ds.length c4))(hok:F2 h)(hnow:-9223372036854775808<=h.now/\h.now<=9223372036854775807):I8 prog 20 #[.agg (Hcz h a1 c1 a2 c2 a3 c3 a4 c4).toArray] W λv _=>v=Tz (L9 h):=by
 intro Post c cs gs sl t hh kk;rw[Afa] at hh;have hT:Has 12 (#[Value.agg (Hcz h a1 c1 a2 c2 a3 c3 a4 c4).toArray]++Array.replicate 11 undef) [(0,.agg (Hcz h a1 c1 a2 c2 a3 c3 a4 c4).toArray)]:=⟨dC,λp hp=>by simp at hp;subst hp;simp⟩;generalize #[Value.agg (Hcz h a1 c1 a2 c2 a3 c3 a4 c4).toArray]++Array.replicate 11 undef=T at hh hT;refine Agv 6 [.code (.region 1 (E0 J8 1) true),.code .ret] [(2,Ez),(1,Pz W.heap.size 0),(0,.agg (Hcz h a1 c1 a2 c2 a3 c3 a4 c4).toArray)] [.cells (Hcz h a1 c1 a2 c2 a3 c3 a4 c4).toArray 38 (0,0)] hh hT (.refl hn) λgs sl t V T hh hT k1 _ _ hg=>?_;rw[Et] at hh;refine AfN hh λgs sl t d4 x hh=>?_;rw[← Et] at hh;refine Tp (Hb:=W.heap.size) hE hP H hok hnow (λgs w' sl t T hh h2 hL=>?_) _ [] T _ gs sl t (MR mixed AhD x) ⟨hT.1,hT.gi 1,(λi hi=>absurd hi dC),k1.at _,hg 0 _ rfl⟩ hh;refine E8 (Te func20 results20 h2) hh λgs sl t d5 hh=>?_;exact kk gs _ sl t _ hh hL.nv λτ d=>⟨rfl,hL.bl τ d⟩
end
end Bd
namespace Bd
open Go.Conc Go.ConcN Go.RowKit
theorem Wf{m:Nat}:∀{l:List (List UInt8)},(∀s∈l,s.length<=m)->Lib.lens l<=l.length*m
 | [],_=>by simp[Lib.lens]
 | x::r,h=>by
  have ih:=Wf (l:=r) λs hs=>h s (by simp[hs]);have hx:=h x dC;simp only[Lib.lens,List.map_cons,List.sum_cons,List.length_cons] at ih ⊢
  rw[Nat.succ_mul];omega
theorem Wh{m:Nat}{c:UInt8}(h:∀s∈ws,s.size<=m):(Lib.join (ws.map λs=>s.data.toList) [c]).length<=ws.length*(m+1):=by
 cases ws with
 | nil=>simp[Lib.join_nil]
 | cons x r =>
  rw[List.map_cons,Lib.join_length]
  have:=Wf (m:=m) (l:=(x::r).map λs=>s.data.toList) λs hs=>by
   obtain⟨y,hy,rfl⟩:=List.mem_map.1 hs;exact h y hy
  simp only[List.map_cons,List.length_cons,B5,List.length_nil] at this ⊢
  rw[Nat.mul_add];omega
theorem IQ(h:E4 s=true):s.size<=8:=by
 simp only[E4,Bool.and_eq_true,decide_eq_true_eq] at h;exact h.1.2
theorem AaE(h:M3 ps=true)(hh:H7 ps nm=true):nm.size<=8:=by
 obtain⟨j,q,h1,h2⟩:=(Cb ps nm).1 hh;have e:q.nm.toList=nm.toList:=by simpa using h2
 have hq:=Cy h (A6 h1);simp only[Ph.okB,O7,Bool.and_eq_true] at hq;have:=IQ hq.1.1.1.1.1;rw[FN e] at this;exact this
theorem Tq{h:House}(hok:F2 h){x:Rb}(hx:x∈h.bs):x.nm∈G9 h.sh.bs/\(J6 h.sh x.nm).has.length<=8/\∀s∈(J6 h.sh x.nm).has,s.size<=8:=by
 obtain⟨-,-,h3,h4,-⟩:=hok;have hb:=h3.book;have hm:x.nm∈G9 h.sh.bs:=h4.2.2 _ (List.mem_map.2 ⟨x,hx,rfl⟩);obtain⟨k,hk,e⟩:=Ni hm;rw[Li hb.2.2.2.1 hk e];obtain⟨p1,p2⟩:=hb.2.2.2.2.1.at hk hk;refine⟨hm,B4 (Ff p2) (B4 (Ff p1) hb.1.1),λs hs=>?_⟩;exact IQ (Zc hb.1.2.1 (Jj p1.1 (Jj p2.1 hs)))
theorem QE{h:House}(hok:F2 h){x:Rb}(hx:x∈h.bs):I7 x:=by
 obtain⟨-,-,-,-,h5,-⟩:=hok;obtain⟨i,hi,rfl⟩:=B7 hx;exact (h5 i _ hi (A0 hi)).1
theorem Yf{x:Rb}(h:I7 x):x.si=-1\/0<=x.si/\x.si<=1000000/\(I3 x.si).size<=maxLen:=by
 obtain⟨-,h2,-,-,h5,h6,h7⟩:=h;have h8:=FZ (Cy h2 (Dd h5));by_cases e:x.si=-1
 .exact .inl e
 .have:=Bn (n:=x.si) oM oM;exact .inr ⟨oM,oM,by unfold maxLen;omega⟩
theorem AcF{h:House}(hok:F2 h){x:Rb}(hx:x∈h.bs):(Cp x (J6 h.sh x.nm).has).length<=12/\∀s∈Cp x (J6 h.sh x.nm).has,s.size<=21:=by
 obtain⟨-,h1,h2⟩:=Tq hok hx;have hr:=QE hok hx;have a0:=Yf hr;obtain⟨r1,r2,-,-,r5,r6,r7⟩:=hr;have n1:=IQ r1;have n2:=AaE r2 r5;have h8:=FZ (Cy r2 (Dd r5));have z:(I3 x.si).size<=21:=Bn (n:=x.si) oM oM;have zw:Cn.size=5/\Em.size=3:=⟨rfl,rfl⟩;unfold Cp;split
 .grind
 .grind
theorem Wi{h:House}(hok:F2 h){x:Rb}(hx:x∈h.bs):(Lib.join ((Cp x (J6 h.sh x.nm).has).map λs=>s.data.toList) [32]).length<=264:=by
 obtain⟨h1,h2⟩:=AcF hok hx;have:=Wh (c:=32) h2;omega
def DW(h:House)(x:Rb):BA:=GJ (Cp x (J6 h.sh x.nm).has)
def O6(h:House):List BA:=h.bs.map (DW h)
def Lp(h:House)(i:Nat):BA:=((O6 h)[i]?).getD ⟨#[]⟩
theorem AcG{h:House}{x:Rb}(hx:h.bs[i]?=some x):Lp h i=DW h x:=by simp[Lp,O6,hx]
theorem Lq{h:House}(hok:F2 h){x:Rb}(hx:x∈h.bs):(DW h x).size<=264:=Wi hok hx
def CH:BA:=⟨#[32]⟩
def tAt:BA:=⟨#[32,97,116,32]⟩
def As(e:Int):BA:=if e=1 then ⟨#[103,111,111,100]⟩ else if e=2 then ⟨#[115,97,118,101,100]⟩ else ⟨#[115,99,114,97,112,112,101,100]⟩
def CE(d:Go.Proofs.YtaffjphkobhagaaGreatDoor.Done):BA:=d.nm++CH++As d.e++tAt++I3 d.t
theorem Oz(e:Int):(As e).size<=8:=by
 unfold As;split
 .decide
 .split<;>decide
theorem OA{h:House}(hok:F2 h){d:Go.Proofs.YtaffjphkobhagaaGreatDoor.Done}(hd:d∈h.ds):d.nm.size<=8/\1<=d.e/\d.e<=3/\0<=d.t/\d.t<=100000:=by
 obtain⟨h1,h2,-⟩:=hok;obtain⟨i,hi,rfl⟩:=B7 hd;obtain⟨q1,q2,q3,q4,q5,-⟩:=h2.2 i _ hi (A0 hi);exact⟨IQ q1,q2,q3,q4,by have:=h1.2.1;omega⟩
theorem Mn{h:House}(hok:F2 h){d:Go.Proofs.YtaffjphkobhagaaGreatDoor.Done}(hd:d∈h.ds):(CE d).size<=42:=by
 obtain⟨h1,h2,h3,h4,h5⟩:=OA hok hd;have z:(I3 d.t).size<=21:=Bn oM oM;have:=Oz d.e;have zw:CH.size=1/\tAt.size=4:=⟨rfl,rfl⟩;unfold CE;simp only[ByteArray.size_append];omega
theorem AaF:∀(l:List Ph),(∀p∈l,1<=p.wi/\p.wi<=1000)->∀nm,H7 l nm=true->(EU l nm).wi<=O4 P5 S2 0 l nm
 | [],_,nm,h=>by simp[H7] at h
 | p::rest,hw,nm,h=>by
  have b1:=EM rest (λq hq=>hw q (by simp[hq])) p.t;have b2:=EM rest (λq hq=>hw q (by simp[hq])) p.e;rw[O4];unfold EU;rw[List.find?_cons];cases he:p.nm.toList==nm.toList with
  | true =>
   simp only[if_true];generalize O4 P5 S2 0 rest p.t=A at b1 ⊢
   generalize O4 P5 S2 0 rest p.e=B at b2 ⊢
   show p.wi<=p.wi+max A B
   omega
  | false =>
   simp only[Bool.false_eq_true,if_false];have:=AaF rest (λq hq=>hw q (by simp[hq])) nm (by simpa [H7,he] using h);unfold EU at this;exact this
theorem AaG{x:Rb}(h:I7 x):0<=BJ x:=by
 obtain⟨-,h2,-,-,h5,h6,h7⟩:=h;have:=AaF x.ps (DR h2) x.ad h5;unfold BJ X4;rw[if_pos h2];split<;>omega
theorem PF{bs:List Rb}(h:∀b∈bs,I7 b):∀k:Nat,0<=I0 (bs.take k)
 | 0=>by simp[I0]
 | k+1=>by
  have ih:=PF h k;by_cases hk:k<bs.length
  .rw[Fo bs k hk];have:=AaG (h bs[k] dC);omega
  .rw[D0 oM] at ih ⊢
   exact ih
theorem Ts{h:House}(hok:F2 h):0<=I0 h.bs/\I0 h.bs<=60000:=by
 have h1:=PF (bs:=h.bs) (λb hb=>QE hok hb) h.bs.length;have h2:=Gn hok.each h.bs.length;have:=hok.few;rw[List.take_length] at h1 h2;omega
theorem Tt{h:House}(hok:F2 h):(L9 h).size<=52:=by
 obtain⟨l0,l1⟩:=Ts hok;have z1:(I3 h.now).size<=21:=Bn (by have:=hok.1.1;omega) (by have:=hok.1.2.1;omega);have z2:(I3 (I0 h.bs)).size<=21:=Bn oM oM;have z3:Oy.size=4/\NE.size=6:=⟨rfl,rfl⟩;unfold L9;simp only[ByteArray.size_append];omega
def P4(h:House):List BA:=h.ds.map CE
def Y9(h:House):List BA:=[L9 h]++O6 h++P4 h
theorem Tu{h:House}(hok:F2 h):(Y9 h).length<=26/\∀s∈Y9 h,s.size<=264:=by
 refine⟨?_,λs hs=>?_⟩
 .have h1:=hok.few;have h2:=hok.2.1.1;simp only[Y9,O6,P4,A9,List.length_cons,List.length_nil,B5];omega
 .simp only[Y9,O6,P4,C8,C9,List.mem_map] at hs;rcases hs with (rfl|⟨x,hx,rfl⟩)|⟨d,hd,rfl⟩
  .have:=Tt hok;omega
  .exact Lq hok hx
  .have:=Mn hok hd;omega
theorem Afb{h:House}(hok:F2 h):(Lib.join ((Y9 h).map λs=>s.data.toList) [10]).length<=10000:=by
 obtain⟨h1,h2⟩:=Tu hok;have:=Wh (c:=10) h2;omega
def EP(h:House):BA:=⟨(Lib.join ((Y9 h).map λs=>s.data.toList) [10]).toArray⟩++⟨#[10]⟩
end Bd
section
open Go.ChangeShapes Go.WideShapes Go.ChangeAt Go.RowKit
theorem Yq{W:World}(h:laidMet prog Rows.fnExactRunBoardRow.laid W):F6 W/\Lib.TabIs prog W "internal/strconv.uint64pow10" .u64 Lib.pow10Tab:=by
 have h3:=h.tail.tail;refine⟨F6.of_laid h3.tail,?_⟩;exact Lib.tabIs_of_head (zs:=Lib.pow10Tab) (g:=2) sI sI underlying282 underlying92 sI sI h3
def OB(d:DataW Unit):Array Value:=match d with
 | .agg l=>(l.map fun
  | .lit (.int k z)=>Value.int k z
  | .lit (.string s)=>Value.string ⟨s.toArray⟩
  | _=>.bool false).toArray
 | _=>#[]
def QF(h:Array Obj)(g:Nat)(cs:Array Value):Array Obj:=h.modify g fun
 | .cells _ t frozen=>.cells cs t frozen
 | o=>o
noncomputable def Ii(os:Os):World :=
 {World.holding prog os ⟨#[],#[],[]⟩ with heap:=QF (QF (QF (QF (World.holding prog os ⟨#[],#[],[]⟩).heap 0 ZZ) 2 (OB Rows.laid_internal_strconv_uint64pow10)) 3 (OB Rows.laid_math_bits_deBruijn32tab)) 4 (OB Rows.laid_math_bits_deBruijn64tab)}
def QG(g n:Nat):List MemPlace:=(List.range n).map λi=>MemPlace.cell g i
theorem Yr(os:Os)(args:Array Value):laidMet prog Rows.fnExactRunBoardRow.laid ((Ii os).forCall (λ_ _=>0) ⟨#[],args,[]⟩).memory :=
 laidMet_of_run (ps:=QG 3 32++QG 4 64++QG 2 20++QG 0 3) 8 sI sI sI
theorem PG:prog.cellsOf 168=2:=sI
theorem Wl:prog.cellsOf 70=6:=sI
theorem AcK:prog.cellsOf 67=1:=sI
theorem AcL:prog.cellsOf 68=1:=sI
theorem Yk{α:Type}{l:List α}(h:l.length=6):∃a b c d e f,l=[a,b,c,d,e,f]:=by
 match l,h with
 | [a,b,c,d,e,f],_=>exact⟨a,b,c,d,e,f,rfl⟩
theorem AaJ{H:Type}{enc:TypeId×Value->H}{w:World}{base:Nat}{cs:List Value}{x:DataW H×List MemPlace}
  (h:DataW.trod enc prog w base sp held fuel 168 cs=some x):∃y:Sl,cs=y.cells/\y.s.size<=maxLen/\y.t.size<=maxLen:=by
 obtain⟨xs,m,_,rfl,hl,a0,hf⟩:=DataW.trod_struct underlying168 h;rw[PG] at hl;obtain⟨c0,c1,rfl⟩:=Qn hl;obtain⟨y0,y1,rfl⟩:=Qn (a0.trans rfl:xs.length=2);have h0:DataW.trod enc prog w base sp held m 9 (([c0,c1].drop 0).take (prog.cellsOf 9))=some y0:=hf 0 {name:= "Slot",type:=9,offset:=0,embedded:=false,tag:= "",pkgPath:= "",byteOffset:=0} rfl;have h1:DataW.trod enc prog w base sp held m 9 (([c0,c1].drop 1).take (prog.cellsOf 9))=some y1:=hf 1 {name:= "Thing",type:=9,offset:=1,embedded:=false,tag:= "",pkgPath:= "",byteOffset:=16} rfl;clear hf h;rw[AM] at h0 h1;simp only[List.drop_succ_cons,List.drop_zero,List.take_succ_cons,List.take_zero] at h0 h1;obtain⟨s,rfl,rfl,z0⟩:=L8 h0;obtain⟨t,rfl,rfl,z1⟩:=L8 h1;exact⟨⟨s,t⟩,rfl,z0,z1⟩
theorem Qd{H:Type}{enc:TypeId×Value->H}{W:World}{base:Nat}{x:DataW H×List MemPlace}
  (h:DataW.trod enc prog W base sp held fuel 68 [v]=some x):∃l,Fp W v l/\SlZ l:=by
 rcases DataW.trod_slice underlying68 h with⟨hcs,_⟩|⟨a,len,cap,elems,rest,n,_,hcs,_,hb,hl,hm,hlen,hel,_,_⟩
 .obtain rfl:v=Nz:=by simpa using hcs
  exact⟨[],.inl ⟨_,_,rfl,rfl⟩,λy hy=>by simp at hy⟩
 .obtain rfl:v=Vz (some a) len cap:=by simpa using hcs
  clear hcs h;rw[PG] at hel
  have a0:∀i,i<len->∃y:Sl,W.cells? base (a.add (i*2)) 2=some y.cells/\y.s.size<=maxLen/\y.t.size<=maxLen:=by
   intro i hi;have h1:=hel i hi;rw[A0 oM] at h1;obtain⟨cs,hc,ht⟩:=Option.bind_eq_some_iff.1 h1;obtain⟨y,rfl,r⟩:=AaJ ht;exact⟨y,hc,r⟩
  obtain⟨l,a4,a2⟩:=FA len _ a0;rcases C3 len with h0|h0
  .subst h0;exact⟨[],.inl ⟨_,_,rfl,rfl⟩,λy hy=>by simp at hy⟩
  .obtain⟨b,o,a1⟩:=a
   have hs:a1=none:=by
    obtain⟨q,hq,_⟩:=a0 0 h0;unfold World.cells? at hq;split at hq
    .obtain⟨x,_,hc⟩:=Lib.mapM_at hq 0 0 dC;simpa [Addr.add] using World.cell?_spot hc
    .cases hq
   subst hs
   have a3:Z9 W b o l:=by
    intro i q hq;have:=(a2 i q hq).1;rw[Addr.add_mid] at this;exact Y0 this
   subst a4;refine⟨l,.inr ⟨b,o,cap,rfl,a3,?_,oM⟩,λy hy=>?_⟩
   .have:=a3 0 l[0] (by simp[h0]) 0 _ rfl;exact World.block_lt_of_cell? W _ this
   .obtain⟨i,hi,rfl⟩:=B7 hy;exact (a2 i l[i] (by simp[hi])).2
theorem Ym{H:Type}{enc:TypeId×Value->H}{w:World}{base:Nat}{cs:List Value}{x:DataW H×List MemPlace}
  (h:DataW.trod enc prog w base sp held fuel 70 cs=some x):∃(y:Rb)(rv sv:Value),cs=[Tz y.nm,rv,sv,Tz y.ad,Iz y.si,Iz y.st]/\Ew w y rv sv:=by
 obtain⟨xs,m,_,rfl,hl,a0,hf⟩:=DataW.trod_struct underlying70 h;rw[Wl] at hl;obtain⟨c0,c1,c2,c3,c4,c5,rfl⟩:=Yk hl;obtain⟨y0,y1,y2,y3,y4,y5,rfl⟩:=Yk (a0.trans rfl:xs.length=6);have h0:DataW.trod enc prog w base sp held m 9 (([c0,c1,c2,c3,c4,c5].drop 0).take (prog.cellsOf 9))=some y0:=hf 0 {name:= "Name",type:=9,offset:=0,embedded:=false,tag:= "",pkgPath:= "",byteOffset:=0} rfl;have h1:DataW.trod enc prog w base sp held m 67 (([c0,c1,c2,c3,c4,c5].drop 1).take (prog.cellsOf 67))=some y1:=hf 1 {name:= "Recipe",type:=67,offset:=1,embedded:=false,tag:= "",pkgPath:= "",byteOffset:=16} rfl;have h2:DataW.trod enc prog w base sp held m 68 (([c0,c1,c2,c3,c4,c5].drop 2).take (prog.cellsOf 68))=some y2:=hf 2 {name:= "Slots",type:=68,offset:=2,embedded:=false,tag:= "",pkgPath:= "",byteOffset:=40} rfl;have h3:DataW.trod enc prog w base sp held m 9 (([c0,c1,c2,c3,c4,c5].drop 3).take (prog.cellsOf 9))=some y3:=hf 3 {name:= "At",type:=9,offset:=3,embedded:=false,tag:= "",pkgPath:= "",byteOffset:=64} rfl;have h4:DataW.trod enc prog w base sp held m 3 (([c0,c1,c2,c3,c4,c5].drop 4).take (prog.cellsOf 3))=some y4:=hf 4 {name:= "Since",type:=3,offset:=4,embedded:=false,tag:= "",pkgPath:= "",byteOffset:=80} rfl;have h5:DataW.trod enc prog w base sp held m 3 (([c0,c1,c2,c3,c4,c5].drop 5).take (prog.cellsOf 3))=some y5:=hf 5 {name:= "Start",type:=3,offset:=5,embedded:=false,tag:= "",pkgPath:= "",byteOffset:=88} rfl;clear hf h;rw[AM] at h0 h3;rw[Jv] at h4 h5;rw[AcK] at h1;rw[AcL] at h2;simp only[List.drop_succ_cons,List.drop_zero,List.take_succ_cons,List.take_zero] at h0 h1 h2 h3 h4 h5;obtain⟨nm,rfl,rfl,z0⟩:=L8 h0;obtain⟨ad,rfl,rfl,z3⟩:=L8 h3;obtain⟨si,rfl,rfl,_⟩:=Y5 h4;obtain⟨st,rfl,rfl,_⟩:=Y5 h5;obtain⟨l,l2,zl⟩:=Qd h2
 have a1:∃a l c,c1=Vz a l c:=by
  rcases DataW.trod_slice underlying67 h1 with⟨hcs,_⟩|⟨a,len,cap,elems,rest,n,_,hcs,_⟩
  iterate 2 .simp_all
 obtain⟨ps,l1,zp⟩:=Uy (enc:=enc) (base:=base) (sp:=sp) (held:=held) (v:=c1) (d:=y1.1) (p:=y1.2) a1 ⟨m,by
  obtain⟨a,l,c,rfl⟩:=a1;simpa [Value.cells] using h1⟩
 exact⟨⟨nm,ps,l,ad,si,st⟩,c1,c2,rfl,⟨l1,l2,zp,zl,z0,z3⟩⟩
end
section
open Go.RowKit
theorem UG(x:Ba)(hv nv:Value)(l:Int)(w:World)(h1:Ls w hv x.has)(h2:Ls w nv x.nj)(hz:x.nm.size<=maxLen)(hl:0<=l)(hl':l<=1048576):
  Calls prog 65 #[.agg #[Tz x.nm,hv,nv],Iz l] w λe w'=>(∃y:Int,e=.returned (Iz y)/\y<=l/\(0<=y->x.has.length<=1048576/\x.nj.length<=1048576))/\Up w w':=by
 obtain⟨a1,c1,rfl,-⟩:=id h1;obtain⟨a2,c2,rfl,-⟩:=id h2;unfold maxLen at hz;have a0:=(A4 w.heap.size w).alloc (A3 _) (Kz [Tz x.nm,Vz a1 x.has.length c1,Vz a2 x.nj.length c2] 117);by_cases h0:l-x.nm.size<0
 .go_in;go_wp2;go_ret;exact⟨⟨_,rfl,oM,oM⟩,a0⟩
 go_in;go_wp2_with fail;refine (KB x.has _ _ _ (h1.up a0) oM oM).mono ?_;rintro e w' ⟨⟨y1,rfl,a5,a3⟩,hw⟩;obtain rfl:=hw.symm;by_cases g1:y1<0
 .go_wp2_with fail;go_ret;exact⟨⟨_,rfl,oM,oM⟩,a0⟩
 go_wp2_with fail;refine (KB x.nj _ _ _ (h2.up a0) oM oM).mono ?_;rintro e w' ⟨⟨y2,rfl,a6,a4⟩,hw⟩;obtain rfl:=hw.symm;by_cases g2:y2<0
 .go_wp2_with fail;go_ret;exact⟨⟨_,rfl,oM,oM⟩,a0⟩
 go_wp2_with fail;go_ret;exact⟨⟨_,rfl,oM,λ_=>⟨oM,oM⟩⟩,a0⟩
def Qx(b:Bk):Prop:=b.tg.length<=1048576/\b.bs.length<=1048576/\∀x∈b.bs,x.has.length<=1048576/\x.nj.length<=1048576
theorem Tj(bs:List Ba)(v:Value)(l:Int)(w:World)(h:Bs w v bs)(hl:0<=l)(hl':l<=1048576):
  Calls prog 28 #[v,Iz l] w λe w'=>(∃x:Int,e=.returned (Iz x)/\x<=l/\(0<=x->bs.length<=1048576/\∀y∈bs,y.has.length<=1048576/\y.nj.length<=1048576))/\Up w w':=by
 obtain⟨a,c,rfl,hn,a4⟩:=h;unfold maxLen at hn;by_cases h0:l-bs.length<0
 .go_in;go_wp2;go_ret;exact⟨⟨_,rfl,oM,oM⟩,A4 _ _⟩
 have H0:Hid ((bs.length:Int)<=l):=by show _<=_;omega
 go_in;go_wp2;(try dsimp only[Iz,Sy,Sx,Nz,Vz,Tz,Ez,Pz]);go_loopw [1,5] (λx i w'=>∃(k:Nat)(y:Int),k<=bs.length/\i=.int .i64 k/\x=.int .i64 y/\0<=y/\y<=l/\(∀(j:Nat)(z:Ba),j<k->bs[j]?=some z->z.has.length<=1048576/\z.nj.length<=1048576)/\Up w w') (λ_ i _=>bs.length-(intOf i).toNat)
 case atStart=>exact⟨0,_,oM,rfl,rfl,oM,oM,λj z hj=>oM,A4 _ _⟩
 case round =>
  obtain⟨k,y,hk,rfl,rfl,hy,a7,a0,hB⟩:=hrel;have Hall:Hid (∀(j:Nat)(z:Ba),j<k->bs[j]?=some z->z.has.length<=1048576/\z.nj.length<=1048576):=a0;clear a0;by_cases hp:k<bs.length
  .obtain⟨b,o,rfl,hS,hb⟩:=a4 oM;obtain⟨a1,d1,a2,d2,c0,c1,c2,l1,l2,z0⟩:=((hS.at hp).up hB hb).cells;have Hx:Hid (bs[k]?=some bs[k]):=A0 hp;generalize bs[k]=x0 at *;go_wp2_with fail;refine (UG x0 _ _ _ _ l1 l2 z0 hy oM).mono ?_;rintro e w1 ⟨⟨y1,rfl,a8,a3⟩,a6⟩;have a5:=D3 hB a6;clear c0 c1 c2 l1 l2 hS;by_cases g1:y1<0
   .go_wp2_with fail;go_ret;exact⟨⟨_,rfl,oM,oM⟩,a5⟩
   .have H1:Hid (x0.has.length<=1048576/\x0.nj.length<=1048576):=a3 oM;clear a3;go_wp2_with fail;go_roundw
    case rel =>
     refine⟨k+1,y1,oM,mO,rfl,oM,oM,λj z hj hz=>?_,a5⟩;by_cases e:j=k
     .subst e;rw[Hx.out] at hz;obtain rfl:=A5 hz;exact H1.out
     .exact Hall.out j z oM hz
    case measure=>simp[intOf];omega
  .go_wp2_with fail;go_ret;refine⟨⟨_,rfl,oM,λ_=>⟨by have:=H0.out;omega,λz hz=>?_⟩⟩,hB⟩;obtain⟨j,hj,rfl⟩:=B7 hz;exact Hall.out j _ oM (by rw[A0])
theorem XY(b:Bk)(v:Value)(l:Int)(w:World)(h:Z5 w v b)(hl:0<=l)(hl':l<=1048576):
  Calls prog 9 #[v,Iz l] w λe w'=>(∃x:Int,e=.returned (Iz x)/\x<=l/\(0<=x->Qx b))/\Up w w':=by
 obtain⟨a1,c1,a2,c2,rfl,h1,h2⟩:=h.parts;have a3:=(A4 w.heap.size w).alloc (A3 _) (Kz [Vz a1 b.tg.length c1,Vz a2 b.bs.length c2] 25);go_in;go_wp2_with fail;refine (KB b.tg _ _ _ (h1.up a3) hl hl').mono ?_;rintro e w' ⟨⟨y1,rfl,a7,a5⟩,hw⟩;obtain rfl:=hw.symm;by_cases g1:y1<0
 .go_wp2_with fail;go_ret;exact⟨⟨_,rfl,oM,oM⟩,a3⟩
 go_wp2_with fail;refine (Tj b.bs _ _ _ (h2.up a3) oM oM).mono ?_;rintro e w1 ⟨⟨y2,rfl,a8,a0⟩,a6⟩;have a4:=D3 a3 a6;by_cases g2:y2<0
 .go_wp2_with fail;go_ret;exact⟨⟨_,rfl,oM,oM⟩,a4⟩
 have H2:=a0 oM;clear a0;go_wp2_with fail;go_ret;exact⟨⟨_,rfl,oM,λ_=>⟨oM,H2.1,H2.2⟩⟩,a4⟩
end
namespace Bd
open Go.Conc Go.ConcN Go.RowKit Go.Conc.Lib Go.ConcR.Gen Go.ConcN.Gen
open Ld (I8 none_ tp)
structure KQ (W:World) (V:Nat->Prop) (h:House) (tv bv xv dv:Value):Prop where
 low:∀b,V b->b<W.heap.size
 gl:prog.globals.size<=W.heap.size
 vis:∀n,gB n=true->V n
 only:∀n,n<prog.globals.size->gB n=false->¬V n
 cells:∀b,V b->∃c e f,W.heap[b]?=some (.cells c e f)/\(∀L,F1 (Y1 V L) c c)/\∀(i:Nat)(n:Int),c[i]?≠some (.int .u8 n)
 hv:∀L,VR (Y1 V L) tv tv/\VR (Y1 V L) bv bv/\VR (Y1 V L) xv xv/\VR (Y1 V L) dv dv
 see:∀x,JF V W x->HV x h tv bv xv dv/\BR x
section
variable {W W':World} {V:Nat->Prop} {h:House} {tv bv xv dv:Value}
theorem KQ.self(H:KQ W V h tv bv xv dv):JF V W W:=λb hb=>let ⟨c,e,f,h1,_⟩:=H.cells b hb;⟨c,e,f,f,h1,h1⟩
theorem KQ.up(H:KQ W V h tv bv xv dv)(k:Lw W W'):KQ W' V h tv bv xv dv:=by
 have hb:∀b,V b->W'.heap[b]?=W.heap[b]?:=λb hv=>k.up.block b (H.low b hv);refine⟨λb hv=>A1 (H.low b hv) k.sz,B4 H.gl k.sz,H.vis,H.only,λb hv=>?_,H.hv,λx hx=>H.see x λb hv=>?_⟩
 .rw[hb b hv];exact H.cells b hv
 .rw[← hb b hv];exact hx b hv
theorem AhE{L:Nat}{a:Addr}{c:Nat}(h:VR (Y1 V L) (Vz (some a) n c) (Vz (some a) n c)):V a.block/\a.spot=none:=by
 cases h with
 | sl n c h =>
  refine⟨?_,h.s⟩;rcases h.b with⟨h1,_⟩|⟨h1,h2,_⟩
  .exact h1
  .have h1:L<=a.block:=h1;have h2:a.block<L:=h2;omega
theorem EQ{x y:World}(e:y.heap=x.heap)(hx:JF V W x):JF V W y:=λb hb=>by rw[e];exact hx b hb
end
section
variable {W:World} {V:Nat->Prop} {h:House} {a1 a2 a3 a4:Option Addr} {c1 c2 c3 c4:Nat}
def AiE(W:World)(h:House)(bb oo i:Nat)(cs:List Value):Prop :=
 ∃x p q c g r d,h.bs[i]?=some x/\cs=[.string x.nm,.slice (some ⟨p,q,none⟩) x.ps.length c,.slice (some ⟨g,r,none⟩) x.sl.length d,.string x.ad,.int .i64 x.si,.int .i64 x.st]/\W.rangeAt bb (oo+i*6) cs
theorem KQ.hse(H:KQ W V h (Vz a1 h.sh.tg.length c1) (Vz a2 h.sh.bs.length c2) (Vz a3 h.bs.length c3) (Vz a4 h.ds.length c4))(hn:NV W)(hok:F2 h):∃bcs bb oo,Qz none_ W V (Hcz h a1 c1 a2 c2 a3 c3 a4 c4) h.bs.length bcs (Lp h) bb oo/\(0<h.bs.length->a3=some ⟨bb,oo,none⟩):=by
 have H0:=(H.see W H.self).1;have a6:h.bs.length<=1048576:=by have:=hok.few;omega
 have a7:∀L,VR (Y1 V L) (.agg ((Hcz h a1 c1 a2 c2 a3 c3 a4 c4)).toArray) (.agg ((Hcz h a1 c1 a2 c2 a3 c3 a4 c4)).toArray):=λL=>by
  obtain⟨q1,q2,q3,q4⟩:=H.hv L;refine VR.agg' (F1.refl λv hv=>?_);simp only[List.mem_toArray,List.mem_cons,List.not_mem_nil,or_false] at hv;rcases hv with rfl|rfl|rfl|rfl|rfl|rfl
  iterate 2 .exact .int _ _
  .exact q1
  .exact q2
  .exact q3
  .exact q4
 obtain⟨a,c,e,-,a5⟩:=H0.x;simp only[Value.slice.injEq] at e;obtain⟨rfl,-,rfl⟩:=e;rcases C3 h.bs.length with h0|h0
 .refine⟨λ_=>[],0,0,⟨H.low,H.gl,H.vis,H.only,λ_ _ h=>h,λ_ h=>h.elim,H.cells,a7,rfl,?_,?_,?_,?_,?_,?_,a6,hn⟩,λh1=>oM⟩<;>(intros;omega)
 .obtain⟨bb,oo,rfl,a9,b4⟩:=a5 h0;have a8:V bb:=(AhE (H.hv 0).2.2.1).1;obtain⟨cb,eb,fb,b0,b1,-⟩:=H.cells bb a8
  have b2:∀i,∃cs,i<h.bs.length->AiE W h bb oo i cs:=λi=>by
   by_cases hi:i<h.bs.length
   .obtain⟨rv,sv,h1,h2⟩:=a9 i _ (A0 hi);obtain⟨p,q,c,rfl,-⟩:=h2.r;obtain⟨g,r,d,rfl,-⟩:=h2.s;exact⟨_,λ_=>⟨_,p,q,c,g,r,d,A0 hi,rfl,h1⟩⟩
   .exact⟨[],λh=>absurd h hi⟩
  obtain⟨bcs,a0⟩:=Classical.axiomOfChoice b2
  have b3:∀i,i<h.bs.length->∀L,∀v∈bcs i,VR (Y1 V L) v v:=λi hi L v hv=>by
   obtain⟨x,p,q,c,g,r,d,-,-,hr⟩:=a0 i hi;obtain⟨j,hj,rfl⟩:=B7 hv;have hc:=hr j _ (A0 hj);simp only[World.cell?,b0] at hc;exact (b1 L).get _ _ _ hc hc
  refine⟨bcs,bb,oo,⟨H.low,H.gl,H.vis,H.only,λ_ _ h=>h,λ_ h=>h.elim,H.cells,a7,rfl,λi hi=>?_,λi hi u hu=>?_,λi hi L=>?_,λ_=>a8,λi hi j v hv=>?_,λi hi x hx=>?_,a6,hn⟩,λ_=>rfl⟩
  .obtain⟨x,p,q,c,g,r,d,-,e,-⟩:=a0 i hi;rw[e];rfl
  .obtain⟨x,p,q,c,g,r,d,-,e,-⟩:=a0 i hi;rw[e] at hu;simp only[List.mem_cons,List.not_mem_nil,or_false] at hu;rcases hu with rfl|rfl|rfl|rfl|rfl|rfl<;>simp[Value.oneCell']
  .exact VR.agg' (F1.refl λv hv=>b3 i hi L v (by simpa using hv))
  .obtain⟨x,p,q,c,g,r,d,-,e,hr⟩:=a0 i hi;exact hr j v hv
  .obtain⟨y,p,q,c,g,r,d,hy,e,hr⟩:=a0 i hi;have hm:y∈h.bs:=A6 hy;obtain⟨m1,m2,m3⟩:=Tq hok hm;rw[e,AcG hy];exact UI h y a1 a2 _ a4 c1 c2 _ c4 p q _ g r d x.heap (λx' hx'=>(H.see x' (EQ hx' hx)).2) (λx' hx'=>let q:=(H.see x' (EQ hx' hx)).1;⟨_,_,rfl,q.t,q.b⟩) hok.2.2.1.book m1 oM (Yf (QE hok hm)) (by have:=Wi hok hm;omega) x rfl
end
end Bd
end Go.Proofs.YtaffjphkobhagaaGreatDoor
