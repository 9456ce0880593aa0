/- Workers who make what they like, send one value and leave, 0: the trace. -/
import Derived.Conc.CrowdRun
import Derived.Conc.CrowdComm
import Derived.Test.YtaffjphkobhagaaGreatDoorJ6
import Derived.Conc.WgGenN3
set_option maxRecDepth 100000
set_option maxHeartbeats 8000000
namespace Go.Proofs.YtaffjphkobhagaaGreatDoor
variable{nm:BA}{child g':Goroutine}{ns ss tt:List BA}{ps:List Ph}{l:Loc}{N k n:Nat}{o:Obj}{P:Program}{u:Trace}{R R':World->World->Prop}
namespace Bd
open Go.Conc Go.ConcN
open Go.ConcR (KK wgBlock WgAt stA smA rd wr mk Payload DC0 g_of_ofEvents ofEvent_mk)
instance payZ:Payload:=⟨3⟩
structure F5 where
 P:Program
 ty:TypeId
 Wg:Nat
 Ch:Nat
 Low:Nat
 m0:Nat
 n:Nat
 val:Nat->Value
 Shun:Loc->Prop
 t0:Trace
def F5.Sh(p:F5)(l:Loc):Prop:=p.Shun l\/ShN p.Wg l
structure F5.Ok (p:F5):Prop where
 wg:p.Wg<p.Low
 ch:p.Ch<p.Low
 ne:p.Wg≠p.Ch
 m0:1<=p.m0
 shun:∀l,p.Shun l->∃a,l=.cell a/\a.block<p.Low/\a.block≠p.Wg
 n:p.n<2147483648
theorem F5.Ok.low{p:F5}(o:p.Ok){a:Addr}(h:p.Sh (.cell a)):a.block<p.Low:=by
 rcases h with h|⟨b,e,hb⟩
 .obtain⟨b,e,hb,_⟩:=o.shun _ h;cases e;exact hb
 .cases e;rw[hb];exact o.wg
def lb:Loc->Option Nat
 | .cell a=>some a.block
 | .obj r=>some r
 | _=>none
theorem Afq{b:Nat}(h:lb l=some b):l.isMemory=true:=by
 cases l<;>first|rfl|cases h
def Vl(p:F5)(ow:Nat->Nat)(h g:Nat)(x:Touch):Prop :=
 (ShN p.Wg x.loc/\x.kind≠.plain/\(x.kind=.said->g=0))\/
 (x.kind=.plain/\∃b,lb x.loc=some b/\¬p.Sh x.loc/\((b<p.Low/\x.write=false)\/(p.Low<=b/\b<h/\ow b=g)))
def TIn(p:F5)(t:Trace)(ow:Nat->Nat)(h N i:Nat)(op:MemOp)(x:Touch):Prop :=
 (op.g=0\/(p.m0<=op.g/\op.g<N))/\((ShN p.Wg x.loc/\x.kind≠.plain/\(x.kind=.said->op.g=0))\/(x.kind=.plain/\∃b,lb x.loc=some b/\¬p.Sh x.loc/\((b<p.Low/\x.write=false)\/(p.Low<=b/\b<h/\Knows t (ow b) i))))
structure TI (p:F5) (t:Trace) (ow:Nat->Nat) (h N:Nat):Prop where
 pre:∃u,t=p.t0++u
 nr:∀said,¬Race said t
 k0:∀k,(k=0\/(p.m0<=k/\k<N))->∀i a,i<p.t0.size->touchAt t i=some a->¬p.Shun a.loc->Knows t k i
 inn:∀i op x,p.t0.size<=i->t[i]?=some op->op.act.touch?=some x->TIn p t ow h N i op x
theorem TIn.app{p:F5}{t:Trace}{ow:Nat->Nat}{h i:Nat}{op:MemOp}{x:Touch}(u:Trace)(k:TIn p t ow h N i op x):TIn p (t++u) ow h N i op x :=
 ⟨k.1,k.2.imp id λ⟨h1,a,h2,h3,h4⟩=>⟨h1,a,h2,h3,h4.imp id λ⟨h5,h6,h7⟩=>⟨h5,h6,h7.app u⟩⟩⟩
theorem TI.app{p:F5}{t:Trace}{ow:Nat->Nat}{h g:Nat}(o:p.Ok)(k:TI p t ow h N)(hg:∀op∈u,op.g=g)
  (hu:∀op∈u,∀x,op.act.touch?=some x->(g=0\/(p.m0<=g/\g<N))/\Vl p ow h g x):TI p (t++u) ow h N:=by
 obtain⟨u0,e0⟩:=k.pre;have b1:p.t0.size<=t.size:=by rw[e0];simp
 have a8:∀{i:Nat} {a:Touch},i<p.t0.size->touchAt (t++u) i=some a->touchAt t i=some a:=λ{i a} hi ha=>by
  obtain⟨z,hz,a1⟩:=touch_of ha;rcases getElem?_append_cases hz with⟨_,hz'⟩|⟨hi',_⟩
  .rw[touchAt_of hz'];exact a1
  .omega
 refine⟨⟨u0++u,by rw[e0,Array.append_assoc]⟩,λsaid=>?_,λk' hk i a hi ha hs=>(k.k0 k' hk i a hi (a8 hi ha) hs).app u,λi op x hi ho hx=>?_⟩
 .refine noRace_append (k.nr said) hg (λi a ha op a3 b hb hc=>?_);obtain⟨a4,h1|⟨a5,ad,hl,a2,a0⟩⟩:=hu op a3 b hb
  .have a2:¬p.Shun a.loc:=λhs=>by
    obtain⟨ad,e,_,h2⟩:=o.shun _ hs;rw[hc.1] at e;obtain⟨b',e',b0⟩:=h1.1;rw[e] at e';cases e';omega
   rcases Nat.lt_or_ge i p.t0.size with hi|hi
   .exact k.k0 g a4 i a hi ha a2
   .obtain⟨z,hz,a1⟩:=touch_of ha;rcases (k.inn i z a hi hz a1).2 with⟨_,h2,h3⟩|⟨_,ad,hl,hns',_⟩
    .obtain⟨_,_,_,a0⟩:=hc;rcases a0 with x|x|⟨_,x,y⟩
     .exact absurd x h2
     .exact absurd x h1.2.1
     .have:=knows_own hz;rw[h3 x] at this;rw[h1.2.2 y];exact this
    .exact absurd (.inr (by rw[hc.1];exact h1.1)) hns'
  .have a9:lb a.loc=some ad:=by rw[hc.1];exact hl
   have a6:¬p.Sh a.loc:=by rw[hc.1];exact a2
   rcases Nat.lt_or_ge i p.t0.size with hi|hi
   .exact k.k0 g a4 i a hi ha λhs=>a6 (.inl hs)
   .obtain⟨z,hz,a1⟩:=touch_of ha;rcases (k.inn i z a hi hz a1).2 with hs|⟨_,ad',hl',_,hcase'⟩
    .exact absurd (.inr hs.1) a6
    .rw[a9] at hl';cases hl'
     rcases a0 with⟨hlo,hrd⟩|⟨hlo,_,how⟩
     .rcases hcase' with⟨_,hrd'⟩|⟨hlo',_⟩
      .exact absurd hc.2.2.1 (by simp[hrd,hrd'])
      .omega
     .rcases hcase' with⟨hlo',_⟩|⟨_,_,hk⟩
      .omega
      .rw[how] at hk;exact hk
 .rcases getElem?_append_cases ho with⟨_,ho'⟩|⟨_,hou⟩
  .exact (k.inn i op x hi ho' hx).app u
  .obtain⟨a4,a7⟩:=hu op hou x hx;have a3:=hg op hou;refine⟨by rw[a3];exact a4,?_⟩;rcases a7 with h1|⟨a5,ad,hl,a2,a0⟩
   .exact .inl ⟨h1.1,h1.2.1,λe=>a3.trans (h1.2.2 e)⟩
   .refine .inr ⟨a5,ad,hl,a2,a0.imp id λ⟨h1,h2,h3⟩=>⟨h1,h2,?_⟩⟩;have:=knows_own ho;rw[a3] at this;rw[h3];exact this
theorem TI.grow{p:F5}{t:Trace}{ow ow':Nat->Nat}{h h':Nat}(k:TI p t ow h N)(hh:h<=h')(how:∀b,b<h->ow' b=ow b):TI p t ow' h' N :=
 ⟨k.pre,k.nr,k.k0,λi op x hi ho hx=>by
  obtain⟨h1,h2⟩:=k.inn i op x hi ho hx;refine⟨h1,h2.imp id λ⟨h3,a,h4,h5,h6⟩=>⟨h3,a,h4,h5,h6.imp id λ⟨h7,h8,h9⟩=>⟨h7,oM,?_⟩⟩⟩;rw[how a h8];exact h9⟩
theorem TI.fork{p:F5}{t:Trace}{ow ow':Nat->Nat}{h:Nat}(k:TI p t ow h N)(hm:p.m0<=N)(hN:1<=N){x y:MemOp}(hx:x.g=0/\x.act=.go N)(hy:y.g=N/\y.act=.start)(h0:Deaf t 0=0)(hk:Deaf t N=0)
  (how:∀b,ow' b=ow b\/(ow b=0/\ow' b=N)):TI p (t ++ #[x,y]) ow' h (N+1):=by
 obtain⟨u0,e0⟩:=k.pre;have a4:p.t0.size<=t.size:=by rw[e0];simp
 have a1:∀op∈#[x,y],∀b,op.act.touch?=some b->False:=by
  intro op hop b hb;simp only[List.mem_toArray,List.mem_cons,List.not_mem_nil,or_false] at hop;rcases hop with rfl|rfl
  .rw[hx.2] at hb;cases hb
  .rw[hy.2] at hb;cases hb
 have a2:∀{i:Nat} {z:MemOp} {a:Touch},(t ++ #[x,y])[i]?=some z->z.act.touch?=some a->t[i]?=some z:=λ{i z a} hz a0=>by
  rcases getElem?_append_cases hz with⟨_,hz'⟩|⟨_,hzu⟩
  .exact hz'
  .exact (a1 z hzu a a0).elim
 refine⟨⟨u0 ++ #[x,y],by rw[e0,Array.append_assoc]⟩,λsaid=>?_,λk' hk' i a hi ha hs=>?_,λi op z hi ho hz=>?_⟩
 .have e:t ++ #[x,y]=(t ++ #[x]) ++ #[y]:=by apply Array.ext';simp
  rw[e]
  refine noRace_append (g:=N) (noRace_append (g:=0) (k.nr said) (λop hop=>by simp at hop;rw[hop];exact hx.1) (λi a _ op hop b hb _=>(a1 op (by simp at hop ⊢;exact .inl hop) b hb).elim))
   (λop hop=>by simp at hop;rw[hop];exact hy.1) (λi a _ op hop b hb _=>(a1 op (by simp at hop ⊢;exact .inr hop) b hb).elim)
 .obtain⟨z,hz,a0⟩:=touch_of ha;have a3:touchAt t i=some a:=by rw[touchAt_of (a2 hz a0)];exact a0
  by_cases e:k'=N
  .subst e;exact fork_knows hx hy h0 hk (k.k0 0 (.inl rfl) i a hi a3 hs)
  .exact (k.k0 k' oM i a hi a3 hs).app _
 .obtain⟨h1,h2⟩:=k.inn i op z hi (a2 ho hz) hz;refine⟨h1.imp id λh=>⟨h.1,oM⟩,h2.imp id λ⟨h3,a,h4,h5,h6⟩=>⟨h3,a,h4,h5,h6.imp id λ⟨h7,h8,h9⟩=>⟨h7,h8,?_⟩⟩⟩;rcases how a with e|⟨e1,e2⟩
  .rw[e];exact h9.app _
  .rw[e1] at h9;rw[e2];exact fork_knows hx hy h0 hk h9
theorem TI.start{p:F5}{B h:Nat}(hf:Fr p.Shun B p.t0)(hN:N<=p.m0):TI p p.t0 (λ_=>0) h N:=by
 refine⟨⟨#[],dC⟩,hf.past.clean,λk hk i a hi ha hs=>?_,λi op x hi ho _=>?_⟩
 .have e:k=0:=oM
  subst e;exact (hf.known i a ha).elim id λh=>absurd h.1 hs
 .have:=lt_size_of_getElem? ho;omega
def Jn(p:F5)(t:Trace):Prop:=∀i,p.t0.size<=i->t.act? i≠some (.mark (.release (stA p.Wg)))
theorem Jn.app{p:F5}{t:Trace}(h:Jn p t)(hu:∀op∈u,op.act≠.mark (.release (stA p.Wg))):Jn p (t++u):=by
 intro i hi e;obtain⟨op,ho,a0⟩:=B6.1 e;rcases getElem?_append_cases ho with⟨_,ho'⟩|⟨_,hou⟩
 .exact h i hi (by rw[act?_of ho',a0])
 .exact hu op hou a0
theorem Ru(x:MemAct):∃B,x.low B:=by
 cases x with
 | access e =>
  obtain⟨l,wr,sy⟩:=e;cases l with
  | cell a=>exact⟨a.block+1,Nat.lt_succ_self _⟩
  | obj r=>exact⟨r+1,Nat.lt_succ_self _⟩
  | _=>exact⟨0,trivial⟩
 | mark m=>cases m<;>first|exact⟨0,trivial⟩|exact⟨_,Nat.lt_succ_self _⟩
 | go _|start=>exact⟨0,trivial⟩
 | send _ _|sendDone _ _|recv _ _ _|recvDone _ _|close _|recvClosed _=>exact⟨_,Nat.lt_succ_self _⟩
theorem Vm(B:Nat)(t:Trace):∃B',B<=B'/\∀op∈t,op.act.low B':=by
 have a0:∀l:List MemOp,∃B',B<=B'/\∀op∈l,op.act.low B':=λl=>by
  induction l with
  | nil=>exact⟨B,A3 _,dC⟩
  | cons x l ih =>
   obtain⟨b1,h1,h2⟩:=ih;obtain⟨b2,h3⟩:=Ru x.act;refine⟨max b1 b2,B4 h1 (Nat.le_max_left _ _),λe he=>?_⟩;rcases List.mem_cons.1 he with rfl|he
   .exact MemAct.low_mono (Nat.le_max_right _ _) h3
   .exact MemAct.low_mono (Nat.le_max_left _ _) (h2 e he)
 obtain⟨B',h1,h2⟩:=a0 t.toList;exact⟨B',h1,λop hop=>h2 op (by simpa using hop)⟩
theorem TI.close{p:F5}{t:Trace}{ow:Nat->Nat}{h B:Nat}(o:p.Ok)(k:TI p t ow h N)(hf:Fr p.Shun B p.t0)(hn:Jn p t)(hd:Deaf t 0=0)
  (rel:∀g,p.m0<=g->g<N->∃r,RelBy (stA p.Wg) t g r/\p.t0.size<=r) {y:MemOp} (hy0:y.g=0) (hya:y.act=.mark (.acquire (stA p.Wg))):∃B',B<=B'/\Fr p.Sh B' (t ++ #[y]):=by
 obtain⟨u0,e0⟩:=k.pre;have b9:p.t0.size<=t.size:=by rw[e0];simp
 have a2:(t ++ #[y])[t.size]?=some y:=by rw[Array.getElem?_append_right (A3 _)];simp
 have hq:(t ++ #[y]).act? t.size=some (.mark (.acquire (stA p.Wg))):=by rw[act?_of a2,hya]
 have a9:(t ++ #[y]).g? t.size=some 0:=by simp[Trace.g?,hy0]
 have b3:(t ++ #[y]).heard t.size:=⟨0,a9,by rw[deaf_old (A3 _)];exact hd⟩;have b4:Jn p (t ++ #[y]):=hn.app λop hop=>by simp at hop;subst hop;rw[hya];simp
 have b0:∀b,y.act.touch?=some b->False:=λb hb=>by rw[hya] at hb;cases hb
 have a8:∀{i:Nat} {z:MemOp} {a:Touch},(t ++ #[y])[i]?=some z->z.act.touch?=some a->t[i]?=some z:=λ{i z a} hz a0=>by
  rcases getElem?_append_cases hz with⟨_,a1⟩|⟨_,hzu⟩
  .exact a1
  .simp at hzu;subst hzu;exact (b0 a a0).elim
 have wk:∀{i g:Nat} {x:Touch},(t ++ #[y]).g? i=some g->touchAt (t ++ #[y]) i=some x->p.m0<=g->g<N->(∃r,HappensBefore (t ++ #[y]) i t.size/\i<=r)\/¬(t ++ #[y]).counts i:=λ{i g x} hgi hx h1 h2=>by
  obtain⟨r,hr,b8⟩:=rel g h1 h2;obtain⟨z,hz,a0⟩:=touch_of hx;have a1:=a8 hz a0;have hi:=lt_size_of_getElem? a1;have a6:r<t.size:=lt_of_act? hr.act;have a5:HappensBefore (t ++ #[y]) r t.size:=.single (.inr ⟨.marked a6 (.inr (by rw[act?_old a6];exact hr.act)) hq (λk hk _=>b4 k oM),(heard_old a6).2 hr.heard,b3⟩);rcases Nat.lt_trichotomy i r with hlt|rfl|hgt
  .exact .inl ⟨r,.trans (.single (.inl ⟨hlt,g,hgi,by rw[g?_old a6];exact hr.g⟩)) a5,oM⟩
  .exact .inl ⟨i,a5,A3 _⟩
  .refine .inr ?_;rw[counts_old hi];exact hr.after i hgt (by rw[← g?_old (u:=#[y]) hi];exact hgi)
 have a3:∀i a,touchAt (t ++ #[y]) i=some a->Knows (t ++ #[y]) 0 i\/(p.Sh a.loc/\a.kind=.atomic):=λi a ha=>by
  obtain⟨z,hz,a0⟩:=touch_of ha;have a1:=a8 hz a0;rcases Nat.lt_or_ge i p.t0.size with hi|hi
  .have b5:p.t0[i]?=some z:=by rw[e0,getElem?_append_old hi] at a1;exact a1
   rcases hf.known i a (by rw[touchAt_of b5];exact a0) with h1|h1
   .refine .inl ?_;rw[e0,Array.append_assoc];exact h1.app _
   .exact .inr ⟨.inl h1.1,h1.2⟩
  .obtain⟨hg,b2⟩:=k.inn i z a hi a1 a0;rcases hg with hg|⟨hg1,hg2⟩
   .have:=knows_own hz;rw[hg] at this;exact .inl this
   .rcases wk (g:=z.g) (by unfold Trace.g?;rw[hz];rfl) ha hg1 hg2 with⟨_,hb,_⟩|hc
    .exact .inl ⟨t.size,y,a2,hy0,.inr hb⟩
    .have b6:p.Sh a.loc->a.kind=.atomic:=λhs=>by
      by_cases e:a.kind=.atomic
      .exact e
      .refine absurd ⟨a,by simpa [touchAt] using ha,?_,.inl e⟩ hc;rcases hs with hs|⟨_,e1,_⟩
       .obtain⟨_,e1,_⟩:=o.shun _ hs;rw[e1];rfl
       .rw[e1];rfl
     rcases b2 with hs|⟨hp,ad,hl,_⟩
     .exact .inr ⟨.inr hs.1,b6 (.inr hs.1)⟩
     .exact absurd ⟨a,by simpa [touchAt] using ha,Afq hl,.inl (by rw[hp];simp)⟩ hc
 obtain⟨B',hB,a7⟩:=Vm B (t ++ #[y]);refine⟨B',hB,⟨λsaid=>noRace_append (g:=0) (k.nr said) (λop hop=>by simp at hop;subst hop;exact hy0) (λi a _ op hop b hb _=>by simp at hop;subst hop;exact (b0 b hb).elim),λi a ha _=>a3 i a ha,λi g hgi hne hc=>?_,?_,a7⟩,a3⟩
 .obtain⟨x,hx,a4,hk⟩:=hc;have b1:touchAt (t ++ #[y]) i=some x:=by simpa [touchAt] using hx
  obtain⟨z,hz,a0⟩:=touch_of b1;have a1:=a8 hz a0;have c1:z.g=g:=by unfold Trace.g? at hgi;rw[hz] at hgi;exact A5 hgi
  rcases Nat.lt_or_ge i p.t0.size with hi|hi
  .have e1:t ++ #[y]=p.t0++(u0 ++ #[y]):=by rw[e0,Array.append_assoc]
   rw[e1] at hgi hx hk ⊢
   obtain⟨j,hj,hb⟩:=hf.past.over i g (by rw[← g?_old (u:=u0 ++ #[y]) hi];exact hgi) hne ((counts_old hi).1 ⟨x,hx,a4,hk⟩)
   have b7:j<p.t0.size:=by
    unfold Trace.g? at hj;obtain⟨z,hz,_⟩:=B6.1 hj;exact lt_size_of_getElem? hz
   exact⟨j,by rw[g?_old b7];exact hj,hb_app _ hb⟩
  .obtain⟨hg,_⟩:=k.inn i z x hi a1 a0;rcases wk hgi b1 oM oM with⟨_,hb,_⟩|hc
   .exact⟨t.size,a9,hb⟩
   .exact absurd ⟨x,hx,a4,hk⟩ hc
 .have e:=Deaf_still t 0 #[y] (λop hop=>by simp at hop;subst hop;rw[hya];exact⟨dC,dC⟩);exact e.trans hd
def BP(p:F5)(w:World)(L:List Nat):Prop:=w.heap[p.Ch]?=some (.chan p.n (L.map p.val).toArray false L.length 0 false)
def EF(p:F5)(w:World):Prop:=∃L,BP p w L
def NV(w:World):Prop:=∀(b:Nat)(c:Array Value)(t:TypeId),w.heap[b]?=some (Obj.pending c t)->gN<=b
theorem NV.one{w w₁:World}{C:Nat}(h:NV w)(hb:∀b,b≠C->w₁.heap[b]?=w.heap[b]?)(hC:w₁.heap[C]?=some o)(ho:∀c t,o≠.pending c t):NV w₁:=by
 intro b a t hx;by_cases hbc:b=C
 .simp_all
 .rw[hb b hbc] at hx;exact h b a t hx
structure RK (p:F5) (M:Nat->Prop) (w w₁:World):Prop where
 low:∀b,b<p.Low->b≠p.Wg->b≠p.Ch->w₁.heap[b]?=w.heap[b]?
 own:∀b,M b->w₁.heap[b]?=w.heap[b]?
 size:w.heap.size<=w₁.heap.size
 live:WgLive p.ty p.Wg w->WgLive p.ty p.Wg w₁
 chan:EF p w->EF p w₁
structure R0 (p:F5) (M:Nat->Prop) (w w₁:World):Prop where
 tape:w₁.tape=w.tape
 os:w₁.os=w.os
 output:w₁.output=w.output
 nv:NV w->NV w₁
 rk:RK p M w w₁
structure AJ (p:F5) (Z:Nat->Prop) (w w₁:World):Prop where
 tape:w₁.tape=w.tape
 os:w₁.os=w.os
 output:w₁.output=w.output
 nv:NV w->NV w₁
 size:w.heap.size<=w₁.heap.size
 block:∀b,¬Z b->b<w.heap.size->w₁.heap[b]?=w.heap[b]?
 live:WgLive p.ty p.Wg w->WgLive p.ty p.Wg w₁
 chan:EF p w->EF p w₁
section
variable {p:F5} {M Z:Nat->Prop} {w w₁ qc:World}
theorem RK.refl(w:World):RK p M w w:=⟨λ_ _ _ _=>rfl,λ_ _=>rfl,A3 _,id,id⟩
theorem RK.trans(h:RK p M w w₁)(h':RK p M w₁ qc):RK p M w qc :=
 ⟨λb x y z=>(h'.low b x y z).trans (h.low b x y z),λb x=>(h'.own b x).trans (h.own b x),B4 h.size h'.size,h'.live ∘ h.live,h'.chan ∘ h.chan⟩
theorem RK.tr:∀a b c,RK p M a b->RK p M b c->RK p M a c:=λ_ _ _=>RK.trans
theorem R0.refl(w:World):R0 p M w w:=⟨rfl,rfl,rfl,id,.refl w⟩
theorem R0.at(w:World)(d:Nat):R0 p M w (w.at d):=⟨rfl,rfl,rfl,id,λ_ _ _ _=>rfl,λ_ _=>rfl,A3 _,id,id⟩
theorem R0.trans(h:R0 p M w w₁)(h':R0 p M w₁ qc):R0 p M w qc:=⟨h'.tape.trans h.tape,h'.os.trans h.os,h'.output.trans h.output,h'.nv ∘ h.nv,h.rk.trans h'.rk⟩
theorem R0.tr:∀a b c,R0 p M a b->R0 p M b c->R0 p M a c:=λ_ _ _=>R0.trans
theorem AJ.refl(w:World):AJ p Z w w:=⟨rfl,rfl,rfl,id,A3 _,λ_ _ _=>rfl,id,id⟩
theorem AJ.r0(h:AJ p Z w w₁)(hL:p.Low<=w.heap.size)(hZ:∀b,Z b->b=p.Wg\/b=p.Ch\/p.Low<=b)(hM:∀b,M b->¬Z b/\b<w.heap.size):R0 p M w w₁ :=
 ⟨h.tape,h.os,h.output,h.nv,λb x y z=>h.block b (λhz=>by have:=hZ b hz;omega) oM,λb x=>h.block b (hM b x).1 (hM b x).2,h.size,h.live,h.chan⟩
theorem AJ.wg(h:Go.Conc.Aside p.Wg w w₁)(hl:WgLive p.ty p.Wg w₁)(hne:p.Wg≠p.Ch):AJ p (·=p.Wg) w w₁ :=
 ⟨h.tape,h.os,h.output,λk=>let ⟨_,_,hx⟩:=hl;k.one h.block hx (by simp[wgBlock]),Nat.le_of_eq h.size.symm,λb hb _=>h.block b hb,λ_=>hl,λ⟨s,hs⟩=>⟨s,(h.block p.Ch (Ne.symm hne)).trans hs⟩⟩
theorem AJ.ch{L:List Nat}{i:Nat}(hc:BP p w L)(hne:p.Wg≠p.Ch):AJ p (·=p.Ch) w (w.setChan p.Ch p.n ((L.map p.val).toArray.push (p.val i)) false (L.length+1) 0 false)/\BP p (w.setChan p.Ch p.n ((L.map p.val).toArray.push (p.val i)) false (L.length+1) 0 false) (L++[i]):=by
 have a1:p.Ch<w.heap.size:=(D1.1 hc).1
 have a0:BP p (w.setChan p.Ch p.n ((L.map p.val).toArray.push (p.val i)) false (L.length+1) 0 false) (L++[i]):=by
  unfold BP World.setChan;simp[a1]
 have hb:∀b,b≠p.Ch->(w.setChan p.Ch p.n ((L.map p.val).toArray.push (p.val i)) false (L.length+1) 0 false).heap[b]?=w.heap[b]?:=λb hb=>by
  unfold World.setChan;exact Array.getElem?_setIfInBounds_ne (λe=>hb e.symm)
 exact⟨⟨rfl,rfl,rfl,λk=>k.one hb a0 dC,by simp[World.setChan],λb hb' _=>hb b hb',λ⟨s,m,hs⟩=>⟨s,m,hs.of_block (hb _ hne)⟩,λ_=>⟨_,a0⟩⟩,a0⟩
end
structure Lc (M:Nat->Prop) (w w₁:World):Prop where
 tape:w₁.tape=w.tape
 os:w₁.os=w.os
 output:w₁.output=w.output
 nv:NV w->NV w₁
 size:w.heap.size<=w₁.heap.size
 block:∀b,b<w.heap.size->¬M b->w₁.heap[b]?=w.heap[b]?
theorem Lc.at{M:Nat->Prop}(w:World)(d:Nat):Lc M w (w.at d):=⟨rfl,rfl,rfl,id,A3 _,λ_ _ _=>rfl⟩
def BQ(M:Nat->Prop)(w w₁:World):Nat->Prop:=λb=>M b\/(w.heap.size<=b/\b<w₁.heap.size)
theorem Pa{M:Nat->Prop}{w w₁:World}(h:w₁.heap.size=w.heap.size):BQ M w w₁=M:=by
 funext b
 exact propext ⟨λh'=>h'.elim id λh'=>oM,.inl⟩
def FP(p:F5)(M:Nat->Prop)(e:Event):Prop :=
 (∀x,(MemAct.ofEvent e).touch?=some x->(ShN p.Wg x.loc/\x.kind≠.plain/\x.kind≠.said)\/
  (x.kind=.plain/\∃b,lb x.loc=some b/\¬p.Sh x.loc/\((b<p.Low/\x.write=false)\/M b)))/\
 e.loc≠.mark .disable/\e.loc≠.mark .enable/\e.loc≠.mark (.release (stA p.Wg))
structure Rv (M:Nat->Prop) (w w₁:World):Prop where
 tape:w₁.tape=w.tape
 os:w₁.os=w.os
 output:w₁.output=w.output
 nv:NV w->NV w₁
 size:w₁.heap.size=w.heap.size
 block:∀b,¬M b->w₁.heap[b]?=w.heap[b]?
theorem Rv.refl{M:Nat->Prop}(w:World):Rv M w w:=⟨rfl,rfl,rfl,id,rfl,λ_ _=>rfl⟩
def DK(p:F5)(M:Nat->Prop)(w w₁:World)(es:Array Event):Prop:=Rv M w w₁/\∀e∈es,FP p M e
section
variable {p:F5} {M:Nat->Prop} {w w₁:World}
theorem AJ.gr(h:Lc M w w₁)(o:p.Ok)(hL:p.Low<=w.heap.size)(hW:¬M p.Wg)(hS:¬M p.Ch):AJ p M w w₁ :=
 ⟨h.tape,h.os,h.output,h.nv,h.size,λb hb hs=>h.block b hs hb,λ⟨s,m,hs⟩=>⟨s,m,hs.of_block (h.block _ (by have:=o.wg;omega) hW)⟩,λ⟨s,hs⟩=>⟨s,(h.block _ (by have:=o.ch;omega) hS).trans hs⟩⟩
theorem AJ.ow(h:Rv M w w₁)(hW:¬M p.Wg)(hS:¬M p.Ch):AJ p M w w₁ :=
 ⟨h.tape,h.os,h.output,h.nv,Nat.le_of_eq h.size.symm,λb hb _=>h.block b hb,λ⟨s,m,hs⟩=>⟨s,m,hs.of_block (h.block _ hW)⟩,λ⟨s,hs⟩=>⟨s,(h.block _ hS).trans hs⟩⟩
end
inductive Tr:Type
 | leaf
 | node (f:World->Tr)
inductive Rw:Tr->Tr->Prop
 | mk (f:World->Tr) (w:World):Rw (f w) (.node f)
theorem AdF(t:Tr):Acc Rw t:=by
 induction t with
 | leaf=>exact⟨_,λy h=>by cases h⟩
 | node f ih=>exact⟨_,λy h=>by cases h with|mk _ w=>exact ih w⟩
def FLt(n:Nat)(F F':Nat->Tr):Prop:=∃i,i<n/\Rw (F i) (F' i)/\∀k,k≠i->F k=F' k
theorem NZ:∀(n:Nat)(F:Nat->Tr),Acc (FLt n) F
 | 0,F=>⟨_,λy ⟨i,hi,_⟩=>oM⟩
 | n+1,F=>by
  have key:∀t,Acc Rw t->∀F,F n=t->Acc (FLt n) F->Acc (FLt (n+1)) F:=by
   intro t ht;induction ht with
   | intro t _ ih =>
    intro F hF hA;induction hA with
    | intro F _ ih2 =>
     refine⟨_,λy ⟨i,hi,hlt,hs⟩=>?_⟩;by_cases e:i=n
     .subst e;exact ih (y i) (hF ▸ hlt) y rfl (NZ _ y)
     .exact ih2 y ⟨i,oM,hlt,hs⟩ ((hs n (λh=>e h.symm)).trans hF)
  exact key (F n) (AdF _) F rfl (NZ n F)
def Vn(n:Nat)(a b:Nat×(Nat->Tr)×Nat):Prop:=a.1<b.1\/(a.1=b.1/\(FLt n a.2.1 b.2.1\/(a.2.1=b.2.1/\a.2.2<b.2.2)))
theorem Afr(n:Nat):WellFounded (Vn n):=by
 refine⟨λ⟨a,F,c⟩=>?_⟩;induction a using Nat.strongRecOn generalizing F c with
 | _ a iha =>
  have hF:=NZ n F;induction hF generalizing c with
  | intro F _ ihF =>
   induction c using Nat.strongRecOn with
   | _ c ihc =>
    refine⟨_,λ⟨a',F',c'⟩ h=>?_⟩;rcases h with h|⟨rfl,h|⟨rfl,h⟩⟩
    .exact iha a' h F' c'
    .exact ihF F' h c'
    .exact ihc c' h
def DY(p:F5)(main:Bool)(Stop:(Nat->Prop)->Goroutine->World->Prop):Tr->(Nat->Prop)->Goroutine->World->Prop
 | .leaf,M,g,w=>∀w₁,R0 p M w w₁->Stop M g w₁
 | .node f,M,g,w=>g.status=.running/\∀w₁,R0 p M w w₁->∃g' w' es,stepG p.P main g w₁=.go g' w' es/\
   Lc M w₁ w'/\(∀e∈es,FP p (BQ M w₁ w') e)/\DY p main Stop (f w₁) (BQ M w₁ w') g' w'
def Ends(p:F5)(main:Bool)(Stop:(Nat->Prop)->Goroutine->World->Prop)(M:Nat->Prop)(g:Goroutine)(w:World):Prop:=∃T,DY p main Stop T M g w
section
variable {p:F5} {main:Bool} {Stop Stop':(Nat->Prop)->Goroutine->World->Prop} {M:Nat->Prop} {g:Goroutine} {w w₁:World} {T:Tr}
theorem DY.rely(h:DY p main Stop T M g w)(hr:R0 p M w w₁):DY p main Stop T M g w₁:=by
 cases T with
 | leaf=>exact λqc qh=>h qc (hr.trans qh)
 | node f=>exact⟨h.1,λqc qh=>h.2 qc (hr.trans qh)⟩
theorem Ends.rely(h:Ends p main Stop M g w)(hr:R0 p M w w₁):Ends p main Stop M g w₁:=let ⟨T,h⟩:=h;⟨T,h.rely hr⟩
theorem Ends.stop(h:∀w₁,R0 p M w w₁->Stop M g w₁):Ends p main Stop M g w:=⟨.leaf,h⟩
theorem Ends.step(hs:g.status=.running)(h:∀w₁,R0 p M w w₁->∃g' w' es,stepG p.P main g w₁=.go g' w' es/\
   Lc M w₁ w'/\(∀e∈es,FP p (BQ M w₁ w') e)/\Ends p main Stop (BQ M w₁ w') g' w'):Ends p main Stop M g w:=by
 have h2:∀w₁,∃T,R0 p M w w₁->∃g' w' es,stepG p.P main g w₁=.go g' w' es/\
   Lc M w₁ w'/\(∀e∈es,FP p (BQ M w₁ w') e)/\DY p main Stop T (BQ M w₁ w') g' w':=λw₁=>by
  by_cases hr:R0 p M w w₁
  .obtain⟨g',w',es,e,hg,he,T,ht⟩:=h w₁ hr;exact⟨T,λ_=>⟨g',w',es,e,hg,he,ht⟩⟩
  .exact⟨.leaf,λx=>absurd x hr⟩
 exact⟨.node λw₁=>Classical.choose (h2 w₁),hs,λw₁ hr=>Classical.choose_spec (h2 w₁) hr⟩
theorem Ends.own(hs:g.status=.running)(h:∀w₁,R0 p M w w₁->∃g' w' es,stepG p.P main g w₁=.go g' w' es/\DK p M w₁ w' es/\Ends p main Stop M g' w'):Ends p main Stop M g w :=
 Ends.step hs λw₁ qb=>by
  obtain⟨g',w',es,e,hd,ht⟩:=h w₁ qb;have hp:=Pa (M:=M) hd.1.size;exact⟨g',w',es,e,⟨hd.1.tape,hd.1.os,hd.1.output,hd.1.nv,Nat.le_of_eq hd.1.size.symm,λb _ hb=>hd.1.block b hb⟩,by rw[hp];exact hd.2,by rw[hp];exact ht⟩
theorem Ends.ctl(hs:g.status=.running)(h:∀w,stepG p.P main g w=.go g' w #[])(k:Ends p main Stop M g' w):Ends p main Stop M g w :=
 Ends.own hs λw₁ qb=>⟨g',w₁,#[],h w₁,⟨.refl _,dC⟩,k.rely qb⟩
theorem DY.mono(hS:∀M g w,Stop M g w->Stop' M g w):∀(T:Tr) {M:Nat->Prop} {g:Goroutine} {w:World},DY p main Stop T M g w->DY p main Stop' T M g w
 | .leaf,_,_,_,h=>λw₁ qb=>hS _ _ _ (h w₁ qb)
 | .node f,_,_,_,h=>⟨h.1,λw₁ qb=>by
  obtain⟨g',w',es,e,hg,he,ht⟩:=h.2 w₁ qb;exact⟨g',w',es,e,hg,he,ht.mono hS (f w₁)⟩⟩
theorem Ends.mono(hS:∀M g w,Stop M g w->Stop' M g w)(h:Ends p main Stop M g w):Ends p main Stop' M g w:=let ⟨T,h⟩:=h;⟨T,h.mono hS T⟩
theorem DY.bind(hS:∀M g w,Stop M g w->Ends p main Stop' M g w)(hR:∀M g w,Stop M g w->g.status=.running):∀(T:Tr) {M:Nat->Prop} {g:Goroutine} {w:World},DY p main Stop T M g w->Ends p main Stop' M g w
 | .leaf,M,g,w,h=>by
  have h0:=hS _ _ _ (h w (.refl w));exact h0
 | .node f,_,_,_,h=>Ends.step h.1 λw₁ qb=>by
  obtain⟨g',w',es,e,hg,he,ht⟩:=h.2 w₁ qb;exact⟨g',w',es,e,hg,he,ht.bind hS hR (f w₁)⟩
theorem Ends.bind(hS:∀M g w,Stop M g w->Ends p main Stop' M g w)(hR:∀M g w,Stop M g w->g.status=.running)(h:Ends p main Stop M g w):Ends p main Stop' M g w:=let ⟨T,h⟩:=h;h.bind hS hR T
theorem DY.running(hS:∀M g w,Stop M g w->g.status=.running)(h:DY p main Stop T M g w):g.status=.running:=by
 cases T with
 | leaf=>exact hS _ _ _ (h w (.refl w))
 | node f=>exact h.1
end
abbrev No:Nat->Loc->Prop:=λ_ _=>False
def Is(p:F5)(i C:Nat)(v:Value)(M:Nat->Prop)(g:Goroutine)(w:World):Prop :=
 g.status=.running/\∃g₂ z,stepG p.P false g w=.comm g₂ #[scase p.Ch (p.val i) z] true .send w #[]/\
  ∀w',R0 p M w w'->∃m,Goes p.P false (RK p M) (DK p M) (AtR0 p.P p.ty p.Wg C 1 0 1 v) m (Go.Conc.served g₂ undef) w'
inductive WS (p:F5) (i C:Nat) (v:Value) (M:Nat->Prop) (T:Tr):Nat->Nat->Nat->Nat->Goroutine->World->Prop
 | pre1 {g:Goroutine} {w:World}:DY p false (Is p i C v) T M g w->WS p i C v M T 1 7 0 0 g w
 | pre0 {m:Nat} {g:Goroutine} {w:World}:Goes p.P false (RK p M) (DK p M) (AtR0 p.P p.ty p.Wg C 1 0 1 v) m g w->WS p i C v M T 0 7 m 0 g w
 | post {s m d:Nat} {g:Goroutine} {w:World}:s<=6->WSit p.P p.ty p.Wg C 1 No No 0 1 v s m d g w->WS p i C v M T 0 s m d g w
section
variable {p:F5} {i C:Nat} {v:Value} {M:Nat->Prop} {T:Tr} {e s m d:Nat} {g:Goroutine} {w w₁:World}
theorem RK.rw(h:RK p M w w₁)(hC:M C):RW p.ty p.Wg C 1 0 0 w w₁ :=
 ⟨λb hb=>oM,h.live,λ⟨cs,hc,hn⟩=>⟨cs,(h.own C hC).trans hc,hn⟩,cell_of_block (h.own C hC) 0⟩
theorem WS.rely(h:WS p i C v M T e s m d g w)(hC:M C)(hr:R0 p M w w₁):WS p i C v M T e s m d g w₁:=by
 cases h with
 | pre1 h=>exact .pre1 (h.rely hr)
 | pre0 h=>exact .pre0 (Goes.rely RK.tr h hr.rk)
 | post hs h=>exact .post hs (h.rely (by simpa using hr.rk.rw hC))
theorem WS.status(h:WS p i C v M T e s m d g w):g.status=.running\/g.status=.finished:=by
 cases h with
 | pre1 h=>exact .inl (h.running λ_ _ _ x=>x.1)
 | pre0 h=>exact .inl (Goes.running (λ_ _ x=>x.1) w (RK.refl w) h)
 | post _ h=>exact h.status
theorem WS.woken(h:WS p i C v M T e s m d g w)(a a':Goroutine)(w':World):woken p.P a a' w' g=g:=by
 unfold Go.Conc.woken;split
 .exact again_running _ h.status
 .rfl
theorem WS.running_of(h:WS p i C v M T e s m d g w)(hs:s≠1):g.status=.running:=by
 cases h with
 | pre1 h=>exact h.running λ_ _ _ x=>x.1
 | pre0 h=>exact Goes.running (λ_ _ x=>x.1) w (RK.refl w) h
 | post _ h=>exact h.running_of hs
end
section
variable (p:F5) (M:Nat->Prop)
def AK(k:Mark)(Next:Goroutine->World->Prop)(g:Goroutine)(w:World):Prop :=
 g.status=.running/\∃g',stepG p.P true g w=.go g' w #[mk k]/\∃m,Goes p.P true (R0 p M) DC0 Next m g' w
def ES(j:Nat)(Next:Goroutine->World->Prop)(g:Goroutine)(w:World):Prop :=
 g.status=.running/\∃g' child,stepG p.P true g w=.spawn g' child w #[]/\(∃C v T,M C/\DY p false (Is p j C v) T M child w)/\Next g' w
def WI(Next:Goroutine->World->Prop)(g:Goroutine)(w:World):Prop :=
 g.status=.running/\∀v:Nat,v<2147483647->WgAt p.ty p.Wg w (v*KK) 0->
  ∃g',stepG p.P true g w=.go g' (w.setCell (stA p.Wg) (.int .u64 ((v+1)*KK))) #[rd (stA p.Wg),wr (stA p.Wg)]/\
   ∃m,Goes p.P true (R0 p M) DC0 (AK p M (.read (smA p.Wg)) (AK p M .enable Next)) m g' (w.setCell (stA p.Wg) (.int .u64 ((v+1)*KK)))\/Goes p.P true (R0 p M) DC0 (AK p M .enable Next) m g' (w.setCell (stA p.Wg) (.int .u64 ((v+1)*KK)))
end
section
variable (p:F5)
abbrev Mt:Nat->Prop:=λ_=>False
def L5(r:Nat)(Next:Goroutine->World->Prop)(M:Nat->Prop):Goroutine->World->Prop:=AK p M .disable (WI p M (ES p M (p.n-(r+1)) Next))
def Sp(Into:Goroutine->World->Prop):Nat->Goroutine->World->Prop
 | 0,g,w=>∃m,Goes p.P true (R0 p Mt) DC0 (AK p Mt .disable Into) m g w
 | r+1,g,w=>Ends p true (L5 p r (Sp Into r)) Mt g w
variable (Anch Fin:Goroutine->World->Prop)
def Ql(g:Goroutine)(w:World):Prop:=g.status=.running/\∃g',stepG p.P true g w=.go g' w #[mk (.acquire (stA p.Wg))]/\Fin g' w
def Afs(g:Goroutine)(w:World):Prop :=
 g.status=.running/\(WgAt p.ty p.Wg w 0 0->∃g',stepG p.P true g w=.go g' w #[rd (stA p.Wg)]/\∃m,Goes p.P true (R0 p Mt) DC0 (AK p Mt .enable (Ql p Fin)) m g' w)
def WJ(g:Goroutine)(w:World):Prop :=
 g.status=.running/\g.offers=none/\((∃st,WgAt p.ty p.Wg w st 0)->stepG p.P true g w=.go {g with status:=.blocked} w #[])/\
  (WgAt p.ty p.Wg w 0 1->∃g',stepG p.P true g w=.go g' (w.setCell (smA p.Wg) (.int .u32 0)) (semEvents (smA p.Wg))/\∃m,Goes p.P true (R0 p Mt) DC0 (Afs p Fin) m g' (w.setCell (smA p.Wg) (.int .u32 0)))
def Oa(vs:Nat)(g:Goroutine)(w:World):Prop :=
 g.status=.running/\∀v:Nat,v<2147483648->WgAt p.ty p.Wg w (v*KK) 0->
  (v=vs->∃g',stepG p.P true g w=.go g' (w.setCell (stA p.Wg) (.int .u64 (v*KK+1))) #[rd (stA p.Wg),wr (stA p.Wg)]/\∃m,Goes p.P true (R0 p Mt) DC0 (AK p Mt (.write (smA p.Wg)) (WJ p Fin)) m g' (w.setCell (stA p.Wg) (.int .u64 (v*KK+1))))/\
  (v≠vs->∃g',stepG p.P true g w=.go g' w #[rd (stA p.Wg)]/\∃m,Goes p.P true (R0 p Mt) DC0 Anch m g' w)
def ET(g:Goroutine)(w:World):Prop :=
 g.status=.running/\∀v:Nat,v<2147483648->WgAt p.ty p.Wg w (v*KK) 0->∃g',stepG p.P true g w=.go g' w #[rd (stA p.Wg)]/\
  (v=0->∃m,Goes p.P true (R0 p Mt) DC0 (AK p Mt .enable (Ql p Fin)) m g' w)/\(v≠0->∃m,Goes p.P true (R0 p Mt) DC0 (Oa p Anch Fin v) m g' w)
inductive CS:CTag->Nat->Nat->Nat->Nat->(Nat->Prop)->Tr->Goroutine->World->Prop
 | al {r:Nat} {M:Nat->Prop} {T:Tr} {g:Goroutine} {w:World}:r<p.n->DY p true (L5 p r (Sp p Anch r)) T M g w->CS (.sp r 7) 0 (p.n-(r+1)) 0 0 M T g w
 | a1 {r m:Nat} {M:Nat->Prop} {T:Tr} {g:Goroutine} {w:World}:r<p.n->Goes p.P true (R0 p M) DC0 (WI p M (ES p M (p.n-(r+1)) (Sp p Anch r))) m g w->CS (.sp r 4) 0 (p.n-(r+1)) m 1 M T g w
 | sr {r m:Nat} {M:Nat->Prop} {T:Tr} {g:Goroutine} {w:World}:r<p.n->Goes p.P true (R0 p M) DC0 (AK p M (.read (smA p.Wg)) (AK p M .enable (ES p M (p.n-(r+1)) (Sp p Anch r)))) m g w->CS (.sp r 3) 0 (p.n-(r+1)) m 1 M T g w
 | ke2 {r m:Nat} {M:Nat->Prop} {T:Tr} {g:Goroutine} {w:World}:r<p.n->Goes p.P true (R0 p M) DC0 (AK p M .enable (ES p M (p.n-(r+1)) (Sp p Anch r))) m g w->CS (.sp r 2) 0 (p.n-(r+1)) m 1 M T g w
 | go {r m:Nat} {M:Nat->Prop} {T:Tr} {g:Goroutine} {w:World}:r<p.n->Goes p.P true (R0 p M) DC0 (ES p M (p.n-(r+1)) (Sp p Anch r)) m g w->CS (.sp r 1) 0 (p.n-(r+1)) m 0 M T g w
 | kd {m:Nat} {T:Tr} {g:Goroutine} {w:World}:Goes p.P true (R0 p Mt) DC0 (AK p Mt .disable Anch) m g w->CS .kd 0 p.n m 0 Mt T g w
 | anch {m:Nat} {T:Tr} {g:Goroutine} {w:World}:Goes p.P true (R0 p Mt) DC0 Anch m g w->CS .anch 0 p.n m 1 Mt T g w
 | w1 {m:Nat} {T:Tr} {g:Goroutine} {w:World}:Goes p.P true (R0 p Mt) DC0 (ET p Anch Fin) m g w->CS .w1 0 p.n m 1 Mt T g w
 | w2 {vs m:Nat} {T:Tr} {g:Goroutine} {w:World}:Goes p.P true (R0 p Mt) DC0 (Oa p Anch Fin vs) m g w->CS (.w2 vs) 0 p.n m 1 Mt T g w
 | sw {m:Nat} {T:Tr} {g:Goroutine} {w:World}:Goes p.P true (R0 p Mt) DC0 (AK p Mt (.write (smA p.Wg)) (WJ p Fin)) m g w->CS .w3 1 p.n m 1 Mt T g w
 | w3 {m:Nat} {T:Tr} {g:Goroutine} {w:World}:Goes p.P true (R0 p Mt) DC0 (WJ p Fin) m g w->CS .w3 0 p.n (m+1) 1 Mt T g w
 | blk {T:Tr} {g:Goroutine} {w:World}:(∀w₁,R0 p Mt w w₁->WJ p Fin g w₁)->CS .blk 0 p.n 0 1 Mt T {g with status:=.blocked} w
 | w4 {m:Nat} {T:Tr} {g:Goroutine} {w:World}:Goes p.P true (R0 p Mt) DC0 (Afs p Fin) m g w->CS .w4 0 p.n m 1 Mt T g w
 | ke {m:Nat} {T:Tr} {g:Goroutine} {w:World}:Goes p.P true (R0 p Mt) DC0 (AK p Mt .enable (Ql p Fin)) m g w->CS .ke 0 p.n m 1 Mt T g w
 | acq {m:Nat} {T:Tr} {g:Goroutine} {w:World}:Goes p.P true (R0 p Mt) DC0 (Ql p Fin) m g w->CS .acq 0 p.n m 0 Mt T g w
end
end Bd
namespace Bd
open Go.Conc Go.ConcN
open Go.ConcR (KK wgBlock WgAt stA smA rd wr mk Payload DC0 g_of_ofEvents ofEvent_mk again_blocked)
structure WX where
 d:WD
 e:Nat
 c:Nat
 v:Value
 m:Nat->Prop
 t:Tr
def ds(X:Nat->WX):Nat->WD:=λi=>(X i).d
theorem Rx(X:Nat->WX)(i:Nat)(x:WX):ds (upd X i x)=upd (ds X) i x.d:=by
 funext a
 by_cases e:a=i
 .subst e;simp[ds,upd_same]
 .simp[ds,upd_ne _ _ e]
structure FQ (j:Nat) (X:Nat->WX) (L:List Nat):Prop where
 nd:L.Nodup
 mem:∀i,i∈L↔(i<j/\(X i).e=0)
def far(T:Tr)(X:Nat->WX):Nat->Tr:=λk=>if k=0 then T else (X (k-1)).t
structure CN (p:F5) (j:Nat) (gs:Array Goroutine) (w:World) (t:Trace) (X:Nat->WX) (ow q:Nat->Nat) (d0:Nat) (M0:Nat->Prop):Prop where
 size:gs.size=p.m0+j
 old:∀i,1<=i->i<p.m0->∃g,gs[i]?=some g/\QuitsD p.P (q i) (Deaf t i) g
 wk:∀i,i<j->∃g,gs[p.m0+i]?=some g/\WS p i (X i).c (X i).v (X i).m (X i).t (X i).e (X i).d.stage (X i).d.fuel (X i).d.deaf g w
 mc:∀i,i<j->(X i).m (X i).c
 mo:∀i,i<j->∀b,(X i).m b->ow b=p.m0+i/\p.Low<=b/\b<w.heap.size
 m0:∀b,M0 b->ow b=0/\p.Low<=b/\b<w.heap.size
 low:p.Low<=w.heap.size
 ti:TI p t ow w.heap.size (p.m0+j)
 norel:Jn p t
 deaf0:Deaf t 0=d0
 deafW:∀i,i<j->Deaf t (p.m0+i)=(X i).d.deaf
 above:∀k,p.m0+j<=k->Deaf t k=0
 rel:∀i,i<j->(X i).d.stage<=6->∃r,RelBy (stA p.Wg) t (p.m0+i) r/\p.t0.size<=r
 ch:∃L,BP p w L/\FQ j X L
def mu(p:F5)(j:Nat)(X:Nat->WX)(q:Nat->Nat)(tag:CTag)(e0 f0:Nat)(T:Tr):Nat×(Nat->Tr)×Nat :=
 (phi p.n (Vc j (ds X)) tag+e0+Ssum j (ds X)+sumTo j (λi=>(X i).e),far T X,f0+2*Fsum j (ds X)+2*sumTo p.m0 q)
def Zj(p:F5)(Anch Fin:Goroutine->World->Prop)(μ:Nat×(Nat->Tr)×Nat)(m:Machine)(t:Trace):Prop :=
 ∃(gs:Array Goroutine)(w:World)(sl:Option (Nat×Nat)) (j:Nat) (X:Nat->WX) (ow q:Nat->Nat) (tag:CTag) (e0 f0 d0:Nat) (M0:Nat->Prop) (T:Tr) (a:Goroutine) (st sm:Int),
  m=crowd gs w sl/\gs[0]?=some a/\CS p Anch Fin tag e0 j f0 d0 M0 T a w/\CN p j gs w t X ow q d0 M0/\WgAt p.ty p.Wg w st sm/\ConcN.Mode j (ds X) tag st sm/\μ=mu p j X q tag e0 f0 T
def Cv(p:F5)(Anch Fin:Goroutine->World->Prop)(gs:Array Goroutine)(w:World)(sl:Option (Nat×Nat))(t:Trace)(i:Nat)(μ:Nat×(Nat->Tr)×Nat):Prop :=
 ∃qe ops μ',runT p.P (crowd gs w sl) i=(.next qe,ops)/\Vn (p.n+1) μ' μ/\Zj p Anch Fin μ' qe (t++ops)
section
variable {p:F5} {Anch Fin:Goroutine->World->Prop} {tag:CTag} {e0 j f d:Nat} {M0:Nat->Prop} {T:Tr} {a:Goroutine} {w w':World}
theorem CS.rely(h:CS p Anch Fin tag e0 j f d M0 T a w)(hr:R0 p M0 w w'):CS p Anch Fin tag e0 j f d M0 T a w':=by
 cases h with
 | al hn h=>exact .al hn (h.rely hr)
 | a1 hn h=>exact .a1 hn (Goes.rely R0.tr h hr)
 | sr hn h=>exact .sr hn (Goes.rely R0.tr h hr)
 | ke2 hn h=>exact .ke2 hn (Goes.rely R0.tr h hr)
 | go hn h=>exact .go hn (Goes.rely R0.tr h hr)
 | kd h=>exact .kd (Goes.rely R0.tr h hr)
 | anch h=>exact .anch (Goes.rely R0.tr h hr)
 | w1 h=>exact .w1 (Goes.rely R0.tr h hr)
 | w2 h=>exact .w2 (Goes.rely R0.tr h hr)
 | sw h=>exact .sw (Goes.rely R0.tr h hr)
 | w3 h=>exact .w3 (Goes.rely R0.tr h hr)
 | blk h=>exact .blk (λqc qh=>h qc (hr.trans qh))
 | w4 h=>exact .w4 (Goes.rely R0.tr h hr)
 | ke h=>exact .ke (Goes.rely R0.tr h hr)
 | acq h=>exact .acq (Goes.rely R0.tr h hr)
theorem CS.status(hAr:∀g w,Anch g w->g.status=.running)(h:CS p Anch Fin tag e0 j f d M0 T a w):(a.status=.running/\tag≠.blk)\/(a.status=.blocked/\tag=.blk):=by
 cases h with
 | al _ h=>exact .inl ⟨h.running λ_ _ _ x=>x.1,dC⟩
 | a1 _ h=>exact .inl ⟨Goes.running (λ_ _ x=>x.1) w (.refl w) h,dC⟩
 | sr _ h=>exact .inl ⟨Goes.running (λ_ _ x=>x.1) w (.refl w) h,dC⟩
 | ke2 _ h=>exact .inl ⟨Goes.running (λ_ _ x=>x.1) w (.refl w) h,dC⟩
 | go _ h=>exact .inl ⟨Goes.running (λ_ _ x=>x.1) w (.refl w) h,dC⟩
 | kd h=>exact .inl ⟨Goes.running (λ_ _ x=>x.1) w (.refl w) h,dC⟩
 | anch h=>exact .inl ⟨Goes.running hAr w (.refl w) h,dC⟩
 | w1 h=>exact .inl ⟨Goes.running (λ_ _ x=>x.1) w (.refl w) h,dC⟩
 | w2 h=>exact .inl ⟨Goes.running (λ_ _ x=>x.1) w (.refl w) h,dC⟩
 | sw h=>exact .inl ⟨Goes.running (λ_ _ x=>x.1) w (.refl w) h,dC⟩
 | w3 h=>exact .inl ⟨Goes.running (λ_ _ x=>x.1) w (.refl w) h,dC⟩
 | blk h=>exact .inr ⟨rfl,rfl⟩
 | w4 h=>exact .inl ⟨Goes.running (λ_ _ x=>x.1) w (.refl w) h,dC⟩
 | ke h=>exact .inl ⟨Goes.running (λ_ _ x=>x.1) w (.refl w) h,dC⟩
 | acq h=>exact .inl ⟨Goes.running (λ_ _ x=>x.1) w (.refl w) h,dC⟩
theorem CS.wokenBy(hAr:∀g w,Anch g w->g.status=.running)(h:CS p Anch Fin tag e0 j f d M0 T a w)(hr:R0 p M0 w w')(g g':Goroutine):
  ∃tag' f',CS p Anch Fin tag' e0 j f' d M0 T (woken p.P g g' w' a) w'/\f'<=f+1/\(tag'=tag\/(tag=.blk/\tag'=.w3))/\(mayWake p.P g=true->g'.status=.running->tag'≠.blk):=by
 have h':=h.rely hr;unfold Go.Conc.woken;split
 .rcases h'.status hAr with⟨hs,hne⟩|⟨_,rfl⟩
  .exact⟨tag,f,by rw[again_running _ (.inl hs)];exact h',oM,.inl rfl,λ_ _=>hne⟩
  .cases h' with
   | blk hb =>
    rename_i g0;have h3:=hb w' (.refl w');exact⟨.w3,0+1,by rw[again_blocked h3.1 h3.2.1];exact .w3 (Goes.stop hb),oM,.inr ⟨rfl,rfl⟩,λ_ _=>dC⟩
 .grind
theorem CS.offers(hAr:∀g w,Anch g w->g.status=.running)(h:CS p Anch Fin tag e0 j f d M0 T a w)(c:Nat)(s:Bool):offersAt a c s=[]:=by
 rcases h.status hAr with⟨hs,_⟩|⟨_,rfl⟩
 .exact offersAt_of_not_blocked (by rw[hs];simp) _ _
 .cases h with
  | blk hb =>
   have ho:=(hb _ (.refl _)).2.1;unfold offersAt;simp only[ho]
theorem CS.bound(h:CS p Anch Fin tag e0 j f d M0 T a w):j+pend tag<=p.n:=by
 cases h<;>simp only[pend]<;>(try simp)<;>omega
end
section
variable {p:F5} {Anch Fin:Goroutine->World->Prop} {gs gs':Array Goroutine} {w w':World} {sl:Option (Nat×Nat)} {j:Nat} {X:Nat->WX} {ow ow' q:Nat->Nat} {tag tag':CTag} {e0 e' f0 f' d0:Nat} {M0:Nat->Prop} {T:Tr} {a a':Goroutine} {t ops:Trace}
theorem CN.at(h:CN p j gs w t X ow q d0 M0)(d:Nat):CN p j gs (w.at d) t X ow q d0 M0 :=
 ⟨h.size,h.old,λi hi=>let ⟨g,hg,hs⟩:=h.wk i hi;⟨g,hg,hs.rely (h.mc i hi) (.at w d)⟩,h.mc,h.mo,h.m0,h.low,h.ti,h.norel,h.deaf0,h.deafW,h.above,h.rel,h.ch⟩
theorem EG(f:Goroutine->Goroutine){a b:Nat}(x:Goroutine)(hb:a≠b):((gs.map f).setIfInBounds a x)[b]?=(gs[b]?).map f:=by
 simp_all
theorem Le(f:Goroutine->Goroutine){a:Nat}(x:Goroutine)(ha:a<gs.size):((gs.map f).setIfInBounds a x)[a]?=some x:=by simp[ha]
theorem AdG{i:Nat}(x:WX):far T (upd X i x) (i+1)=x.t/\far T X (i+1)=(X i).t/\∀k,k≠i+1->far T (upd X i x) k=far T X k:=by
 refine⟨by simp[far,upd_same],by simp[far],λk hk=>?_⟩;unfold far;by_cases e:k=0
 .simp[e]
 .rw[if_neg e,if_neg e,upd_ne X x oM]
theorem MO(hm1:1<=p.m0)(hcom:CN p j gs w t X ow q d0 M0){i:Nat}(hi:i<j)(hj:j<=p.n){x':WX}{st' sm':Int}
  (hrun:runT p.P (crowd gs w sl) (p.m0+i)=(.next (crowd gs' w' sl),ops))
  (hsz:gs'.size=gs.size) (hg':gs'[p.m0+i]?=some g') (ha':gs'[0]?=some a') (hcs':CS p Anch Fin tag' e0 j f' d0 M0 T a' w')
  (hoth:∀k y,1<=k->k≠p.m0+i->gs[k]?=some y->y.status=.running\/y.status=.finished->gs'[k]?=some y)
  {Z:Nat->Prop} (hT:AJ p Z w w') (hZ:∀b,Z b->b=p.Wg\/b=p.Ch\/(X i).m b) (hWS:p.Wg<p.Low/\p.Ch<p.Low)
  (how:∀b,b<w.heap.size->ow' b=ow b) (hmc:x'.m x'.c) (hm:∀b,x'.m b->ow' b=p.m0+i/\p.Low<=b/\b<w'.heap.size)
  (hop:∀o∈ops,o.g=p.m0+i) (hti:TI p (t++ops) ow' w'.heap.size (p.m0+j))
  (hs':WS p i x'.c x'.v x'.m x'.t x'.e x'.d.stage x'.d.fuel x'.d.deaf g' w')
  (hnr:Jn p (t++ops)) (hdeaf:Deaf (t++ops) (p.m0+i)=x'.d.deaf)
  (hrel:x'.d.stage<=6->∃r,RelBy (stA p.Wg) (t++ops) (p.m0+i) r/\p.t0.size<=r)
  (hch:∃L,BP p w' L/\FQ j (upd X i x') L) (hwg:WgAt p.ty p.Wg w' st' sm')
  (htag:tag'=tag\/(tag=.blk/\tag'=.w3)) (hf':f'<=f0+1) (hmode:ConcN.Mode j (upd (ds X) i x'.d) tag' st' sm')
  (hlt:(x'.d.stage+x'.e<(X i).d.stage+(X i).e/\cnt x'.d<=cnt (X i).d)\/(x'.d.stage=(X i).d.stage/\x'.e=(X i).e/\Rw x'.t (X i).t)\/(x'.d.stage=(X i).d.stage/\x'.e=(X i).e/\x'.t=(X i).t/\x'.d.fuel+1=(X i).d.fuel)) :
  Cv p Anch Fin gs w sl t (p.m0+i) (mu p j X q tag e0 f0 T):=by
 have a4:∀b,Z b->b=p.Wg\/b=p.Ch\/p.Low<=b:=λb hb=>(hZ b hb).imp id λh=>h.imp id λh=>(hcom.mo i hi b h).2.1
 have hM:∀(M:Nat->Prop)(k:Nat),k≠p.m0+i->(∀b,M b->ow b=k/\p.Low<=b/\b<w.heap.size)->∀b,M b->¬Z b/\b<w.heap.size:=λM k hk h b hb=>by
  refine⟨λhz=>?_,(h b hb).2.2⟩;have:=(h b hb).2.1;rcases hZ b hz with e|e|e
  .omega
  .omega
  .have:=(hcom.mo i hi b e).1;have:=(h b hb).1;omega
 have e1:=sumTo_upd (ds X) x'.d cnt hi;have e2:=sumTo_upd (ds X) x'.d WD.stage hi;have e3:=sumTo_upd (ds X) x'.d WD.fuel hi;have e4:=sumTo_upd X x' WX.e hi;have a6:=hT.size;have a0:=AdG (T:=T) (X:=X) (i:=i) x';refine⟨_,_,mu p j (upd X i x') q tag' e0 f' T,hrun,?_,gs',w',sl,j,upd X i x',ow',q,tag',e0,f',d0,M0,T,a',st',sm',rfl,ha',hcs',?_,hwg,by rw[Rx];exact hmode,rfl⟩
 .unfold mu Vn;rw[phi_retag p.n _ htag,Rx];simp only[Vc,Ssum,Fsum] at *
  have a1:x'.d.stage=(X i).d.stage->x'.e=(X i).e->phi p.n (sumTo j λa=>cnt (upd (ds X) i x'.d a)) tag+e0+(sumTo j λa=>(upd (ds X) i x'.d a).stage)+(sumTo j λk=>(upd X i x' k).e)=phi p.n (sumTo j λa=>cnt (ds X a)) tag+e0+(sumTo j λa=>(ds X a).stage)+sumTo j λk=>(X k).e:=λh1 h2=>by
   have ec:cnt x'.d=cnt (ds X i):=by unfold cnt;rw[h1];rfl
   have ev:(sumTo j λa=>cnt (upd (ds X) i x'.d a))=sumTo j λa=>cnt (ds X a):=oM
   have a5:(sumTo j λa=>(upd (ds X) i x'.d a).stage)=sumTo j λa=>(ds X a).stage:=by simp only[ds] at *;omega
   have ee:(sumTo j λk=>(upd X i x' k).e)=sumTo j λk=>(X k).e:=oM
   rw[ev,a5,ee]
  rcases hlt with⟨h1,h2⟩|⟨h1,h2,h3⟩|⟨h1,h2,h3,h4⟩
  .left
   have:=phi_mono p.n (v':=sumTo j λa=>cnt (upd (ds X) i x'.d a)) (v:=sumTo j λa=>cnt (ds X a)) (by simp only[ds] at *;omega) tag;simp only[ds] at *;omega
  .exact .inr ⟨a1 h1 h2,.inl ⟨i+1,oM,by rw[a0.1,a0.2.1];exact h3,a0.2.2⟩⟩
  .refine .inr ⟨a1 h1 h2,.inr ⟨?_,?_⟩⟩
   .grind
   .simp only[ds] at *;omega
 .refine⟨by rw[hsz];exact hcom.size,λk k1 k2=>?_,λk hk=>?_,λk hk=>?_,λk hk=>?_,λb hb=>?_,by have:=hcom.low;omega,hti,hnr,by rw[Deaf_other t oM _ hop,hcom.deaf0],λk hk=>?_,λk hk=>?_,λk hk hst=>?_,hch⟩
  .obtain⟨y,hy,hq⟩:=hcom.old k k1 k2;exact⟨y,hoth k y k1 oM hy hq.status,by rw[Deaf_other t oM _ hop];exact hq⟩
  .by_cases e:k=i
   .subst e;exact⟨g',hg',by rw[upd_same];exact hs'⟩
   .obtain⟨y,hy,a2⟩:=hcom.wk k hk;refine⟨y,hoth _ y oM oM hy a2.status,?_⟩;rw[upd_ne X _ e];exact a2.rely (hcom.mc k hk) (hT.r0 hcom.low a4 (hM _ (p.m0+k) oM (hcom.mo k hk)))
  .by_cases e:k=i
   .subst e;rw[upd_same];exact hmc
   .rw[upd_ne X _ e];exact hcom.mc k hk
  .by_cases e:k=i
   .subst e;rw[upd_same];exact hm
   .rw[upd_ne X _ e];intro b hb;obtain⟨h1,h2,h3⟩:=hcom.mo k hk b hb;exact⟨(how b h3).trans h1,h2,oM⟩
  .obtain⟨h1,h2,h3⟩:=hcom.m0 b hb;exact⟨(how b h3).trans h1,h2,oM⟩
  .by_cases e:k=i
   .subst e;rw[upd_same];exact hdeaf
   .rw[Deaf_other t oM _ hop,hcom.deafW k hk,upd_ne X _ e]
  .rw[Deaf_other t oM _ hop];exact hcom.above k hk
  .by_cases e:k=i
   .subst e;rw[upd_same] at hst;exact hrel hst
   .rw[upd_ne X _ e] at hst;obtain⟨r,hr,a3⟩:=hcom.rel k hk hst;exact⟨r,hr.appOther hop oM,a3⟩
theorem Fg(hAr:∀g w,Anch g w->g.status=.running)(hm1:1<=p.m0)
  (ha:gs[0]?=some a) (hcs:CS p Anch Fin tag e0 j f0 d0 M0 T a w) (hcom:CN p j gs w t X ow q d0 M0)
  {i:Nat} (hi:i<j) (hj:j<=p.n) {g g':Goroutine} {es:Array Event} {x':WX} {st' sm':Int} (hg:gs[p.m0+i]?=some g) (hgo:stepG p.P false g w=.go g' w' es)
  {Z:Nat->Prop} (hT:AJ p Z w w') (hZ:∀b,Z b->b=p.Wg\/b=p.Ch\/(X i).m b) (hWS:p.Wg<p.Low/\p.Ch<p.Low)
  (how:∀b,b<w.heap.size->ow' b=ow b) (hmc:x'.m x'.c) (hm:∀b,x'.m b->ow' b=p.m0+i/\p.Low<=b/\b<w'.heap.size)
  (hti:TI p (t++MemOp.ofEvents (p.m0+i) g.frame.fn g.frame.place es) ow' w'.heap.size (p.m0+j))
  (hs':WS p i x'.c x'.v x'.m x'.t x'.e x'.d.stage x'.d.fuel x'.d.deaf g' w')
  (hnr:∀e∈es,e.loc≠.mark (.release (stA p.Wg))) (hdeaf:deafBehind (X i).d.deaf es=x'.d.deaf)
  (hrel:x'.d.stage<=6->∃r,RelBy (stA p.Wg) (t++MemOp.ofEvents (p.m0+i) g.frame.fn g.frame.place es) (p.m0+i) r/\p.t0.size<=r)
  (hch:∃L,BP p w' L/\FQ j (upd X i x') L) (hwg:WgAt p.ty p.Wg w' st' sm')
  (hmode:∀tag',(tag'=tag\/(tag=.blk/\tag'=.w3))->(mayWake p.P g=true->g'.status=.running->tag'≠.blk)->ConcN.Mode j (upd (ds X) i x'.d) tag' st' sm')
  (hlt:(x'.d.stage+x'.e<(X i).d.stage+(X i).e/\cnt x'.d<=cnt (X i).d)\/(x'.d.stage=(X i).d.stage/\x'.e=(X i).e/\Rw x'.t (X i).t)\/(x'.d.stage=(X i).d.stage/\x'.e=(X i).e/\x'.t=(X i).t/\x'.d.fuel+1=(X i).d.fuel)) :
  Cv p Anch Fin gs w sl t (p.m0+i) (mu p j X q tag e0 f0 T):=by
 have a5:∀b,Z b->b=p.Wg\/b=p.Ch\/p.Low<=b:=λb hb=>(hZ b hb).imp id λh=>h.imp id λh=>(hcom.mo i hi b h).2.1
 have a6:R0 p M0 w w':=hT.r0 hcom.low a5 λb hb=>by
  obtain⟨h1,h2,h3⟩:=hcom.m0 b hb;refine⟨λhz=>?_,h3⟩;rcases hZ b hz with e|e|e
  .omega
  .omega
  .have:=(hcom.mo i hi b e).1;omega
 obtain⟨tag',f',a1,a3,a0,a4⟩:=hcs.wokenBy hAr a6 g g';have a2:=runT_crowd_go (P:=p.P) (sl:=sl) (i:=p.m0+i) hg (by rw[show (p.m0+i==0)=false by simp;omega];exact hgo);refine MO hm1 hcom hi hj a2 dC (Le _ _ (by rw[hcom.size];omega)) (by rw[EG _ _ oM,ha];rfl) a1 (λk y k1 hk hy hs=>?_) hT hZ hWS how hmc hm g_of_ofEvents hti hs' (hcom.norel.app (norel_of hnr)) (by rw[Deaf_own,hcom.deafW i hi];exact hdeaf) hrel hch hwg a0 a3 (hmode tag' a0 a4) hlt;rw[EG _ _ oM,hy,Option.map_some];unfold Go.Conc.woken;split
 .rw[again_running _ hs]
 .rfl
theorem MP(hm1:1<=p.m0){T':Tr}
  (ha:gs[0]?=some a) (hcom:CN p j gs w t X ow q d0 M0)
  {es:Array Event} {M':Nat->Prop} {st' sm':Int} (hgo:stepG p.P true a w=.go a' w' es)
  {Z:Nat->Prop} (hT:AJ p Z w w') (hZ:∀b,Z b->b=p.Wg\/b=p.Ch\/M0 b) (hWS:p.Wg<p.Low/\p.Ch<p.Low)
  (how:∀b,b<w.heap.size->ow' b=ow b) (hm:∀b,M' b->ow' b=0/\p.Low<=b/\b<w'.heap.size)
  (hti:TI p (t++MemOp.ofEvents 0 a.frame.fn a.frame.place es) ow' w'.heap.size (p.m0+j)) (hnr:∀e∈es,e.loc≠.mark (.release (stA p.Wg)))
  (hcs':CS p Anch Fin tag' e' j f' (deafBehind d0 es) M' T' a' w') (hch:w'.heap[p.Ch]?=w.heap[p.Ch]?) (hwg:WgAt p.ty p.Wg w' st' sm') (hmode:ConcN.Mode j (ds X) tag' st' sm')
  (hlt:phi p.n (Vc j (ds X)) tag'+e'<phi p.n (Vc j (ds X)) tag+e0\/(phi p.n (Vc j (ds X)) tag'+e'=phi p.n (Vc j (ds X)) tag+e0/\(Rw T' T\/(T'=T/\f'<f0)))) :
  Cv p Anch Fin gs w sl t 0 (mu p j X q tag e0 f0 T):=by
 have a0:=runT_crowd_go (P:=p.P) (sl:=sl) (i:=0) ha (by simpa using hgo);have a4:=hT.size;have a3:∀b,Z b->b=p.Wg\/b=p.Ch\/p.Low<=b:=λb hb=>(hZ b hb).imp id λh=>h.imp id λh=>(hcom.m0 b h).2.1
 refine⟨_,_,mu p j X q tag' e' f' T',a0,?_,
  _,w',sl,j,X,ow',q,tag',e',f',deafBehind d0 es,M',T',a',st',sm',rfl,Le _ _ (by rw[hcom.size];omega),hcs',?_,hwg,hmode,rfl⟩
 .unfold mu Vn;rcases hlt with h|⟨h1,h2|⟨rfl,h2⟩⟩
  .omega
  .refine .inr ⟨by simp only;omega,.inl ⟨0,oM,by simpa [far] using h2,λk hk=>by simp[far,hk]⟩⟩
  .simp_all
 .refine⟨by simp[hcom.size],λk k1 k2=>?_,λk hk=>?_,hcom.mc,λk hk b hb=>?_,hm,by have:=hcom.low;omega,hti,hcom.norel.app (norel_of hnr),by rw[Deaf_own,hcom.deaf0],λk hk=>by rw[Deaf_other t oM _ g_of_ofEvents,hcom.deafW k hk],λk hk=>by rw[Deaf_other t oM _ g_of_ofEvents];exact hcom.above k hk,λk hk hst=>?_,?_⟩
  .obtain⟨y,hy,hq⟩:=hcom.old k k1 k2;exact⟨y,by rw[EG _ _ oM,hy,Option.map_some,woken_quitsD hq],by rw[Deaf_other t oM _ g_of_ofEvents];exact hq⟩
  .obtain⟨y,hy,a1⟩:=hcom.wk k hk;refine⟨y,by rw[EG _ _ oM,hy,Option.map_some,a1.woken],a1.rely (hcom.mc k hk) (hT.r0 hcom.low a3 λb hb=>?_)⟩;obtain⟨h1,h2,h3⟩:=hcom.mo k hk b hb;refine⟨λhz=>?_,h3⟩;rcases hZ b hz with e|e|e
   .omega
   .omega
   .have:=(hcom.m0 b e).1;omega
  .obtain⟨h1,h2,h3⟩:=hcom.mo k hk b hb;exact⟨(how b h3).trans h1,h2,oM⟩
  .obtain⟨r,hr,a2⟩:=hcom.rel k hk hst;exact⟨r,hr.appOther g_of_ofEvents oM,a2⟩
  .obtain⟨L,hL,hS⟩:=hcom.ch;exact⟨L,hch.trans hL,hS⟩
theorem AdH(o:p.Ok)(hAr:∀g w,Anch g w->g.status=.running)
  (ha:gs[0]?=some a) (hcs:CS p Anch Fin tag e0 j f0 d0 M0 T a w) (hcom:CN p j gs w t X ow q d0 M0) {st sm:Int} (hwg:WgAt p.ty p.Wg w st sm) (hmode:ConcN.Mode j (ds X) tag st sm)
  {i:Nat} (h1:1<=i) (hi:i<p.m0) {g:Goroutine} (hg:gs[i]?=some g) (hrun:g.status=.running) :
  Cv p Anch Fin gs w sl t i (mu p j X q tag e0 f0 T):=by
 obtain⟨qo,a3,hq⟩:=hcom.old i h1 hi;obtain rfl:g=qo:=by rw[hg] at a3;exact A5 a3
 cases hqi:q i with
 | zero=>rw[hqi] at hq;rw[hq.1] at hrun;cases hrun
 | succ k =>
  rw[hqi] at hq;rcases hq with⟨hf,_⟩|⟨_,g',es,hmute,hstep,hq'⟩
  .simp_all
  have a7:∀op∈MemOp.ofEvents i g.frame.fn g.frame.place es,op.act.touch?=none:=λop hop=>by
   obtain⟨e,he,rfl⟩:=Go.Conc.mem_ofEvents hop;exact touch_mute (hmute e he)
  have a8:∀e∈es,e.loc≠.mark (.release (stA p.Wg)):=λe he hl=>by
   have:=hmute e he;obtain⟨l,wr,sy⟩:=e;simp only at hl;subst hl;simp[Event.mute] at this
  obtain⟨a0,f',a2,b0,a1,_⟩:=hcs.wokenBy hAr (.refl w) g g';have a9:=runT_crowd_go (P:=p.P) (sl:=sl) (i:=i) hg (by rw[show (i==0)=false by simp;omega];exact hstep w)
  have e1:sumTo p.m0 (upd q i k)+(k+1)=sumTo p.m0 q+k:=by
   have:=sumTo_upd q k id hi;simpa [hqi] using this
  refine⟨_,_,mu p j X (upd q i k) a0 e0 f' T,a9,?_,
   _,w,sl,j,X,ow,upd q i k,a0,e0,f',d0,M0,T,woken p.P g g' w a,st,sm,rfl,by rw[EG _ _ oM,ha];rfl,a2,?_,hwg,hmode.retag a1,rfl⟩
  .unfold mu Vn;rw[phi_retag p.n _ a1];exact .inr ⟨rfl,.inr ⟨rfl,by simp only;omega⟩⟩
  .refine⟨by simp[hcom.size],λk' k1 k2=>?_,λk' hk=>?_,hcom.mc,hcom.mo,hcom.m0,hcom.low,hcom.ti.app o (g:=i) (λop hop=>by obtain⟨e,_,rfl⟩:=Go.Conc.mem_ofEvents hop;rfl) (λop hop x hx=>by rw[a7 op hop] at hx;cases hx),hcom.norel.app (norel_of a8),by rw[Deaf_other t oM _ g_of_ofEvents,hcom.deaf0],
    λk' hk=>by rw[Deaf_other t oM _ g_of_ofEvents,hcom.deafW k' hk],λk' hk=>by rw[Deaf_other t oM _ g_of_ofEvents];exact hcom.above k' hk,λk' hk hst=>?_,hcom.ch⟩
   .by_cases e:k'=i
    .subst e;exact⟨g',Le _ _ (by rw[hcom.size];omega),by rw[upd_same,Deaf_own];exact hq'⟩
    .obtain⟨y,hy,a4⟩:=hcom.old k' k1 k2;exact⟨y,by rw[EG _ _ oM,hy,Option.map_some,woken_quitsD a4],by rw[upd_ne q k e,Deaf_other t oM _ g_of_ofEvents];exact a4⟩
   .obtain⟨y,hy,a5⟩:=hcom.wk k' hk;exact⟨y,by rw[EG _ _ oM,hy,Option.map_some,a5.woken],a5⟩
   .obtain⟨r,hr,a6⟩:=hcom.rel k' hk hst;exact⟨r,hr.appOther g_of_ofEvents oM,a6⟩
end
end Bd
namespace Bd
open Go.Conc Go.ConcN Go.RowKit
open Go.ConcR (KK wgBlock WgAt stA smA rd wr mk Payload DC0 Bk g_of_ofEvents bk_of_mute ofEvent_loc_mark ofEvent_mk)
theorem FQ.same{j i:Nat}{X:Nat->WX}{L:List Nat}(h:FQ j X L)(x:WX)(hx:x.e=(X i).e):FQ j (upd X i x) L :=
 ⟨h.nd,λk=>by
  by_cases e:k=i
  .subst e;rw[upd_same,hx];exact h.mem k
  .rw[upd_ne X x e];exact h.mem k⟩
theorem FQ.more{j i:Nat}{X:Nat->WX}{L:List Nat}(h:FQ j X L)(x:WX)(hi:i<j)(h1:(X i).e≠0)(h0:x.e=0):FQ j (upd X i x) (L++[i]):=by
 have hn:i∉L:=λhm=>h1 ((h.mem i).1 hm).2;refine⟨List.nodup_append.2 ⟨h.nd,dC,λa ha b hb=>?_⟩,λk=>?_⟩
 .grind
 .rw[C8,C9,h.mem k];by_cases e:k=i
  .subst e;rw[upd_same];simp[hi,h0]
  .rw[upd_ne X x e];simp[e]
theorem Pb:∀(j:Nat)(L:List Nat),L.Nodup->(∀x∈L,x<j)->L.length<=j
 | 0,L,_,h=>by
  cases L with
  | nil=>simp
  | cons a l=>exact absurd (h a dC) oM
 | j+1,L,hn,h=>by
  have h1:=Pb j (L.erase j) (hn.erase j) λx hx=>by
   grind
  have h2:L.length<=(L.erase j).length+1:=by rw[List.length_erase];split<;>omega
  omega
theorem FQ.room{j i:Nat}{X:Nat->WX}{L:List Nat}(h:FQ j X L)(hi:i<j)(h1:(X i).e≠0):L.length<j:=by
 have hn:i∉L:=λhm=>h1 ((h.mem i).1 hm).2
 have:=Pb j (i::L) (List.nodup_cons.2 ⟨hn,h.nd⟩) λx hx=>by
  rcases List.mem_cons.1 hx with rfl|hx
  .exact hi
  .exact ((h.mem x).1 hx).1
 simp at this;omega
section
variable {p:F5} {ow:Nat->Nat} {h g:Nat} {M:Nat->Prop} {fn:FuncId} {pos:String} {es:Array Event}
theorem BB(hb:∀e∈es,Go.ConcR.Bk p.Wg e):∀op∈MemOp.ofEvents g fn pos es,∀x,op.act.touch?=some x->Vl p ow h g x:=λop hop x hx=>by
 rcases (okW_of_Bk (Own:=No) (Rd:=No) (k:=g) hb op hop).2 x hx with⟨h1,h2,h3⟩|h1|h1
 .exact .inl ⟨h1,h2,λe=>absurd e h3⟩
 .exact h1.elim
 .exact h1.1.elim
theorem Ob(hM:∀b,M b->ow b=g/\p.Low<=b/\b<h)(he:∀e∈es,FP p M e):∀op∈MemOp.ofEvents g fn pos es,∀x,op.act.touch?=some x->Vl p ow h g x:=λop hop x hx=>by
 obtain⟨e,hee,rfl⟩:=Go.Conc.mem_ofEvents hop;rcases (he e hee).1 x hx with⟨h1,h2,h3⟩|⟨h1,a,h2,h3,h4⟩
 .exact .inl ⟨h1,h2,λe=>absurd e h3⟩
 .exact .inr ⟨h1,a,h2,h3,h4.imp id λhm=>⟨(hM _ hm).2.1,(hM _ hm).2.2,(hM _ hm).1⟩⟩
theorem Jo(hn:∀e∈es,(MemAct.ofEvent e).touch?=none):∀op∈MemOp.ofEvents g fn pos es,∀x,op.act.touch?=some x->Vl p ow h g x:=λop hop x hx=>by
 obtain⟨e,he,rfl⟩:=Go.Conc.mem_ofEvents hop;rw[hn e he] at hx;cases hx
end
theorem Oc{g:Nat}{fn:FuncId}{pos:String}{es:Array Event}:∀op∈MemOp.ofEvents g fn pos es,op.g=g:=λop hop=>by obtain⟨e,_,rfl⟩:=Go.Conc.mem_ofEvents hop;rfl
def own(w:World)(ow:Nat->Nat)(g:Nat):Nat->Nat:=λb=>if b<w.heap.size then ow b else g
theorem Fz{w:World}{ow:Nat->Nat}{g b:Nat}(h:b<w.heap.size):own w ow g b=ow b:=by simp[own,h]
theorem Vo{w:World}{ow:Nat->Nat}{g b:Nat}(h:w.heap.size<=b):own w ow g b=g:=by simp[own];omega
section
variable {p:F5} {Anch Fin:Goroutine->World->Prop} {gs:Array Goroutine} {w:World} {sl:Option (Nat×Nat)} {j:Nat} {X:Nat->WX} {ow q:Nat->Nat} {tag:CTag} {e0 f0 d0:Nat} {M0:Nat->Prop} {T:Tr} {a:Goroutine} {t:Trace} {st sm:Int}
theorem WK(o:p.Ok)(hAr:∀g w,Anch g w->g.status=.running)
  (ha:gs[0]?=some a) (hcs:CS p Anch Fin tag e0 j f0 d0 M0 T a w) (hcom:CN p j gs w t X ow q d0 M0) (hwg:WgAt p.ty p.Wg w st sm) (hmode:ConcN.Mode j (ds X) tag st sm)
  {i:Nat} (hi:i<j) {g:Goroutine} (hg:gs[p.m0+i]?=some g) (hrun:g.status=.running) :
  Cv p Anch Fin gs w sl t (p.m0+i) (mu p j X q tag e0 f0 T):=by
 obtain⟨qo,e7,hs⟩:=hcom.wk i hi;obtain rfl:g=qo:=by rw[hg] at e7;exact A5 e7
 have b8:=o.m0;have b9:p.Wg<p.Low/\p.Ch<p.Low:=⟨o.wg,o.ch⟩;have a9:=hcom.mo i hi;have c8:¬(X i).m p.Wg:=λh=>by have:=(a9 _ h).2.1;have:=o.wg;omega
 have c1:¬(X i).m p.Ch:=λh=>by have:=(a9 _ h).2.1;have:=o.ch;omega
 have c9:p.m0+i=0\/(p.m0<=p.m0+i/\p.m0+i<p.m0+j):=.inr ⟨oM,oM⟩;have hb:=hcs.bound;have g2:=Vc_le j (ds X);generalize hst:(X i).d.stage=s at hs;generalize hfu:(X i).d.fuel=m at hs;generalize hde:(X i).d.deaf=dd at hs;generalize hee:(X i).e=e at hs;have a7:(ds X i).stage=s:=hst;have d7:Deaf t (p.m0+i)=dd:=by rw[hcom.deafW i hi,hde]
 have c2:j<=p.n:=oM
 obtain⟨L,b3,b4⟩:=hcom.ch;generalize htr:(X i).t=tr at hs;cases hs with
 | pre1 h =>
  have a4:ConcN.Mode j (upd (ds X) i ⟨7,0,0⟩) tag st sm:=by have:=hmode.same (i:=i) 0 0;rwa [a7] at this
  have f5:=b4.room hi oM;cases tr with
  | leaf =>
   obtain⟨_,g₂,z,d5,b5⟩:=h w (.refl w);obtain⟨hT,d6⟩:=AJ.ch (i:=i) b3 o.ne;have hr:R0 p (X i).m w (w.setChan p.Ch p.n ((L.map p.val).toArray.push (p.val i)) false (L.length+1) 0 false):=hT.r0 hcom.low (λb hb=>.inr (.inl hb)) λb hb=>⟨λe=>by cases e;exact c1 hb,(a9 b hb).2.2⟩;have d8:R0 p M0 w (w.setChan p.Ch p.n ((L.map p.val).toArray.push (p.val i)) false (L.length+1) 0 false):=hT.r0 hcom.low (λb hb=>.inr (.inl hb)) λb hb=>⟨λe=>by cases e;have:=(hcom.m0 _ hb).2.1;have:=o.ch;omega,(hcom.m0 b hb).2.2⟩;obtain⟨qd,hk⟩:=b5 _ hr
   have c3:partners (gs.setIfInBounds (p.m0+i) ph) p.Ch false=[]:=partners_nil λk y hy=>by
    rcases getElem?_stand gs (p.m0+i) k y hy with⟨_,rfl⟩|⟨hne,hy⟩
    .exact offersAt_ph _ _
    .rcases C3 k with rfl|hpos
     .rw[ha] at hy;cases hy
      exact hcs.offers hAr _ _
     .rcases Nat.lt_or_ge k p.m0 with hk'|hk'
      .obtain⟨y',b6,hq⟩:=hcom.old k hpos hk';rw[hy] at b6;cases b6
       exact offersAt_of_not_blocked (by rcases hq.status with e|e<;>rw[e]<;>simp) _ _
      .have c4:=(D1.1 hy).1;rw[hcom.size] at c4;obtain⟨k',rfl⟩:∃k',k=p.m0+k':=⟨k-p.m0,oM⟩;obtain⟨y',b6,f2⟩:=hcom.wk k' oM;rw[hy] at b6;cases b6
       exact offersAt_of_not_blocked (by rcases f2.status with e|e<;>rw[e]<;>simp) _ _
   have a5:=crowd_send_room (P:=p.P) (sl:=sl) hg (by rw[show (p.m0+i==0)=false by simp;omega];exact d5) b3 gG c3;rw[finishComm_send] at a5;have f6:MemOp.ofEvents (p.m0+i) g.frame.fn g.frame.place #[]=#[]:=by rw[ofEvents_eq];simp
   rw[f6,Array.empty_append] at a5
   have b0:∀op∈#[({g:=p.m0+i,fn:=g₂.frame.fn,pos:=g₂.frame.place,act:=.send p.Ch L.length}:MemOp),{g:=p.m0+i,fn:=g₂.frame.fn,pos:=g₂.frame.place,act:=.sendDone p.Ch L.length}],op.g=p.m0+i/\(op.act=.send p.Ch L.length\/op.act=.sendDone p.Ch L.length):=by
    simp_all
   have d9:∀op∈#[({g:=p.m0+i,fn:=g₂.frame.fn,pos:=g₂.frame.place,act:=.send p.Ch L.length}:MemOp),{g:=p.m0+i,fn:=g₂.frame.fn,pos:=g₂.frame.place,act:=.sendDone p.Ch L.length}],op.act≠.mark .disable/\op.act≠.mark .enable:=λop hop=>by
    grind
   refine MO (x':=⟨⟨7,qd,0⟩,0,(X i).c,(X i).v,(X i).m,.leaf⟩) (ow':=ow) b8 hcom hi c2 a5 dC (by rw[Array.getElem?_setIfInBounds_self_of_lt (by rw[hcom.size];omega)]) (by rw[Array.getElem?_setIfInBounds_ne oM];exact ha) (hcs.rely d8)
    (λk y k1 hk1 hy _=>by rw[Array.getElem?_setIfInBounds_ne oM];exact hy) hT (λb hb=>.inr (.inl hb)) b9 (λ_ _=>rfl) (hcom.mc i hi) (λb hb=>by have:=a9 b hb;exact⟨this.1,this.2.1,A1 this.2.2 hT.size⟩)
    (λop hop=>(b0 op hop).1) ?_ (.pre0 hk) (hcom.norel.app λop hop=>by rcases (b0 op hop).2 with e|e<;>rw[e]<;>simp) (by rw[Deaf_still t _ _ d9,d7]) (λh=>by simp at h) ⟨_,d6,b4.more _ hi oM rfl⟩ (hwg.of_block (by unfold World.setChan;exact Array.getElem?_setIfInBounds_ne (λe=>o.ne e.symm))) (.inl rfl) oM ?_ (.inl ⟨by rw[hst,hee];simp only;omega,by simp[cnt,hst]⟩)
   .have e1:(w.setChan p.Ch p.n ((L.map p.val).toArray.push (p.val i)) false (L.length+1) 0 false).heap.size=w.heap.size:=by simp[World.setChan]
    rw[e1];exact hcom.ti.app o (λop hop=>(b0 op hop).1) λop hop x hx=>by rcases (b0 op hop).2 with e|e<;>(rw[e] at hx;cases hx)
   .have:=hmode.same (i:=i) qd 0;rwa [a7] at this
  | node f =>
   obtain⟨_,a8⟩:=h;obtain⟨g',w',es,a0,c6,c7,hk⟩:=a8 w (.refl w);have f7:=c6.size
   have e8:∀b,BQ (X i).m w w' b->own w ow (p.m0+i) b=p.m0+i/\p.Low<=b/\b<w'.heap.size:=λb hb=>by
    rcases hb with hb|hb
    .have:=a9 b hb;exact⟨by rw[Fz oM];exact this.1,this.2.1,oM⟩
    .exact⟨Vo hb.1,by have:=hcom.low;omega,hb.2⟩
   refine Fg (x':=⟨⟨7,0,0⟩,1,(X i).c,(X i).v,BQ (X i).m w w',f w⟩) (ow':=own w ow (p.m0+i)) hAr b8 ha hcs hcom hi c2 hg a0 (AJ.gr c6 o hcom.low c8 c1) (λb hb=>.inr (.inr hb)) b9 (λb hb=>Fz hb) (.inl (hcom.mc i hi)) e8
    ?_ (.pre1 hk) (λe he=>(c7 e he).2.2.2) (by rw[hde];exact deafBehind_idle (λe he=>⟨(c7 e he).2.1,(c7 e he).2.2.1⟩) 0) (λh=>by simp at h) ⟨L,(c6.block _ (by have:=hcom.low;have:=o.ch;omega) c1).trans b3,b4.same _ (by simp[hee])⟩ (hwg.of_block (c6.block _ (by have:=hcom.low;have:=o.wg;omega) c8)) (λ_ ht _=>a4.retag ht) (.inr (.inl ⟨hst.symm,hee.symm,by rw[htr];exact .mk f w⟩))
   exact (hcom.ti.grow f7 λb hb=>Fz hb).app o Oc λop hop x hx=>⟨c9,Ob e8 c7 op hop x hx⟩
 | pre0 h =>
  have a4:∀m',ConcN.Mode j (upd (ds X) i ⟨7,m',0⟩) tag st sm:=λm'=>by have:=hmode.same (i:=i) m' 0;rwa [a7] at this
  rcases Goes.cases h with hstop|⟨m',rfl,hstep⟩
  .obtain⟨_,f3,g',a0,qd,hk⟩:=hstop w (RK.refl w)
   exact Fg (x':=⟨⟨6,qd,0⟩,0,(X i).c,(X i).v,(X i).m,tr⟩) (ow':=ow) hAr b8 ha hcs hcom hi c2 hg a0 (Z:=λ_=>False) (.refl w) (λb hb=>hb.elim) b9 (λ_ _=>rfl) (hcom.mc i hi) a9
    (hcom.ti.app o Oc λop hop x hx=>⟨c9,Jo (by intro e he;simp at he;subst he;rfl) op hop x hx⟩) (.post (A3 _) (.k1 hk)) (by intro e he;simp at he;subst he;simp[mk]) (by rw[hde];rfl)
    (λ_=>⟨t.size,RelBy.new d7 _ _,by obtain⟨u,hu⟩:=hcom.ti.pre;rw[hu];simp⟩) ⟨L,b3,b4.same _ (by simp[hee])⟩ hwg (λ_ ht _=>(hmode.counted hi oM (.inl rfl) _ _).retag ht) (.inl ⟨by rw[hst,hee];simp only;omega,by simp[cnt,hst]⟩)
  .obtain⟨g',w',es,a0,hD,a3⟩:=hstep w (RK.refl w)
   refine Fg (x':=⟨⟨7,m',0⟩,0,(X i).c,(X i).v,(X i).m,tr⟩) (ow':=ow) hAr b8 ha hcs hcom hi c2 hg a0 (AJ.ow hD.1 c8 c1) (λb hb=>.inr (.inr hb)) b9 (λ_ _=>rfl) (hcom.mc i hi) (λb hb=>by have:=a9 b hb;rw[hD.1.size];exact this)
    ?_ (.pre0 a3) (λe he=>(hD.2 e he).2.2.2) (by rw[hde];exact deafBehind_idle (λe he=>⟨(hD.2 e he).2.1,(hD.2 e he).2.2.1⟩) 0) (λh=>by simp at h) ⟨L,(hD.1.block _ c1).trans b3,b4.same _ (by simp[hee])⟩ (hwg.of_block (hD.1.block _ c8)) (λ_ ht _=>(a4 m').retag ht) (.inr (.inr ⟨hst.symm,hee.symm,htr.symm,by rw[hfu]⟩))
   rw[hD.1.size];exact hcom.ti.app o Oc λop hop x hx=>⟨c9,Ob a9 hD.2 op hop x hx⟩
 | post h6 h =>
  have b1:∀{g':Goroutine} {w':World} {es:Array Event} {s' m' dd':Nat} {st' sm':Int},stepG p.P false g w=.go g' w' es->Go.Conc.Aside p.Wg w w'->WgAt p.ty p.Wg w' st' sm'->(∀e∈es,Go.ConcR.Bk p.Wg e)->
    (∀jx e,es[jx]?=some e->(MemAct.ofEvent e).touch?=none\/0<deafBehind dd (es.extract 0 jx))->WSit p.P p.ty p.Wg (X i).c 1 No No 0 1 (X i).v s' m' dd' g' w'->deafBehind dd es=dd'->s'<=6->
    (∀tag',(tag'=tag\/(tag=.blk/\tag'=.w3))->(mayWake p.P g=true->g'.status=.running->tag'≠.blk)->ConcN.Mode j (upd (ds X) i ⟨s',m',dd'⟩) tag' st' sm')->((s'<s/\cnt ⟨s',m',dd'⟩<=cnt (ds X i))\/(s'=s/\m'+1=m))->
    Cv p Anch Fin gs w sl t (p.m0+i) (mu p j X q tag e0 f0 T):=by
   intro g' w' es s' m' dd' st' sm' a0 hAs hwg' b2 hd hs' hdd h6' hmode' c4
   refine Fg (x':=⟨⟨s',m',dd'⟩,0,(X i).c,(X i).v,(X i).m,tr⟩) (ow':=ow) hAr b8 ha hcs hcom hi c2 hg a0 (AJ.wg hAs ⟨_,_,hwg'⟩ o.ne) (λb hb=>.inl hb) b9 (λ_ _=>rfl) (hcom.mc i hi) (λb hb=>by have:=a9 b hb;rw[hAs.size];exact this)
    ?_ (.post h6' hs') (norel_of_Bk b2) (by rw[hde];exact hdd) (λ_=>let ⟨r,hr,d8⟩:=hcom.rel i hi oM;⟨r,hr.book d7 _ _ b2 hd,d8⟩) ⟨L,(hAs.block _ (Ne.symm o.ne)).trans b3,b4.same _ (by simp[hee])⟩ hwg' hmode' ?_
   .rw[hAs.size];exact hcom.ti.app o Oc λop hop x hx=>⟨c9,BB b2 op hop x hx⟩
   .rcases c4 with⟨h1,h2⟩|⟨h1,h2⟩
    .exact .inl ⟨by rw[hst,hee];exact h1,h2⟩
    .simp_all
  have a1:∀{g':Goroutine} {w':World} {es:Array Event} {s' m' dd':Nat} {st' sm':Int},stepG p.P false g w=.go g' w' es->Go.Conc.Aside p.Wg w w'->WgAt p.ty p.Wg w' st' sm'->(∀e∈es,Go.ConcR.Bk p.Wg e)->
    (∀jx e,es[jx]?=some e->(MemAct.ofEvent e).touch?=none\/0<deafBehind dd (es.extract 0 jx))->WSit p.P p.ty p.Wg (X i).c 1 No No 0 1 (X i).v s' m' dd' g' w'->deafBehind dd es=dd'->s'<=6->
    ConcN.Mode j (upd (ds X) i ⟨s',m',dd'⟩) tag st' sm'->((s'<s/\cnt ⟨s',m',dd'⟩<=cnt (ds X i))\/(s'=s/\m'+1=m))->
    Cv p Anch Fin gs w sl t (p.m0+i) (mu p j X q tag e0 f0 T) :=
   λa0 hAs hwg' b2 hd hs' hdd h6' hmode' c4=>b1 a0 hAs hwg' b2 hd hs' hdd h6' (λ_ ht _=>hmode'.retag ht) c4
  have a6:∀{g':Goroutine} {m':Nat},stepG p.P false g w=.go g' w #[]->WSit p.P p.ty p.Wg (X i).c 1 No No 0 1 (X i).v s m' dd g' w->m'+1=m->
    Cv p Anch Fin gs w sl t (p.m0+i) (mu p j X q tag e0 f0 T):=by
   intro g' m' a0 hs' hm;exact a1 a0 (.refl p.Wg w) hwg dC dC hs' rfl h6 (by have:=hmode.same (i:=i) m' dd;rwa [a7] at this) (.inr ⟨rfl,hm⟩)
  cases h with
  | r0 h=>omega
  | k1 h =>
   rcases Goes.cases h with hstop|⟨m',rfl,hstep⟩
   .obtain⟨_,g',a0,qd,hk⟩:=hstop w (RW.refl w)
    exact a1 a0 (.refl p.Wg w) hwg (by intro e he;simp at he;subst he;exact .inl rfl) (by intro jx e he;exact .inl (by have:=Array.mem_of_getElem? he;simp at this;subst this;rfl)) (.d1 hk) rfl oM
     (hmode.counted hi oM (.inr rfl) _ _) (.inl ⟨oM,by simp[cnt,a7]⟩)
   .obtain⟨g',w',es,a0,⟨rfl,rfl⟩,a3⟩:=hstep w (RW.refl w);exact a6 a0 (.k1 a3) rfl
  | d1 h =>
   rcases Goes.cases h with hstop|⟨m',rfl,hstep⟩
   .obtain⟨_,a8⟩:=hstop w (RW.refl w);have f8:cnt (ds X i)=1:=by simp[cnt,a7]
    have g3:1<=Vc j (ds X):=by have:=le_sumTo (f:=λx=>cnt (ds X x)) hi;simp only[Vc];omega
    have e2:∀e∈#[rd (stA p.Wg),wr (stA p.Wg)],Go.ConcR.Bk p.Wg e:=by intro e he;simp at he;rcases he with rfl|rfl<;>exact bk_cell _ _ rfl
    have e4:∀jx e,(#[rd (stA p.Wg),wr (stA p.Wg)]:Array Event)[jx]?=some e->(MemAct.ofEvent e).touch?=none\/0<deafBehind 1 ((#[rd (stA p.Wg),wr (stA p.Wg)]:Array Event).extract 0 jx):=by
     intro jx e he;match jx,he with
     | 0,_=>exact .inr (by simp[deafBehind])
     | 1,_=>exact .inr (by simp[deafBehind,rd])
     | jx+2,he=>simp at he
    have e9:∀q,cnt (⟨1,q,1⟩:WD)=0:=λ_=>rfl
    have f1:∀q,OpenSt j (ds X)->OpenSt j (upd (ds X) i ⟨1,q,1⟩):=λq h a ha=>by
     by_cases e:a=i
     .subst e;rw[upd_same];simp
     .rw[upd_ne (ds X) _ e];exact h a ha
    cases hmode with
    | opn h1 h2 h3 =>
     obtain⟨v,hv⟩:∃v,Vc j (ds X)+pend tag=v+1:=⟨Vc j (ds X)+pend tag-1,oM⟩;rw[hv] at hwg;have f9:=o.n;have e5:WgAt p.ty p.Wg w (((v:Nat)+1)*KK+((0:Nat):Int)) 0:=by simpa using hwg
     obtain⟨g',a0,_,hq⟩:=a8 v 0 oM oM e5;obtain⟨q,hq⟩:=hq oM;have e6:Vc j (upd (ds X) i ⟨1,q,1⟩)+pend tag=v:=by have:=Vc_upd (ds X) (⟨1,q,1⟩:WD) hi;have:=e9 q;omega
     refine a1 a0 (aside_setCell w (stA p.Wg) _) (hwg.setSt _) e2 e4 (.quit hq) rfl oM ?_ (.inl ⟨oM,by simp[cnt]⟩);have e:((v:Nat):Int)*KK+((0:Nat):Int)=((Vc j (upd (ds X) i ⟨1,q,1⟩)+pend tag:Nat):Int)*KK:=by rw[e6];simp
     rw[e];exact .opn h1 (f1 q h2) (λvs ev=>by have:=h3 vs ev;omega)
    | reg h1 h2 h3 =>
     obtain⟨v,hv⟩:∃v,Vc j (ds X)=v+1:=⟨Vc j (ds X)-1,oM⟩;rw[hv] at hwg;have f9:=o.n;have hp:pend tag=0:=by cases tag<;>first|rfl|exact h1.elim
     have e5:WgAt p.ty p.Wg w (((v:Nat)+1)*KK+((1:Nat):Int)) 0:=by simpa using hwg
     obtain⟨g',a0,hl,hq⟩:=a8 v 1 oM oM e5;by_cases hv0:v=0
     .subst hv0;obtain⟨qd,hk⟩:=hl ⟨rfl,rfl⟩;refine a1 a0 (aside_setCell w (stA p.Wg) _) (hwg.setSt _) e2 e4 (.d2 hk) rfl oM ?_ (.inl ⟨oM,by simp[cnt]⟩)
      have a2:∀a,a<j->a≠i->(ds X a).stage=1:=λa ha e=>by
       have c0:=others_uncounted hi hv f8 a ha e;have:=h2 a ha;simp only[cnt] at c0;split at c0<;>omega
      have:=ConcN.Mode.last (j:=j) (D:=upd (ds X) i ⟨4,qd,1⟩) (tag:=tag) i h1 hi (by rw[upd_same];simp) (λa ha e=>by rw[upd_ne (ds X) _ e];exact a2 a ha e);rw[upd_same] at this;simpa using this
     .obtain⟨q,hq⟩:=hq oM;have e6:Vc j (upd (ds X) i ⟨1,q,1⟩)=v:=by have:=Vc_upd (ds X) (⟨1,q,1⟩:WD) hi;have:=e9 q;omega
      refine a1 a0 (aside_setCell w (stA p.Wg) _) (hwg.setSt _) e2 e4 (.quit hq) rfl oM ?_ (.inl ⟨oM,by simp[cnt]⟩);have e:((v:Nat):Int)*KK+((1:Nat):Int)=((Vc j (upd (ds X) i ⟨1,q,1⟩):Nat):Int)*KK+1:=by rw[e6];simp
      rw[e];exact .reg h1 (f1 q h2) oM
    | last L _ h2 h3 h4 =>
     by_cases e:i=L
     .subst e;omega
     .simp_all
    | sema h2=>have:=h2 i hi;omega
    | fin _ h2=>have:=h2 i hi;omega
   .obtain⟨g',w',es,a0,⟨rfl,rfl⟩,a3⟩:=hstep w (RW.refl w);exact a6 a0 (.d1 a3) rfl
  | d2 h =>
   rcases Goes.cases h with hstop|⟨m',rfl,hstep⟩
   .obtain⟨_,hx⟩:=hstop w (RW.refl w);obtain⟨b7,a2,rfl,rfl⟩:=hmode.isLast hi oM;simp only[a7] at hwg;obtain⟨g',a0,qd,hk⟩:=hx (by simpa using hwg);refine a1 a0 (.refl p.Wg w) hwg (by intro e he;simp at he;subst he;exact bk_cell _ _ rfl) (by intro jx e he;match jx,he with|0,_=>exact .inr (by simp[deafBehind])|jx+1,he=>simp at he) (.d3 hk) rfl oM ?_ (.inl ⟨oM,by simp[cnt]⟩);have:=ConcN.Mode.last (j:=j) (D:=upd (ds X) i ⟨3,qd,1⟩) (tag:=tag) i b7 hi (by rw[upd_same];simp) (λa ha e=>by rw[upd_ne (ds X) _ e];exact a2 a ha e);rw[upd_same] at this;simpa using this
   .obtain⟨g',w',es,a0,⟨rfl,rfl⟩,a3⟩:=hstep w (RW.refl w);exact a6 a0 (.d2 a3) rfl
  | d3 h =>
   rcases Goes.cases h with hstop|⟨m',rfl,hstep⟩
   .obtain⟨_,hx⟩:=hstop w (RW.refl w);obtain⟨b7,a2,rfl,rfl⟩:=hmode.isLast hi oM;simp only[a7] at hwg;obtain⟨g',a0,qd,hk⟩:=hx (by simpa using hwg);refine a1 a0 (aside_setCell w (stA p.Wg) _) (hwg.setSt 0) (by intro e he;simp at he;subst he;exact bk_cell _ _ rfl) (by intro jx e he;match jx,he with|0,_=>exact .inr (by simp[deafBehind])|jx+1,he=>simp at he) (.d4 hk) rfl oM ?_ (.inl ⟨oM,by simp[cnt]⟩);have:=ConcN.Mode.last (j:=j) (D:=upd (ds X) i ⟨2,qd,1⟩) (tag:=tag) i b7 hi (by rw[upd_same];simp) (λa ha e=>by rw[upd_ne (ds X) _ e];exact a2 a ha e);rw[upd_same] at this;simpa using this
   .obtain⟨g',w',es,a0,⟨rfl,rfl⟩,a3⟩:=hstep w (RW.refl w);exact a6 a0 (.d3 a3) rfl
  | d4 h =>
   rcases Goes.cases h with hstop|⟨m',rfl,hstep⟩
   .obtain⟨_,f4,hx⟩:=hstop w (RW.refl w);obtain⟨b7,a2,rfl,rfl⟩:=hmode.isLast hi oM;simp only[a7] at hwg;obtain⟨g',a0,q,hq⟩:=hx (by simpa using hwg)
    have c5:g'.status=.running:=by
     cases q with
     | zero=>exact absurd hq.2 aS
     | succ q=>exact hq.elim (λx=>absurd x.2 aS) (λx=>x.1)
    refine b1 a0 (aside_setCell w (smA p.Wg) _) (hwg.setSm 1) (es:=semEvents (smA p.Wg)) bk_sem ?_ (.quit hq) (by simp[deafBehind,semEvents]) oM ?_ (.inl ⟨oM,by simp[cnt]⟩)
    .intro jx e he;match jx,he with
     | 0,he=>simp[semEvents] at he;subst he;exact .inl rfl
     | 1,_=>exact .inr (by simp[deafBehind,semEvents])
     | 2,_=>exact .inr (by simp[deafBehind,semEvents])
     | 3,he=>simp[semEvents] at he;subst he;exact .inl rfl
     | jx+4,he=>simp[semEvents] at he
    .intro tag' ht hw;have g0:=hw f4 c5
     have e3:tag'=.w3:=by
      rcases ht with rfl|⟨_,rfl⟩
      .cases tag'<;>first|rfl|exact b7.elim|exact absurd rfl g0
      .rfl
     subst e3;simp only[if_true]
     exact .sema λa ha=>by
      by_cases e:a=i
      .subst e;rw[upd_same]
      .rw[upd_ne (ds X) _ e];exact a2 a ha e
   .obtain⟨g',w',es,a0,⟨rfl,rfl⟩,a3⟩:=hstep w (RW.refl w);exact a6 a0 (.d4 a3) rfl
  | quit h =>
   cases m with
   | zero=>rw[h.1] at hrun;cases hrun
   | succ q =>
    rcases h with⟨hf,_⟩|⟨_,g',es,hmute,hstep,hq⟩
    .simp_all
    .have b2:∀e∈es,Go.ConcR.Bk p.Wg e:=λe he=>bk_of_mute (hmute e he);have g1:∀jx e,es[jx]?=some e->(MemAct.ofEvent e).touch?=none\/0<deafBehind dd (es.extract 0 jx):=λjx e he=>.inl (touch_mute (hmute e (Array.mem_of_getElem? he)));exact a1 (hstep w) (.refl p.Wg w) hwg b2 g1 (.quit hq) rfl oM (by have:=hmode.same (i:=i) q (deafBehind dd es);rwa [a7] at this) (.inr ⟨rfl,rfl⟩)
end
end Bd
namespace Bd
open Go.Conc Go.ConcN
open Go.ConcR (KK wgBlock WgAt stA smA rd wr mk Payload DC0 Bk g_of_ofEvents ofEvent_mk)
def Done(p:F5)(Fin:Goroutine->World->Prop)(m:Machine)(t:Trace):Prop :=
 ∃(gs:Array Goroutine)(a:Goroutine)(w:World)(sl:Option (Nat×Nat)) (q:Nat->Nat) (B':Nat) (L:List Nat),m=crowd gs w sl/\gs.size=p.m0+p.n/\gs[0]?=some a/\Fin a w/\BP p w L/\L.Nodup/\(∀i,i∈L↔i<p.n)/\Leavers p.P t gs q/\Fr p.Sh B' t
theorem It{p:F5}{ow:Nat->Nat}{h:Nat}{fn:FuncId}{pos:String}{k:Mark}(hk:k=.disable\/k=.enable\/(∃a,k=.acquire a)\/∃a:Addr,a.block=p.Wg/\(k=.read a\/k=.write a)):
  ∀op∈MemOp.ofEvents 0 fn pos #[mk k],∀x,op.act.touch?=some x->Vl p ow h 0 x:=λop hop x hx=>by
 obtain⟨e,he,rfl⟩:=Go.Conc.mem_ofEvents hop;simp only[Array.mem_singleton] at he;subst he;rw[ofEvent_mk] at hx;rcases hk with rfl|rfl|⟨a,rfl⟩|⟨a,ha,rfl|rfl⟩<;>simp only[MemAct.touch?,Option.some.injEq,reduceCtorEq] at hx<;>subst hx<;>exact .inl ⟨⟨a,rfl,ha⟩,dC,λ_=>rfl⟩
section
variable {p:F5} {Anch Fin:Goroutine->World->Prop} {gs:Array Goroutine} {w w':World} {sl:Option (Nat×Nat)} {j:Nat} {X:Nat->WX} {ow q:Nat->Nat} {tag tag':CTag} {e0 e' f0 f' d0 B b:Nat} {M0 M:Nat->Prop} {T:Tr} {a a':Goroutine} {t:Trace} {st sm st' sm':Int} {es:Array Event}
theorem AA(o:p.Ok)(ha:gs[0]?=some a)(hcom:CN p j gs w t X ow q d0 M0)(hgo:stepG p.P true a w=.go a' w' es)(hAs:Go.Conc.Aside p.Wg w w')(hwg':WgAt p.ty p.Wg w' st' sm')
  (hok:∀op∈MemOp.ofEvents 0 a.frame.fn a.frame.place es,∀x,op.act.touch?=some x->Vl p ow w.heap.size 0 x) (hnr:∀e∈es,e.loc≠.mark (.release (stA p.Wg)))
  (hcs':CS p Anch Fin tag' e' j f' (deafBehind d0 es) M0 T a' w') (hmode':ConcN.Mode j (ds X) tag' st' sm')
  (hlt:phi p.n (Vc j (ds X)) tag'+e'<phi p.n (Vc j (ds X)) tag+e0\/(phi p.n (Vc j (ds X)) tag'+e'=phi p.n (Vc j (ds X)) tag+e0/\f'<f0)) :
  Cv p Anch Fin gs w sl t 0 (mu p j X q tag e0 f0 T) :=
 MP (ow':=ow) o.m0 ha hcom hgo (AJ.wg hAs ⟨_,_,hwg'⟩ o.ne) (λb hb=>.inl hb) ⟨o.wg,o.ch⟩ (λ_ _=>rfl) (λb hb=>by rw[hAs.size];exact hcom.m0 b hb)
  (by rw[hAs.size];exact hcom.ti.app o Oc λop hop x hx=>⟨.inl rfl,hok op hop x hx⟩) hnr hcs' (hAs.block _ (Ne.symm o.ne)) hwg' hmode' (hlt.imp id λh=>⟨h.1,.inr ⟨rfl,h.2⟩⟩)
theorem Cw(o:p.Ok)(ha:gs[0]?=some a)(hcom:CN p j gs w t X ow q d0 M0)(hwg:WgAt p.ty p.Wg w st sm)(hmode:ConcN.Mode j (ds X) tag st sm)(hgo:stepG p.P true a w=.go a' w #[])
  (hcs':CS p Anch Fin tag e0 j f' d0 M0 T a' w) (hf:f'<f0) :
  Cv p Anch Fin gs w sl t 0 (mu p j X q tag e0 f0 T) :=
 AA o ha hcom hgo (.refl p.Wg w) hwg (Jo dC) dC hcs' hmode (.inr ⟨rfl,hf⟩)
noncomputable def LY(M:Nat->Prop)(ow:Nat->Nat)(g:Nat):Nat->Nat:=λb=>by classical exact if M b then g else ow b
theorem Ry{M:Nat->Prop}{ow:Nat->Nat}{g b:Nat}(h:M b):LY M ow g b=g:=by simp[LY,h]
theorem Vp{M:Nat->Prop}{ow:Nat->Nat}{g b:Nat}(h:¬M b):LY M ow g b=ow b:=by simp[LY,h]
theorem CN.spawn(h:CN p j gs w t X ow q 0 M)(o:p.Ok){x y:MemOp}{C:Nat}{v:Value}{T':Tr}(hx:x.g=0/\x.act=.go (p.m0+j))(hy:y.g=p.m0+j/\y.act=.start)
  (hC:M C) (hc:DY p false (Is p j C v) T' M child w) :
  CN p (j+1) ((gs.setIfInBounds 0 a').push child) w (t ++ #[x,y]) (upd X j ⟨⟨7,0,0⟩,1,C,v,M,T'⟩) (LY M ow (p.m0+j)) q 0 Mt:=by
 have hm:∀op∈#[x,y],op=x\/op=y:=by intro op hop;simpa using hop
 have a4:=o.m0
 have a1:∀op∈#[x,y],op.act≠.mark .disable/\op.act≠.mark .enable:=by
  simp_all
 have hb:=h.m0
 have a0:∀k,1<=k->k<p.m0+j->((gs.setIfInBounds 0 a').push child)[k]?=gs[k]?:=λk k1 k2=>by
  rw[Array.getElem?_push_lt (by simp[h.size];omega),← Array.getElem?_eq_getElem,Array.getElem?_setIfInBounds_ne oM]
 refine⟨by simp[h.size];omega,λk k1 k2=>?_,λk hk=>?_,λk hk=>?_,λk hk c hc'=>?_,λc hc'=>hc'.elim,h.low,?_,h.norel.app λop hop=>?_,by rw[Deaf_still t 0 _ a1,h.deaf0],λk hk=>?_,λk hk=>by rw[Deaf_still t _ _ a1];exact h.above k oM,λk hk hs=>?_,?_⟩
 .obtain⟨g,hg,hq⟩:=h.old k k1 k2;exact⟨g,(a0 k k1 oM).trans hg,by rw[Deaf_still t _ _ a1];exact hq⟩
 .rcases Nat.lt_or_ge k j with hlt|hge
  .obtain⟨g,hg,a2⟩:=h.wk k hlt;exact⟨g,(a0 _ oM oM).trans hg,by rw[upd_ne X _ oM];exact a2⟩
  .obtain rfl:k=j:=oM
   refine⟨child,?_,by rw[upd_same];exact .pre1 hc⟩;rw[show p.m0+k=(gs.setIfInBounds 0 a').size by rw[Array.size_setIfInBounds,h.size],Array.getElem?_push_size]
 .rcases Nat.lt_or_ge k j with hlt|hge
  .rw[upd_ne X _ oM];exact h.mc k hlt
  .obtain rfl:k=j:=oM
   rw[upd_same];exact hC
 .rcases Nat.lt_or_ge k j with hlt|hge
  .rw[upd_ne X _ oM] at hc';obtain⟨h1,h2,h3⟩:=h.mo k hlt c hc';exact⟨by rw[Vp λhm=>by have:=(hb c hm).1;omega];exact h1,h2,h3⟩
  .obtain rfl:k=j:=oM
   rw[upd_same] at hc';exact⟨Ry hc',(hb c hc').2⟩
 .refine h.ti.fork oM oM hx hy h.deaf0 (h.above _ (A3 _)) λc=>?_;by_cases e:M c
  .exact .inr ⟨(hb c e).1,Ry e⟩
  .exact .inl (Vp e)
 .grind
 .rw[Deaf_still t _ _ a1];rcases Nat.lt_or_ge k j with hlt|hge
  .rw[h.deafW k hlt,upd_ne X _ oM]
  .obtain rfl:k=j:=oM
   rw[upd_same];exact h.above _ (A3 _)
 .rcases Nat.lt_or_ge k j with hlt|hge
  .rw[upd_ne X _ oM] at hs;obtain⟨r,hr,a3⟩:=h.rel k hlt hs;refine⟨r,hr.appNot λop hop=>?_,a3⟩;rcases hm op hop with rfl|rfl
   .rw[hx.1];omega
   .rw[hy.1];omega
  .obtain rfl:k=j:=oM
   rw[upd_same] at hs;simp at hs
 .obtain⟨L,hL,hS⟩:=h.ch;refine⟨L,hL,hS.nd,λk=>?_⟩;rw[hS.mem k];by_cases e:k=j
  .subst e;rw[upd_same];simp
  .rw[upd_ne X _ e];exact⟨λh=>⟨oM,h.2⟩,λh=>⟨oM,h.2⟩⟩
theorem CN.leavers(h:CN p p.n gs w t X ow q d0 M0)(hq:AllQuit p.n (ds X)):Leavers p.P t gs (λk=>if k<p.m0 then q k else (X (k-p.m0)).d.fuel):=by
 refine⟨λi g h0 hg=>?_,λk hk=>h.above k (by rw[← h.size];exact hk)⟩;have a2:i<p.m0+p.n:=by have:=(D1.1 hg).1;rw[h.size] at this;exact this
 rcases Nat.lt_or_ge i p.m0 with hi|hi
 .obtain⟨g',a0,a1⟩:=h.old i h0 hi;rw[hg] at a0;cases a0
  simp only[hi,if_true];exact a1
 .obtain⟨k,rfl⟩:∃k,i=p.m0+k:=⟨i-p.m0,oM⟩;obtain⟨g',a0,hs⟩:=h.wk k oM;rw[hg] at a0;cases a0
  have h1:(X k).d.stage=1:=hq k oM;rw[if_neg oM,show p.m0+k-p.m0=k by omega,h.deafW k oM];rw[h1] at hs;generalize (X k).e=ee at hs;cases hs with
  | post _ hs=>exact hs.quits rfl
theorem Zk(o:p.Ok)(ha:gs[0]?=some a)(hcom:CN p p.n gs w t X ow q 1 Mt)(hwg:WgAt p.ty p.Wg w st sm)(hmode:ConcN.Mode p.n (ds X) .w1 st sm)
  (h:Goes p.P true (R0 p Mt) DC0 (ET p Anch Fin) f0 a w) :
  Cv p Anch Fin gs w sl t 0 (mu p p.n X q .w1 0 f0 T):=by
 rcases Goes.cases h with hstop|⟨m',rfl,hstep⟩
 .obtain⟨_,a1⟩:=hstop w (.refl w);obtain⟨ho,rfl,rfl,_⟩:=hmode.open_inv trivial;have hV:=Vc_le p.n (ds X);have hn:=o.n;obtain⟨a',a0,h0,a2⟩:=a1 (Vc p.n (ds X)) oM (by simpa [pend] using hwg);by_cases hv:Vc p.n (ds X)=0
  .obtain⟨qd,hk⟩:=h0 hv;refine AA o ha hcom a0 (.refl p.Wg w) hwg (BB bk_rd) (norel_of_Bk bk_rd) (tag':=.ke) (.ke hk) ?_ (.inl (by simp only[phi];omega));have e:((Vc p.n (ds X)+pend .w1:Nat):Int)*KK=0:=by rw[hv];simp[pend]
   rw[e];exact .fin trivial (allQuit_of ho hv)
  .obtain⟨qd,hk⟩:=a2 hv;exact AA o ha hcom a0 (.refl p.Wg w) hwg (BB bk_rd) (norel_of_Bk bk_rd) (tag':=.w2 (Vc p.n (ds X))) (.w2 hk) (hmode.reopen trivial trivial rfl (λvs e=>by cases e;omega)) (.inl (by simp only[phi];omega))
 .obtain⟨a',w',es,a0,⟨rfl,rfl⟩,a3⟩:=hstep w (.refl w);exact Cw o ha hcom hwg hmode a0 (.w1 a3) oM
theorem Lf{k:Mark}(hk:∀a,k≠.release a):∀e∈#[mk k],e.loc≠.mark (.release (stA p.Wg)):=λe he hl=>by
 simp only[Array.mem_singleton] at he;subst he;simp only[mk,Loc.mark.injEq] at hl;exact hk _ hl
theorem WL(o:p.Ok)(hAn:∀g w,Anch g w->∃m,Goes p.P true (R0 p Mt) DC0 (ET p Anch Fin) m g w)(hf:Fr p.Shun B p.t0)
  (ha:gs[0]?=some a) (hcs:CS p Anch Fin tag e0 j f0 d0 M0 T a w) (hcom:CN p j gs w t X ow q d0 M0) (hwg:WgAt p.ty p.Wg w st sm) (hmode:ConcN.Mode j (ds X) tag st sm) (hrun:a.status=.running) :
  (∃qe ops,runT p.P (crowd gs w sl) 0=(.next qe,ops)/\Done p Fin qe (t++ops))\/
  Cv p Anch Fin gs w sl t 0 (mu p j X q tag e0 f0 T):=by
 have d7:=Vc_le j (ds X);have hn:=o.n;have d8:=o.m0;cases hcs with
 | al hr h =>
  rename_i r;have b9:¬M0 p.Wg:=λh=>by have:=(hcom.m0 _ h).2.1;have:=o.wg;omega
  have c1:¬M0 p.Ch:=λh=>by have:=(hcom.m0 _ h).2.1;have:=o.ch;omega
  cases T with
  | leaf =>
   obtain⟨_,a',a0,qd,hk⟩:=h w (.refl w);exact .inr (AA o ha hcom a0 (.refl p.Wg w) hwg (It (.inl rfl)) (Lf dC) (.a1 hr hk) (hmode.reopen trivial trivial rfl dC) (.inl (by simp only[phi];omega)))
  | node f =>
   obtain⟨_,a4⟩:=h;obtain⟨a',w',es,a0,b2,b3,hk⟩:=a4 w (.refl w);have d1:=b2.size
   have c2:∀b,BQ M0 w w' b->own w ow 0 b=0/\p.Low<=b/\b<w'.heap.size:=λb hb=>by
    rcases hb with hb|hb
    .have:=hcom.m0 b hb;exact⟨by rw[Fz oM];exact this.1,this.2.1,oM⟩
    .exact⟨Vo hb.1,by have:=hcom.low;omega,hb.2⟩
   have d2:deafBehind 0 es=0:=deafBehind_idle (λe he=>⟨(b3 e he).2.1,(b3 e he).2.2.1⟩) 0
   refine .inr (MP (ow':=own w ow 0) (tag':=.sp r 7) (T':=f w) (M':=BQ M0 w w') o.m0 ha hcom a0 (AJ.gr b2 o hcom.low b9 c1) (λb hb=>.inr (.inr hb)) ⟨o.wg,o.ch⟩ (λb hb=>Fz hb) c2 ?_ (λe he=>(b3 e he).2.2.2) (by rw[d2];exact .al hr hk)
    (b2.block _ (by have:=hcom.low;have:=o.ch;omega) c1) (hwg.of_block (b2.block _ (by have:=hcom.low;have:=o.wg;omega) b9)) hmode (.inr ⟨rfl,.inl (.mk f w)⟩))
   exact (hcom.ti.grow d1 λb hb=>Fz hb).app o Oc λop hop x hx=>⟨.inl rfl,Ob c2 b3 op hop x hx⟩
 | a1 hr h =>
  rename_i r;rcases Goes.cases h with hstop|⟨m',rfl,hstep⟩
  .obtain⟨_,a4⟩:=hstop w (.refl w);obtain⟨ho,rfl,rfl,_⟩:=hmode.open_inv trivial;obtain⟨a',a0,qd,hk⟩:=a4 (Vc (p.n-(r+1)) (ds X)) oM (by simpa [pend] using hwg);have e:(((Vc (p.n-(r+1)) (ds X):Nat):Int)+1)*KK=((Vc (p.n-(r+1)) (ds X)+1:Nat):Int)*KK:=dC
   rcases hk with hk|hk
   .refine .inr (AA o ha hcom a0 (aside_setCell w (stA p.Wg) _) (hwg.setSt _) (BB bk_rw) (norel_of_Bk bk_rw) (.sr hr hk) ?_ (.inl (by simp only[phi];omega)));rw[e];exact .opn trivial ho dC
   .refine .inr (AA o ha hcom a0 (aside_setCell w (stA p.Wg) _) (hwg.setSt _) (BB bk_rw) (norel_of_Bk bk_rw) (.ke2 hr hk) ?_ (.inl (by simp only[phi];omega)));rw[e];exact .opn trivial ho dC
  .obtain⟨a',w',es,a0,⟨rfl,rfl⟩,a2⟩:=hstep w (.refl w);exact .inr (Cw o ha hcom hwg hmode a0 (.a1 hr a2) oM)
 | sr hr h =>
  rcases Goes.cases h with hstop|⟨m',rfl,hstep⟩
  .obtain⟨_,a',a0,qd,hk⟩:=hstop w (.refl w);exact .inr (AA o ha hcom a0 (.refl p.Wg w) hwg (It (.inr (.inr (.inr ⟨_,rfl,.inl rfl⟩)))) (Lf dC) (.ke2 hr hk) (hmode.reopen trivial trivial rfl dC) (.inl (by simp only[phi];omega)))
  .obtain⟨a',w',es,a0,⟨rfl,rfl⟩,a2⟩:=hstep w (.refl w);exact .inr (Cw o ha hcom hwg hmode a0 (.sr hr a2) oM)
 | ke2 hr h =>
  rcases Goes.cases h with hstop|⟨m',rfl,hstep⟩
  .obtain⟨_,a',a0,qd,hk⟩:=hstop w (.refl w);exact .inr (AA o ha hcom a0 (.refl p.Wg w) hwg (It (.inr (.inl rfl))) (Lf dC) (.go hr hk) (hmode.reopen trivial trivial rfl dC) (.inl (by simp only[phi];omega)))
  .obtain⟨a',w',es,a0,⟨rfl,rfl⟩,a2⟩:=hstep w (.refl w);exact .inr (Cw o ha hcom hwg hmode a0 (.ke2 hr a2) oM)
 | go hr h =>
  rename_i r;rcases Goes.cases h with hstop|⟨m',rfl,hstep⟩
  .obtain⟨_,a',a3,c4,⟨C,v,qp,hC,c5⟩,a7⟩:=hstop w (.refl w);obtain⟨ho,rfl,rfl,_⟩:=hmode.open_inv trivial;have a5:=runT_crowd_spawn (P:=p.P) (sl:=sl) (i:=0) ha (by simpa using c4);rw[hcom.size] at a5;have a6:=hcom.spawn o (a':=a') (x:={g:=0,fn:=a.frame.fn,pos:=a.frame.place,act:=.go (p.m0+(p.n-(r+1)))}) (y:={g:=p.m0+(p.n-(r+1)),fn:=a3.frame.fn,pos:=a.frame.place,act:=.start}) ⟨rfl,rfl⟩ ⟨rfl,rfl⟩ hC c5
   have b6:((MemOp.ofEvents 0 a.frame.fn a.frame.place #[]).push {g:=0,fn:=a.frame.fn,pos:=a.frame.place,act:=.go (p.m0+(p.n-(r+1)))}).push {g:=p.m0+(p.n-(r+1)),fn:=a3.frame.fn,pos:=a.frame.place,act:=.start}=#[({g:=0,fn:=a.frame.fn,pos:=a.frame.place,act:=.go (p.m0+(p.n-(r+1)))}:MemOp),{g:=p.m0+(p.n-(r+1)),fn:=a3.frame.fn,pos:=a.frame.place,act:=.start}]:=by
    rw[ofEvents_eq];simp
   rw[b6] at a5;generalize hX:upd X (p.n-(r+1)) ⟨⟨7,0,0⟩,1,C,v,M0,qp⟩=X' at a6;have b7:ds X'=upd (ds X) (p.n-(r+1)) ⟨7,0,0⟩:=by rw[← hX,Rx]
   have ej:p.n-(r+1)+1=p.n-r:=oM
   have eV:Vc (p.n-r) (ds X')=Vc (p.n-(r+1)) (ds X)+1:=by
    rw[← ej,b7];simp only[Vc,sumTo,upd_same];rw[sumTo_upd_out (ds X) _ cnt (A3 _)];rfl
   have eS:Ssum (p.n-r) (ds X')=Ssum (p.n-(r+1)) (ds X)+7:=by
    rw[← ej,b7];simp only[Ssum,sumTo,upd_same];rw[sumTo_upd_out (ds X) _ WD.stage (A3 _)]
   have eE:sumTo (p.n-r) (λi=>(X' i).e)=sumTo (p.n-(r+1)) (λi=>(X i).e)+1:=by
    rw[← ej,← hX];simp only[sumTo,upd_same];rw[sumTo_upd_out X _ WX.e (A3 _)]
   have d3:OpenSt (p.n-r) (ds X'):=λi hi=>by
    rw[b7];by_cases e:i=p.n-(r+1)
    .subst e;rw[upd_same];simp
    .rw[upd_ne (ds X) _ e];exact ho i oM
   have d4:((gs.setIfInBounds 0 a').push a3)[0]?=some a':=by
    grind
   rw[ej] at a6;have d5:∀tag',pend tag'=0->((Vc (p.n-(r+1)) (ds X)+pend (.sp r 1):Nat):Int)*KK=((Vc (p.n-r) (ds X')+pend tag':Nat):Int)*KK:=λtag' hp=>by rw[eV,hp];simp[pend]
   have fin:∀(tag':CTag)(qj:Nat)(ql:Tr),CS p Anch Fin tag' 0 (p.n-r) qj 0 Mt ql a' w->isOpen tag'->pend tag'=0->(∀vs,tag'≠.w2 vs)->phi p.n (Vc (p.n-r) (ds X')) tag'+9<phi p.n (Vc (p.n-(r+1)) (ds X)) (.sp r 1)->
     Cv p Anch Fin gs w sl t 0 (mu p (p.n-(r+1)) X q (.sp r 1) 0 f0 T):=λtag' qj ql hc h1 h2 h3 h4=>by
    refine⟨_,_,mu p (p.n-r) X' q tag' 0 qj ql,a5,.inl (by unfold mu;simp only;omega),
     _,w,sl,p.n-r,X',_,q,tag',0,qj,0,Mt,ql,a',_,_,rfl,d4,hc,a6,hwg,?_,rfl⟩
    rw[d5 tag' h2];exact .opn h1 d3 (λvs e=>absurd e (h3 vs))
   cases r with
   | zero =>
    obtain⟨qj,hk⟩:=a7;exact .inr (fin .kd qj .leaf (.kd hk) trivial rfl dC (by simp only[phi];omega))
   | succ r' =>
    obtain⟨ql,hk⟩:=a7;exact .inr (fin (.sp r' 7) 0 ql (.al oM hk) trivial rfl dC (by simp only[phi];omega))
  .obtain⟨a',w',es,a0,⟨rfl,rfl⟩,a2⟩:=hstep w (.refl w);exact .inr (Cw o ha hcom hwg hmode a0 (.go hr a2) oM)
 | kd h =>
  rcases Goes.cases h with hstop|⟨m',rfl,hstep⟩
  .obtain⟨_,a',a0,qd,hk⟩:=hstop w (.refl w);exact .inr (AA o ha hcom a0 (.refl p.Wg w) hwg (It (.inl rfl)) (Lf dC) (.anch hk) (hmode.reopen trivial trivial rfl dC) (.inl (by simp only[phi];omega)))
  .obtain⟨a',w',es,a0,⟨rfl,rfl⟩,a2⟩:=hstep w (.refl w);exact .inr (Cw o ha hcom hwg hmode a0 (.kd a2) oM)
 | anch h =>
  rcases Goes.cases h with hstop|⟨m',rfl,hstep⟩
  .obtain⟨qd,hk⟩:=hAn a w (hstop w (.refl w));obtain⟨qe,ops,μ',h1,h2,h3⟩:=Zk (sl:=sl) (T:=T) o ha hcom hwg (hmode.reopen trivial trivial rfl dC) hk;refine .inr ⟨qe,ops,μ',h1,?_,h3⟩;rcases h2 with h2|⟨h2,_⟩<;>(left;unfold mu at h2 ⊢;simp only[phi] at h2 ⊢;omega)
  .obtain⟨a',w',es,a0,⟨rfl,rfl⟩,a2⟩:=hstep w (.refl w);exact .inr (Cw o ha hcom hwg hmode a0 (.anch a2) oM)
 | w1 h=>exact .inr (Zk o ha hcom hwg hmode h)
 | w2 h =>
  rename_i vs;rcases Goes.cases h with hstop|⟨m',rfl,hstep⟩
  .obtain⟨_,a4⟩:=hstop w (.refl w);obtain⟨ho,rfl,rfl,c6⟩:=hmode.open_inv trivial;obtain⟨d6,h1⟩:=c6 vs rfl;obtain⟨b4,a8⟩:=a4 (Vc p.n (ds X)) oM (by simpa [pend] using hwg);by_cases e:Vc p.n (ds X)=vs
   .obtain⟨a',a0,qd,hk⟩:=b4 e;exact .inr (AA o ha hcom a0 (aside_setCell w (stA p.Wg) _) (hwg.setSt _) (BB bk_rw) (norel_of_Bk bk_rw) (.sw hk) (.reg trivial ho oM) (.inl (by simp only[phi];omega)))
   .obtain⟨a',a0,qd,hk⟩:=a8 e;exact .inr (AA o ha hcom a0 (.refl p.Wg w) hwg (BB bk_rd) (norel_of_Bk bk_rd) (.anch hk) (hmode.reopen trivial trivial rfl dC) (.inl (by simp only[phi];omega)))
  .obtain⟨a',w',es,a0,⟨rfl,rfl⟩,a2⟩:=hstep w (.refl w);exact .inr (Cw o ha hcom hwg hmode a0 (.w2 a2) oM)
 | sw h =>
  rcases Goes.cases h with hstop|⟨m',rfl,hstep⟩
  .obtain⟨_,a',a0,qd,hk⟩:=hstop w (.refl w);exact .inr (AA o ha hcom a0 (.refl p.Wg w) hwg (It (.inr (.inr (.inr ⟨_,rfl,.inr rfl⟩)))) (Lf dC) (.w3 hk) hmode (.inl (by simp only[phi];omega)))
  .obtain⟨a',w',es,a0,⟨rfl,rfl⟩,a2⟩:=hstep w (.refl w);exact .inr (Cw o ha hcom hwg hmode a0 (.sw a2) oM)
 | w3 h =>
  rcases Goes.cases h with hstop|⟨m',rfl,hstep⟩
  .obtain⟨_,c7,a9,b0⟩:=hstop w (.refl w);cases hmode with
   | opn h1 _ _=>exact h1.elim
   | reg h1 h2 h3=>exact .inr (AA o ha hcom (a9 ⟨_,hwg⟩) (.refl p.Wg w) hwg (Jo dC) dC (.blk hstop) (.reg trivial h2 h3) (.inr ⟨rfl,oM⟩))
   | last L h1 h2 h3 h4=>exact .inr (AA o ha hcom (a9 ⟨_,hwg⟩) (.refl p.Wg w) hwg (Jo dC) dC (.blk hstop) (.last L trivial h2 h3 h4) (.inr ⟨rfl,oM⟩))
   | sema h2 =>
    obtain⟨a',a0,qd,hk⟩:=b0 hwg;exact .inr (AA o ha hcom a0 (aside_setCell w (smA p.Wg) _) (hwg.setSm 0) (BB bk_sem) (norel_of_Bk bk_sem) (.w4 hk) (.fin trivial h2) (.inl (by simp only[phi];omega)))
   | fin h1 _=>exact h1.elim
  .obtain⟨a',w',es,a0,⟨rfl,rfl⟩,a2⟩:=hstep w (.refl w);exact .inr (Cw o ha hcom hwg hmode a0 (.w3 a2) oM)
 | blk h=>simp at hrun
 | w4 h =>
  rcases Goes.cases h with hstop|⟨m',rfl,hstep⟩
  .obtain⟨_,hx⟩:=hstop w (.refl w);obtain⟨hq,rfl,rfl⟩:=hmode.fin_inv trivial;obtain⟨a',a0,qd,hk⟩:=hx hwg;exact .inr (AA o ha hcom a0 (.refl p.Wg w) hwg (BB bk_rd) (norel_of_Bk bk_rd) (.ke hk) (.fin trivial hq) (.inl (by simp only[phi];omega)))
  .obtain⟨a',w',es,a0,⟨rfl,rfl⟩,a2⟩:=hstep w (.refl w);exact .inr (Cw o ha hcom hwg hmode a0 (.w4 a2) oM)
 | ke h =>
  rcases Goes.cases h with hstop|⟨m',rfl,hstep⟩
  .obtain⟨_,a',a0,qd,hk⟩:=hstop w (.refl w);obtain⟨hq,rfl,rfl⟩:=hmode.fin_inv trivial;exact .inr (AA o ha hcom a0 (.refl p.Wg w) hwg (It (.inr (.inl rfl))) (Lf dC) (.acq hk) (.fin trivial hq) (.inl (by simp only[phi];omega)))
  .obtain⟨a',w',es,a0,⟨rfl,rfl⟩,a2⟩:=hstep w (.refl w);exact .inr (Cw o ha hcom hwg hmode a0 (.ke a2) oM)
 | acq h =>
  rcases Goes.cases h with hstop|⟨m',rfl,hstep⟩
  .obtain⟨_,a',a0,b5⟩:=hstop w (.refl w);obtain⟨hq,rfl,rfl⟩:=hmode.fin_inv trivial;have b1:=runT_crowd_go (P:=p.P) (sl:=sl) (i:=0) ha (by simpa using a0);have e1:MemOp.ofEvents 0 a.frame.fn a.frame.place #[mk (.acquire (stA p.Wg))]=#[{g:=0,fn:=a.frame.fn,pos:=a.frame.place,act:=.mark (.acquire (stA p.Wg))}]:=by rw[ofEvents_eq];simp[ofEvent_mk]
   have hL:=hcom.leavers hq
   obtain⟨B',_,c8⟩:=hcom.ti.close o hf hcom.norel hcom.deaf0 (λg h1 h2=>by
    obtain⟨k,rfl⟩:∃k,g=p.m0+k:=⟨g-p.m0,oM⟩;exact hcom.rel k oM (by have:(X k).d.stage=1:=hq k oM;omega)) (y:={g:=0,fn:=a.frame.fn,pos:=a.frame.place,act:=.mark (.acquire (stA p.Wg))}) rfl rfl
   obtain⟨L0,c9,b8⟩:=hcom.ch;refine .inl ⟨_,_,b1,_,a',w,sl,(λk=>if k<p.m0 then q k else (X (k-p.m0)).d.fuel),B',L0,rfl,by simp[hcom.size],Le _ _ (by rw[hcom.size];omega),b5,c9,b8.nd,λi=>?_,⟨λk x hk hx=>?_,λk hk=>?_⟩,by rw[e1];exact c8⟩
   .rw[b8.mem i];refine⟨λh=>h.1,λh=>⟨h,?_⟩⟩;obtain⟨g,_,hs⟩:=hcom.wk i h;have h1:(X i).d.stage=1:=hq i h;rw[h1] at hs;generalize (X i).e=ee at hs ⊢
    cases hs with
    | post _ _=>rfl
   .rw[EG _ _ oM] at hx;obtain⟨y,hy,rfl⟩:=B6.1 hx;have c3:=hL.old k y hk hy;rw[woken_quitsD c3,Deaf_other t oM _ g_of_ofEvents];exact c3
   .rw[Deaf_other t (by simp[hcom.size] at hk;omega) _ g_of_ofEvents];exact hL.above k (by simpa using hk)
  .obtain⟨a',w',es,a0,⟨rfl,rfl⟩,a2⟩:=hstep w (.refl w);exact .inr (Cw o ha hcom hwg hmode a0 (.acq a2) oM)
end
end Bd
namespace Bd
open Go.Conc Go.ConcN
open Go.ConcR (KK wgBlock WgAt stA smA rd wr mk Payload DC0)
section
variable {p:F5} {Anch Fin:Goroutine->World->Prop} {gs:Array Goroutine} {w:World} {j:Nat} {X:Nat->WX} {ow q:Nat->Nat} {tag:CTag} {e0 f0 d0 B:Nat} {M0:Nat->Prop} {T:Tr} {a:Goroutine} {t:Trace} {st sm:Int}
theorem Sc(hAr:∀g w,Anch g w->g.status=.running)(ha:gs[0]?=some a)(hcs:CS p Anch Fin tag e0 j f0 d0 M0 T a w)(hcom:CN p j gs w t X ow q d0 M0)(hmode:ConcN.Mode j (ds X) tag st sm):
  ∃(i:Nat)(g:Goroutine),gs[i]?=some g/\g.status=.running:=by
 rcases hcs.status hAr with⟨hs,_⟩|⟨_,rfl⟩
 .grind
 .cases hmode with
  | opn h1 _ _=>exact h1.elim
  | reg _ _ h3 =>
   obtain⟨i,hi,h5⟩:=exists_counted h3;obtain⟨g,hg,hs⟩:=hcom.wk i hi;exact⟨p.m0+i,g,hg,hs.running_of (by simp[ds] at h5;omega)⟩
  | last L _ h2 h3 _ =>
   obtain⟨g,hg,hs⟩:=hcom.wk L h2;exact⟨p.m0+L,g,hg,hs.running_of (by simp[ds] at h3;omega)⟩
  | fin h1 _=>exact h1.elim
theorem Zx(hAr:∀g w,Anch g w->g.status=.running)(ha:gs[0]?=some a)(hcs:CS p Anch Fin tag e0 j f0 d0 M0 T a w)(hcom:CN p j gs w t X ow q d0 M0):∀g∈gs,awake g:=by
 intro g hg tm;obtain⟨i,hi⟩:=Array.mem_iff_getElem?.1 hg;rcases C3 i with rfl|hpos
 .rw[ha] at hi;cases hi
  rcases hcs.status hAr with⟨hs,_⟩|⟨hs,_⟩<;>rw[hs]<;>simp
 .have a1:=(D1.1 hi).1;rw[hcom.size] at a1;rcases Nat.lt_or_ge i p.m0 with h|h
  .obtain⟨g',a0,hq⟩:=hcom.old i hpos h;rw[hi] at a0;cases a0
   rcases hq.status with h|h<;>rw[h]<;>simp
  .obtain⟨k,rfl⟩:∃k,i=p.m0+k:=⟨i-p.m0,oM⟩;obtain⟨g',a0,hs⟩:=hcom.wk k oM;rw[hi] at a0;cases a0
   rcases hs.status with h|h<;>rw[h]<;>simp
end
section
variable {p:F5} {Anch Fin:Goroutine->World->Prop} {B:Nat}
theorem Xb(o:p.Ok)(hAr:∀g w,Anch g w->g.status=.running)(hAn:∀g w,Anch g w->∃m,Goes p.P true (R0 p Mt) DC0 (ET p Anch Fin) m g w)(hf:Fr p.Shun B p.t0):
  ∀μ m t,Zj p Anch Fin μ m t->(∃qe ops,stepT p.P m=(.next qe,ops)/\Done p Fin qe (t++ops))\/∃qe ops μ',stepT p.P m=(.next qe,ops)/\Vn (p.n+1) μ' μ/\Zj p Anch Fin μ' qe (t++ops):=by
 rintro μ m t ⟨gs,w,sl,j,X,ow,q,b2,e0,f0,d0,M0,T,a,st,sm,rfl,ha,a7,a2,b0,a0,rfl⟩;obtain⟨i,g,d,a8,hg,a3,a6⟩:=crowd_pick (Zx hAr ha a7 a2) (Sc hAr ha a7 a2 a0);rw[a6];have a4:=a7.rely (.at w d);have a1:=a2.at d;have a5:=b0;rcases C3 i with rfl|hpos
 .rw[ha] at hg;cases hg
  exact WL o hAn hf ha a4 a1 a5 a0 a3
 .rcases Nat.lt_or_ge i p.m0 with h|h
  .exact .inr (AdH o hAr ha a4 a1 a5 a0 hpos h hg a3)
  .have a9:=(D1.1 hg).1;rw[a2.size] at a9;obtain⟨k,rfl⟩:∃k,i=p.m0+k:=⟨i-p.m0,oM⟩;exact .inr (WK o hAr ha a4 a1 a5 a0 oM hg a3)
theorem Xc(o:p.Ok)(hAr:∀g w,Anch g w->g.status=.running)(hAn:∀g w,Anch g w->∃m,Goes p.P true (R0 p Mt) DC0 (ET p Anch Fin) m g w)(hf:Fr p.Shun B p.t0)(μ:Nat×(Nat->Tr)×Nat):
  ∀m t,Zj p Anch Fin μ m t->∃N m' t',runNT p.P N m t=(.next m',t')/\Done p Fin m' t':=by
 induction μ using (Afr (p.n+1)).induction with
 | _ μ ih =>
  intro m t h;rcases Xb o hAr hAn hf μ m t h with⟨qe,ops,hs,hd⟩|⟨qe,ops,μ',hs,hlt,hi⟩
  .exact⟨1,qe,t++ops,by simp[runNT,hs],hd⟩
  .obtain⟨N,m',t',hr,hd⟩:=ih μ' hlt qe _ hi;exact⟨N+1,m',t',by simp[runNT,hs];exact hr,hd⟩
theorem AgS(o:p.Ok)(hAr:∀g w,Anch g w->g.status=.running)(hAn:∀g w,Anch g w->∃m,Goes p.P true (R0 p Mt) DC0 (ET p Anch Fin) m g w)(hf:Fr p.Shun B p.t0)
  {gs:Array Goroutine} {a:Goroutine} {w:World} {sl:Option (Nat×Nat)} {q:Nat->Nat} (hsz:gs.size=p.m0) (ha:gs[0]?=some a) (hL:Leavers p.P p.t0 gs q)
  (hlow:p.Low<=w.heap.size) (hwg:WgAt p.ty p.Wg w 0 0) (hch:BP p w []) (h:Sp p Anch p.n a w) :
  ∃N m' t',runNT p.P N (crowd gs w sl) p.t0=(.next m',t')/\Done p Fin m' t':=by
 let X:Nat->WX:=λ_=>⟨⟨0,0,0⟩,0,0,undef,λ_=>False,.leaf⟩
 have a1:CN p 0 gs w p.t0 X (λ_=>0) q 0 Mt :=
  ⟨by simp[hsz],λi h1 h2=>by
   have a3:i<gs.size:=oM
   exact⟨gs[i],Array.getElem?_eq_getElem a3,hL.old i _ h1 (Array.getElem?_eq_getElem a3)⟩,λi hi=>oM,λi hi=>oM,λi hi=>oM,λb hb=>hb.elim,hlow,TI.start hf oM,(λi hi=>by simp[Trace.act?,Array.getElem?_eq_none hi]),hf.past.hears,λi hi=>oM,λk hk=>hL.above k oM,λi hi=>oM,⟨[],hch,dC,dC⟩⟩
 have a0:∀tag,isOpen tag->pend tag=0->(∀vs,tag≠.w2 vs)->ConcN.Mode 0 (ds X) tag 0 0:=λtag h1 h2 h3=>by
  have:=ConcN.Mode.opn (j:=0) (D:=ds X) h1 (λi hi=>oM) (λvs e=>absurd e (h3 vs));simpa [Vc,sumTo,h2] using this
 have a2:∃μ,Zj p Anch Fin μ (crowd gs w sl) p.t0:=by
  cases hn:p.n with
  | zero =>
   rw[hn] at h;obtain⟨m,hk⟩:=h;have hc:CS p Anch Fin .kd 0 p.n m 0 Mt .leaf a w:=.kd hk;rw[hn] at hc;exact⟨_,gs,w,sl,0,X,_,q,.kd,0,m,0,Mt,.leaf,a,0,0,rfl,ha,hc,a1,hwg,a0 .kd trivial rfl dC,rfl⟩
  | succ r =>
   rw[hn] at h;obtain⟨T,hk⟩:=h;have hc:=CS.al (Fin:=Fin) (show r<p.n by omega) hk;rw[show p.n-(r+1)=0 by omega] at hc;exact⟨_,gs,w,sl,0,X,_,q,.sp r 7,0,0,0,Mt,T,a,0,0,rfl,ha,hc,a1,hwg,a0 (.sp r 7) trivial rfl dC,rfl⟩
 obtain⟨μ,hI⟩:=a2;exact Xc o hAr hAn hf μ _ _ hI
end
end Bd
namespace Bd
open Go.Conc Go.ConcN Go.RowKit Go.Conc.Lib Go.ConcR.Gen Go.ConcN.Gen
open Go.ConcR (KK wgBlock WgAt stA smA rd wr mk Payload DC0)
theorem VB{main:Bool}{D:World->World->Array Event->Prop}{Stop:Goroutine->World->Prop}{m:Nat}{g:Goroutine}{w:World}(h:Goes P main R D Stop n g w)(hm:n<=m):Goes P main R D Stop m g w:=by
 induction hm with
 | refl=>exact h
 | step _ ih=>exact ih.more
theorem EJ{main:Bool}{D D':World->World->Array Event->Prop}{Stop Stop':Goroutine->World->Prop}(hR:∀w w',R' w w'->R w w')(hD:∀w w' es,D w w' es->D' w w' es)(hS:∀g w,Stop g w->Stop' g w):∀{g:Goroutine} {w:World},Goes P main R D Stop n g w->Goes P main R' D' Stop' n g w:=by
 induction n with
 | zero=>exact λh w₁ qb=>hS _ _ (h w₁ (hR _ _ qb))
 | succ n ih =>
  rintro g w (h|⟨hs,h⟩)
  .exact .inl λw₁ qb=>hS _ _ (h w₁ (hR _ _ qb))
  .refine .inr ⟨hs,λw₁ qb=>?_⟩;have:=h w₁ (hR _ _ qb);revert this
   cases stepG P main g w₁<;>simp only[GStep.goes,imp_self]
   exact λ⟨d,x⟩=>⟨hD _ _ _ d,ih x⟩
theorem D5{p:F5}{M:Nat->Prop}{F:World->Prop}(hF2:∀w w',R0 p M w w'->F w->F w'){w w₁:World}(h:F w/\WgLive p.ty p.Wg w)(r:R0 p M w w₁):F w₁/\WgLive p.ty p.Wg w₁:=⟨hF2 _ _ r h.1,r.rk.live h.2⟩
section
variable {L:WgLink} {p:F5} {M:Nat->Prop} {Next:Goroutine->World->Prop} {F:World->Prop} {b₀:Frame} {a₀:Act} {ops₀:Array Oper} {i₀:Nat} {rest₀:List Nat} {k₀:List Item} {cs:List Frame} {mT:Nat}
theorem AhZ(H:WgLib p.P L)(hF2:∀w w',R0 p M w w'->F w->F w')(hset:∀w v,F w->F (w.setCell (stA p.Wg) v))
  (hT:∀w,F w->WgLive p.ty p.Wg w->Goes p.P true (R0 p M) DC0 Next mT (G (b₀.at (a₀.put ((ops₀[i₀]?).bind (·.dst)) (.tuple #[])) (.inRegion ops₀ rest₀::k₀)) cs) w)
  (w:World) (hF:F w/\WgLive p.ty p.Wg w) :
  Goes p.P true (R0 p M) DC0 (AK p M .disable (WI p M Next)) 12 (G ((base L.add).at ⟨#[Pz p.Wg 0,Iz 1,undef,undef,undef,undef,undef,undef,undef,undef,undef,undef,undef,undef,undef,undef,undef,undef,undef,undef,undef,undef,undef,undef,undef,undef,undef,undef,undef,undef,undef,undef,undef,undef,undef,undef,undef,undef,undef,undef,undef,undef,undef,undef,undef,undef,undef,undef,undef,undef,undef,undef,undef,undef,undef,undef,undef,undef,undef,undef,undef,undef,undef,undef,undef,undef,undef,undef,undef,undef,undef,undef,undef,undef,undef,undef,undef,undef,undef,undef,undef,undef,undef,undef,undef,undef,undef,undef,undef,undef,undef,undef,undef,undef,undef,undef,undef,undef,undef,undef,undef,undef,undef,undef,undef,undef,undef,undef,undef,undef,undef,undef,undef,undef,undef,undef,undef],[]⟩ [.code (body_add L)]) (b₀.at a₀ (.inRegion ops₀ (i₀::rest₀)::k₀)::cs)) w:=by
 lib_facts
 simp only[body_add,addFn,Option.getD_some];u_c stepG_seq (D5 hF2) hF
 u_cond true (D5 hF2) hF
 iterate 2 u_c stepG_seq (D5 hF2) hF
 u_reg (D5 hF2) hF
 iterate 2 u_op (D5 hF2) hF
 u_c stepG_region_end (D5 hF2) hF
 u_cond false (D5 hF2) hF
 u_c stepG_skip (D5 hF2) hF
 u_c stepG_seq (D5 hF2) hF
 u_reg (D5 hF2) hF
 refine Goes.stop (λw₁ qb=>?_);replace hF:=D5 hF2 hF qb;clear qb;refine⟨rfl,_,stepG_mark0 .disable dC rfl rfl (by k_ne) rfl H.f_disable (x_disable_n L) (x_disable_b L) (x_disable_x L) (x_disable_f L),60,?_⟩;walk_nrm
 u_c stepG_region_end (D5 hF2) hF
 u_reg (D5 hF2) hF
 u_defer (D5 hF2) hF
 u_c stepG_region_end (D5 hF2) hF
 u_c stepG_seq (D5 hF2) hF
 u_reg (D5 hF2) hF
 u_op (D5 hF2) hF
 u_c stepG_region_end (D5 hF2) hF
 iterate 2 u_c stepG_seq (D5 hF2) hF
 u_reg (D5 hF2) hF
 u_bub (D5 hF2) hF
 u_c stepG_region_end (D5 hF2) hF
 u_cond false (D5 hF2) hF
 u_c stepG_skip (D5 hF2) hF
 u_c stepG_seq (D5 hF2) hF
 u_reg (D5 hF2) hF
 iterate 6 u_op (D5 hF2) hF
 u_call H.f_uAdd (nm_uAdd L) uAddFn (D5 hF2) hF
 u_c stepG_seq (D5 hF2) hF
 u_reg (D5 hF2) hF
 u_op (D5 hF2) hF
 u_c stepG_region_end (D5 hF2) hF
 u_c stepG_seq (D5 hF2) hF
 u_reg (D5 hF2) hF
 iterate 4 u_op (D5 hF2) hF
 refine Goes.stop (λqc qb=>?_);replace hF:=D5 hF2 hF qb;clear qb;refine⟨rfl,λv hv hw=>?_⟩;rcases C3 v with rfl|hvp
 .replace hw:WgAt p.ty p.Wg qc 0 0:=by simpa using hw
  have z:(((0:Nat):Int)+1)*KK=KK:=dC
  rw[z];have e0:IntKind.u64.wrap (0+4294967296)=KK:=aS
  refine⟨_,(stepG_add_atomic rfl rfl (by k_ne) rfl H.f_addU64 (x_addU64_n L) (x_addU64_b L) (x_addU64_x L) .u64 (x_addU64_f L) rfl rfl hw.cellSt (hw.thaw 0)).trans (by rw[e0];rfl),80,.inl ?_⟩;replace hF:F (qc.setCell (stA p.Wg) (.int .u64 KK))/\WgLive p.ty p.Wg (qc.setCell (stA p.Wg) (.int .u64 KK)):=⟨hset _ _ hF.1,⟨_,_,hw.setSt _⟩⟩;clear hw;simp only[KK] at hF ⊢
  walk_nrm
  u_op (D5 hF2) hF
  u_c stepG_region_end (D5 hF2) hF
  u_c stepG_ret' (D5 hF2) hF
  u_leave1 H.f_uAdd (D5 hF2) hF
  u_op (D5 hF2) hF
  u_c stepG_region_end (D5 hF2) hF
  iterate 2 u_c stepG_seq (D5 hF2) hF
  u_reg (D5 hF2) hF
  iterate 4 u_op (D5 hF2) hF
  iterate 2 u_skip (D5 hF2) hF
  u_op (D5 hF2) hF
  u_c stepG_region_end (D5 hF2) hF
  u_cond false (D5 hF2) hF
  u_c stepG_skip (D5 hF2) hF
  u_c stepG_seq (D5 hF2) hF
  u_reg (D5 hF2) hF
  iterate 4 u_op (D5 hF2) hF
  u_c stepG_region_end (D5 hF2) hF
  u_c stepG_seq (D5 hF2) hF
  u_reg (D5 hF2) hF
  iterate 4 u_op (D5 hF2) hF
  u_c stepG_region_end (D5 hF2) hF
  iterate 2 u_c stepG_seq (D5 hF2) hF
  u_reg (D5 hF2) hF
  iterate 10 u_op (D5 hF2) hF
  u_c stepG_region_end (D5 hF2) hF
  u_cond true (D5 hF2) hF
  u_reg (D5 hF2) hF
  iterate 3 u_op (D5 hF2) hF
  u_in (D5 hF2) hF
  refine goes_oper_k rfl rfl (by k_ne) (λKx hKx=>?_);have a2:=run_convert_to_unsafe (P:=p.P) H.underlying_tPU32 H.underlying_tUP H.room_tU32 (WgLive.cell1 hF.2).choose_spec;have a0:=λes=>events_convert_to_unsafe (P:=p.P) H.underlying_tPU32 H.underlying_tUP H.room_tU32 (WgLive.cell1 hF.2).choose_spec es;go_simp;refine hKx _ _ ⟨?_,?_⟩
  .u_none
   intro ex hex;have a3:=mem_listed hex;simp[go_sem,a0] at a3
  clear hKx Kx a2 a0;refine Goes.stop (λqg qb=>?_);replace hF:=D5 hF2 hF qb;clear qb;refine⟨rfl,_,stepG_markAt .read dC rfl rfl (by k_ne) rfl H.f_raceRead (x_raceRead_n L) (x_raceRead_b L) (x_raceRead_x L) (x_raceRead_f L) (ad:=⟨p.Wg,1,none⟩) (by simp[Act.eval]),60,?_⟩;walk_nrm
  u_c stepG_region_end (D5 hF2) hF
  iterate 2 u_c stepG_seq (D5 hF2) hF
  u_reg (D5 hF2) hF
  iterate 2 u_op (D5 hF2) hF
  u_c stepG_region_end (D5 hF2) hF
  u_cond false (D5 hF2) hF
  u_c stepG_skip (D5 hF2) hF
  iterate 2 u_c stepG_seq (D5 hF2) hF
  u_reg (D5 hF2) hF
  iterate 3 u_op (D5 hF2) hF
  iterate 2 u_skip (D5 hF2) hF
  iterate 2 u_op (D5 hF2) hF
  iterate 4 u_skip (D5 hF2) hF
  u_op (D5 hF2) hF
  u_c stepG_region_end (D5 hF2) hF
  u_cond false (D5 hF2) hF
  u_c stepG_skip (D5 hF2) hF
  iterate 2 u_c stepG_seq (D5 hF2) hF
  u_reg (D5 hF2) hF
  iterate 3 u_op (D5 hF2) hF
  iterate 2 u_skip (D5 hF2) hF
  u_op (D5 hF2) hF
  u_c stepG_region_end (D5 hF2) hF
  u_cond true (D5 hF2) hF
  u_c stepG_ret' (D5 hF2) hF
  refine Goes.stop (λqm qb=>?_);replace hF:=D5 hF2 hF qb;clear qb;refine⟨rfl,_,stepG_unwind_entry (v:=.tuple #[]) (evs:=#[mk .enable]) rfl H.f_enable (x_enable_n L) (x_enable_b L) (x_enable_x L) (x_enable_f L) (by simp[Extern.Race.none_]) (by simp[mk]) (by simp[mk]),mT+1,?_⟩;u_leave0 H.f_add (D5 hF2) hF
  exact hT _ hF.1 hF.2
 .obtain⟨V,hV⟩:∃V:Int,V=(v:Int)+1:=⟨_,rfl⟩;obtain⟨S,hS⟩:∃S:Int,S=V*KK:=⟨_,rfl⟩;have eS:IntKind.u64.wrap ((v:Int)*KK+4294967296)=S:=by rw[IntKind.wrap_u64,hS,hV];simp only[KK];omega
  rw[← hV,← hS];have a1:S / 4294967296=V:=by rw[hS];simp only[KK];omega
  have b1:bits .and .u64 S 2147483648=0:=by rw[hS,hV];have:=st_flag (v+1) 0 oM oM;simpa [KK] using this
  have b2:bits .and .u64 S 2147483647=0:=by rw[hS,hV];have:=st_waiters (v+1) 0 oM oM;simpa [KK] using this
  have c1:IntKind.i32.wrap V=V:=by rw[IntKind.wrap_i32];omega
  have a4:1<V:=oM
  have a5:V<2147483648:=oM
  have q1:(V==1)=false:=gG
  have q2:decide (V=1)=false:=decide_eq_false oM;have q3:decide (V<0)=false:=decide_eq_false oM;have q4:decide (0<V)=true:=decide_eq_true oM;have q5:(V==0)=false:=gG
  have q6:decide (V=0)=false:=decide_eq_false oM;refine⟨_,(stepG_add_atomic rfl rfl (by k_ne) rfl H.f_addU64 (x_addU64_n L) (x_addU64_b L) (x_addU64_x L) .u64 (x_addU64_f L) rfl rfl hw.cellSt (hw.thaw 0)).trans (by rw[eS];rfl),120,.inr ?_⟩;replace hF:F (qc.setCell (stA p.Wg) (.int .u64 S))/\WgLive p.ty p.Wg (qc.setCell (stA p.Wg) (.int .u64 S)):=⟨hset _ _ hF.1,⟨_,_,hw.setSt _⟩⟩;clear hw hS hV eS;walk_nrm
  u_op (D5 hF2) hF
  u_c stepG_region_end (D5 hF2) hF
  u_c stepG_ret' (D5 hF2) hF
  u_leave1 H.f_uAdd (D5 hF2) hF
  u_op (D5 hF2) hF
  u_c stepG_region_end (D5 hF2) hF
  iterate 2 u_c stepG_seq (D5 hF2) hF
  u_reg (D5 hF2) hF
  iterate 4 u_op (D5 hF2) hF
  iterate 2 u_skip (D5 hF2) hF
  u_op (D5 hF2) hF
  u_c stepG_region_end (D5 hF2) hF
  u_cnd false (D5 hF2) hF
  u_c stepG_skip (D5 hF2) hF
  u_c stepG_seq (D5 hF2) hF
  u_reg (D5 hF2) hF
  iterate 4 u_op (D5 hF2) hF
  u_c stepG_region_end (D5 hF2) hF
  u_c stepG_seq (D5 hF2) hF
  u_reg (D5 hF2) hF
  iterate 4 u_op (D5 hF2) hF
  u_c stepG_region_end (D5 hF2) hF
  iterate 2 u_c stepG_seq (D5 hF2) hF
  u_reg (D5 hF2) hF
  iterate 10 u_op (D5 hF2) hF
  u_c stepG_region_end (D5 hF2) hF
  u_cnd false (D5 hF2) hF
  u_c stepG_skip (D5 hF2) hF
  iterate 2 u_c stepG_seq (D5 hF2) hF
  u_reg (D5 hF2) hF
  iterate 2 u_op (D5 hF2) hF
  u_c stepG_region_end (D5 hF2) hF
  u_cnd false (D5 hF2) hF
  u_c stepG_skip (D5 hF2) hF
  iterate 2 u_c stepG_seq (D5 hF2) hF
  u_reg (D5 hF2) hF
  iterate 3 u_op (D5 hF2) hF
  iterate 2 u_skip (D5 hF2) hF
  iterate 2 u_op (D5 hF2) hF
  iterate 4 u_skip (D5 hF2) hF
  u_op (D5 hF2) hF
  u_c stepG_region_end (D5 hF2) hF
  u_cnd false (D5 hF2) hF
  u_c stepG_skip (D5 hF2) hF
  iterate 2 u_c stepG_seq (D5 hF2) hF
  u_reg (D5 hF2) hF
  iterate 3 u_op (D5 hF2) hF
  iterate 2 u_skip (D5 hF2) hF
  u_op (D5 hF2) hF
  u_c stepG_region_end (D5 hF2) hF
  u_cnd true (D5 hF2) hF
  u_c stepG_ret' (D5 hF2) hF
  refine Goes.stop (λqm qb=>?_);replace hF:=D5 hF2 hF qb;clear qb;refine⟨rfl,_,stepG_unwind_entry (v:=.tuple #[]) (evs:=#[mk .enable]) rfl H.f_enable (x_enable_n L) (x_enable_b L) (x_enable_x L) (x_enable_f L) (by simp[Extern.Race.none_]) (by simp[mk]) (by simp[mk]),mT+1,?_⟩;u_leave0 H.f_add (D5 hF2) hF
  exact hT _ hF.1 hF.2
end
end Bd
section
open Go.Maps
structure Sl where
 s:BA
 t:BA
structure Rb where
 nm:BA
 ps:List Ph
 sl:List Sl
 ad:BA
 si:Int
 st:Int
@[simp,go_sem] abbrev Rzz(x:Rb)(p q c g r d:Nat):List Value:=[.string x.nm,.slice (some ⟨p,q,none⟩) x.ps.length c,.slice (some ⟨g,r,none⟩) x.sl.length d,.string x.ad,.int .i64 x.si,.int .i64 x.st]
def K6(l:List Sl):List BA:=l.map (·.s)
def Ah(l:List Sl):List BA:=l.map (·.t)
def O9(l:List Sl)(s:BA):BA:=match l.find? λx=>x.s.toList==s.toList with
 | some x=>x.t
 | none=>⟨#[]⟩
def R4(l:List Sl)(s:BA):BA:=O9 l.reverse s
theorem CP(x:Sl)(l:List Sl)(s:BA):O9 (x::l) s=if (x.s.toList==s.toList)=true then x.t else O9 l s:=by
 unfold O9;rw[List.find?_cons];grind
theorem WT(x:Sl)(l:List Sl)(s:BA):R4 (l++[x]) s=if (x.s.toList==s.toList)=true then x.t else R4 l s:=by
 unfold R4;rw[List.reverse_append];exact CP x l.reverse s
theorem Fi:∀{l:List Sl} {s:BA},s.toList∉D7 (K6 l)->O9 l s=⟨#[]⟩
 | [],_,_=>rfl
 | x::r,s,h=>by
  simp only[K6,D7,List.map_cons,List.mem_cons,not_or] at h;have h1:=λe=>h.1 (by simpa using (beq_iff_eq.1 e).symm);rw[CP,if_neg h1];exact Fi (by simpa [K6,D7] using h.2)
theorem Fj:∀{l:List Sl},(D7 (K6 l)).Nodup->∀{x:Sl},x∈l->O9 l x.s=x.t
 | [],_,_,h=>by simp at h
 | y::r,hn,x,h=>by
  have hn':y.s.toList∉D7 (K6 r)/\(D7 (K6 r)).Nodup:=by simpa [K6,D7] using hn
  rw[CP];rcases List.mem_cons.1 h with rfl|h
  .rw[if_pos dC]
  .have h1:¬(y.s.toList==x.s.toList)=true:=λe=>hn'.1 (by
    rw[beq_iff_eq.1 e];simp only[K6,D7,List.mem_map];exact⟨x.s,⟨x,h,rfl⟩,rfl⟩)
   rw[if_neg h1];exact Fj hn'.2 h
theorem MS:∀{l:List Sl} {s:BA} {k:Nat} (hk:k<l.length),(∀(j:Nat)(x:Sl),j<k->l[j]?=some x->(x.s.toList==s.toList)=false)->((l[k]).s.toList==s.toList)=true->O9 l s=(l[k]).t
 | x::r,s,0,_,_,h=>by rw[CP,if_pos (by simpa using h)];rfl
 | x::r,s,k+1,hk,hal,h=>by
  have h0:=hal 0 x oM rfl;rw[CP,if_neg (by simp[h0])];have:=MS (by simpa using hk) (λj y hj hy=>hal (j+1) y oM (by simpa using hy)) (by simpa using h);simpa using this
theorem Ul{l:List Sl}{s:BA}(h:∀(j:Nat)(x:Sl),l[j]?=some x->(x.s.toList==s.toList)=false):O9 l s=⟨#[]⟩:=by
 refine Fi λhm=>?_;simp only[K6,D7,List.mem_map] at hm;obtain⟨_,⟨x,hx,rfl⟩,e⟩:=hm;obtain⟨j,hj⟩:=C5.1 hx;have:=h j x hj;rw[e] at this;simp at this
theorem Zp{l:List T6}(h:l.Nodup):l.reverse.Nodup:=by
 grind
theorem MT{l:List Sl}(hn:(D7 (K6 l)).Nodup)(s:BA):R4 l s=O9 l s:=by
 have hr:D7 (K6 l.reverse)=(D7 (K6 l)).reverse:=by simp[D7,K6]
 by_cases h:s.toList∈D7 (K6 l)
 .simp only[K6,D7,List.mem_map] at h;obtain⟨_,⟨x,hx,rfl⟩,e⟩:=h;obtain rfl:=Aw e;rw[Fj hn hx];exact Fj (by rw[hr];exact Zp hn) (by simpa using hx)
 .rw[Fi h];exact Fi (by rw[hr];simpa using h)
def Bq(l:List Sl)(ss:List BA):List BA:=T1 [] (ss.map (O9 l))
def CQ(l:List Sl)(ss:List BA):List T6:=uniq (D7 (ss.map (R4 l)))
theorem Jq(l:List Sl)(ss:List BA):(D7 (Bq l ss)).Pairwise (· < ·)/\∀x,x∈D7 (Bq l ss)↔x∈D7 (ss.map (O9 l)):=by
 obtain⟨h1,h2⟩:=Ka _ [];exact⟨h2 (by simp[D7]),λx=>by rw[Bq,h1];simp[D7]⟩
theorem Lz{l:List Sl}(hn:(D7 (K6 l)).Nodup)(hm:∀x,x∈D7 ss↔x∈D7 tt):D7 (Bq l ss)=CQ l tt:=by
 obtain⟨e1,e2⟩:=Jq l ss;obtain⟨u1,u2⟩:=Dn _;refine EY _ _ e1 u1 λx=>?_;rw[e2];show _↔x∈uniq _
 rw[u2];have hl:tt.map _=tt.map _:=List.map_congr_left λs _=>MT hn s;rw[hl];simp only[D7,List.mem_map] at hm ⊢
 constructor
 .rintro⟨_,⟨s,hs,rfl⟩,rfl⟩;obtain⟨s',a0,e⟩:=(hm s.toList).1 ⟨s,hs,rfl⟩;obtain rfl:=Aw e;exact⟨_,⟨_,a0,rfl⟩,rfl⟩
 .rintro⟨_,⟨s,hs,rfl⟩,rfl⟩;obtain⟨s',a0,e⟩:=(hm s.toList).2 ⟨s,hs,rfl⟩;obtain rfl:=Aw e;exact⟨_,⟨_,a0,rfl⟩,rfl⟩
theorem Kl:∀(m l:List T6),l.Nodup->(∀x∈l,x∈m)->m.length<=l.length->m.Nodup
 | [],_,_,_,_=>List.nodup_nil
 | a::m,l,hn,h,hl=>by
  simp only[List.length_cons] at hl
  have hsub:∀x∈l.erase a,x∈m:=λx hx=>by
   grind
  have he:=List.length_erase (a:=a) (l:=l);refine List.nodup_cons.2 ⟨λha=>?_,Kl m _ (hn.erase a) hsub (by split at he<;>omega)⟩
  have:=Ee m l hn λx hx=>by
   grind
  omega
theorem EH{l:List T6}(h:l.Pairwise (· < ·)):l.Nodup:=h.imp λh e=>by subst e;exact My _ h
theorem Aby(l:List T6):(uniq l).length=l.length↔l.Nodup:=by
 obtain⟨u1,u2⟩:=Dn l;constructor
 .intro h;exact Kl l (uniq l) (EH u1) (λx hx=>(u2 x).1 hx) oM
 .intro h;have h1:=Ee l (uniq l) (EH u1) (λx hx=>(u2 x).1 hx);have h2:=Ee (uniq l) l h (λx hx=>(u2 x).2 hx);omega
def Br(l:List Sl)(ns:List BA)(i:Nat):Prop:=∀(j:Nat)(x:Sl),j<i->l[j]?=some x->(∃n,ns[j]?=some n/\x.s.toList=n.toList)/\E4 x.t=true
def Iv(l:List Sl)(i:Nat):Prop:=∀(j k:Nat)(x y:Sl),j<i->k<j->l[j]?=some x->l[k]?=some y->y.t.toList≠x.t.toList
def Eh(l:List Sl)(ns:List BA):Prop:=l.length=ns.length/\Br l ns l.length/\Iv l l.length
theorem Br.step{l:List Sl}{i:Nat}(h:Br l ns i)(hi:i<l.length)(hn:i<ns.length)(h1:((l[i]).s.toList==(ns[i]).toList)=true)(h2:E4 (l[i]).t=true):Br l ns (i+1):=λj x hj hx=>by
 rcases Nat.lt_or_ge j i with h'|h'
 .exact h j x h' hx
 .grind
theorem Br.no1{l:List Sl}{i:Nat}(hi:i<l.length)(hn:i<ns.length)(h1:((l[i]).s.toList==(ns[i]).toList)=false):¬Eh l ns:=λ⟨_,h,_⟩=>by
 obtain⟨⟨n,hn',e⟩,_⟩:=h i l[i] hi dC;rw[A0 hn] at hn';obtain rfl:=A5 hn';rw[e] at h1;simp at h1
theorem Br.no2{l:List Sl}{i:Nat}(hi:i<l.length)(h1:E4 (l[i]).t=false):¬Eh l ns:=λ⟨_,h,_⟩=>by
 rw[(h i l[i] hi dC).2] at h1;cases h1
theorem Iv.step{l:List Sl}{i:Nat}(h:Iv l i)(hi:i<l.length)(hd:∀(k:Nat)(y:Sl),k<i->l[k]?=some y->y.t.toList≠(l[i]).t.toList):Iv l (i+1):=λj k x y hj hk hx hy=>by
 rcases Nat.lt_or_ge j i with h'|h'
 .exact h j k x y h' hk hx hy
 .grind
theorem Iv.no{l:List Sl}{i:Nat}(hi:i<l.length)(hk:k<i)(h1:((l[k]).t.toList==(l[i]).t.toList)=true):¬Eh l ns:=λ⟨_,_,h⟩ =>
 h i k l[i] (l[k]' oM) hi hk dC (A0 oM) (by simpa using h1)
theorem Br.names{l:List Sl}(hl:l.length=ns.length)(h:Br l ns l.length):K6 l=ns:=by
 refine List.ext_getElem (by simpa [K6] using hl) λj h1 h2=>?_;have hj:j<l.length:=by simpa [K6] using h1
 obtain⟨⟨n,hn,e⟩,_⟩:=h j l[j] hj dC;rw[A0 h2] at hn;obtain rfl:=A5 hn;simp only[K6,List.getElem_map];exact Aw e
theorem Iv.nodup{l:List Sl}:Iv l l.length↔(D7 (Ah l)).Nodup:=by
 unfold List.Nodup;rw[List.pairwise_iff_getElem];constructor
 .intro h i j hi hj hij;have a1:i<l.length:=by simpa [D7,Ah] using hi
  have a0:j<l.length:=by simpa [D7,Ah] using hj
  have:=h j i l[j] l[i] a0 hij dC dC;simpa [D7,Ah] using this
 .intro h j k x y hj hk hx hy;obtain⟨h1,rfl⟩:=A2.1 hx;obtain⟨h2,rfl⟩:=A2.1 hy;have:=h k j (by simpa [D7,Ah] using h2) (by simpa [D7,Ah] using h1) hk;simpa [D7,Ah] using this
theorem Br.count{l:List Sl}(hl:l.length=ns.length)(h:Br l ns l.length)(hn:(D7 ns).Nodup):(CQ l ns).length=l.length↔Eh l ns:=by
 have a0:=Br.names hl h
 have hm:ns.map (R4 l)=Ah l:=by
  rw[← a0,K6,List.map_map]
  exact List.map_congr_left λx hx=>by
   show R4 l x.s=x.t
   rw[MT (by rw[a0];exact hn),Fj (by rw[a0];exact hn) hx]
 have hc:=Aby (D7 (Ah l));rw[CQ,hm];have hk:(D7 (Ah l)).length=l.length:=by simp[D7,Ah]
 rw[hk] at hc;rw[hc,← Iv.nodup];exact⟨λhd=>⟨hl,h,hd⟩,λhd=>hd.2.2⟩
def EU(ps:List Ph)(nm:BA):Ph:=match ps.find? λp=>p.nm.toList==nm.toList with
 | some p=>p
 | none=>⟨⟨#[]⟩,0,⟨#[]⟩,⟨#[]⟩,0,0,⟨#[]⟩,⟨#[]⟩⟩
theorem Iw(hk:k<ps.length)(h:M6 ps nm=(k:Int)):EU ps nm=ps[k]:=by
 unfold M6 at h;unfold EU;cases hf:ps.findIdx? λp=>p.nm.toList==nm.toList with
 | none =>
  rw[hf] at h;have h':(-1:Int)=(k:Int):=h;omega
 | some i =>
  rw[hf] at h;have h':(i:Int)=(k:Int):=h;obtain rfl:i=k:=oM
  obtain⟨h1,h2,h3⟩:=List.findIdx?_eq_some_iff_getElem.1 hf
  have:(ps.find? λp=>p.nm.toList==nm.toList)=some ps[i]:=by
   rw[List.find?_eq_some_iff_getElem];exact⟨h2,i,h1,rfl,λj hj=>by simpa using h3 j hj⟩
  rw[this]
def BC:List Ph->BA
 | []=>⟨#[]⟩
 | p::_=>p.nm
theorem Pf(h:0<ps.length):BC ps=(ps[0]).nm:=by
 cases ps with
 | nil=>simp at h
 | cons p r=>rfl
def J5(ps:List Ph)(l:List Sl):Prop:=Eh l (Y3 ps (BC ps))
def I7(x:Rb):Prop:=E4 x.nm=true/\M3 x.ps=true/\J5 x.ps x.sl/\1<=x.st/\H7 x.ps x.ad=true/\-1<=x.si/\x.si<(EU x.ps x.ad).wi
noncomputable def K5(x:Rb)(nm:BA):List BA:=if pB (I7 x)=true then Bq x.sl (Y3 x.ps nm) else []
noncomputable def R6(x:Rb):List BA:=if pB (I7 x)=true then Bq x.sl (Dm (EU x.ps x.ad)) else []
theorem Pg(ps:List Ph)(nm:BA):(D7 (Y3 ps nm)).Nodup:=by rw[DA];exact EH (Kb ps nm)
theorem J5.names{l:List Sl}(h:J5 ps l):K6 l=Y3 ps (BC ps):=Br.names h.1 h.2.1
theorem J5.nodup{l:List Sl}(h:J5 ps l):(D7 (K6 l)).Nodup:=by rw[h.names];exact Pg _ _
theorem Abz(l:List Sl)(p:Ph)(hn:(D7 (K6 l)).Nodup)(ht:D7 tt=Ed p):D7 (Bq l (Dm p))=CQ l tt :=
 Lz hn λx=>by rw[(Va p).2,ht]
theorem Vw(l:List Sl)(ss:List BA):(CQ l ss).length<=ss.length:=by
 obtain⟨u1,u2⟩:=Dn (D7 (ss.map (R4 l)));have:=Ee (D7 (ss.map (R4 l))) _ (EH u1) (λx hx=>(u2 x).1 hx);simpa [D7,CQ] using this
theorem AdM(l:List Sl)(ss:List BA):(Bq l ss).length<=ss.length:=by
 have:=Gv [] (ss.map (O9 l));simpa [Bq] using this
end
end Go.Proofs.YtaffjphkobhagaaGreatDoor
