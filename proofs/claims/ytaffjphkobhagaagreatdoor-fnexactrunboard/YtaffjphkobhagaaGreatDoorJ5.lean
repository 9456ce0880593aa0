/- Runs carried over, 1a: memory seen as another type. -/
import Derived.Test.YtaffjphkobhagaaGreatDoorJ2
namespace Go.Proofs.YtaffjphkobhagaaGreatDoor
open Go.Conc
variable{ops:Array Oper}{aas as_:Array Operand}{ats:Array TypeId}{fr:Frame}{fn:Func}{f:FuncId}{j:IntKind}{L:List Nat}{bs:List UInt8}{g:Nat}{dst src:TypeId}{u':World}
theorem FI:∀(s n:Nat),(leBytes s n).length=s
 | 0,_=>rfl
 | s+1,n=>by simp[leBytes,FI s]
theorem YF{v:Value}(h:v.bytes?=some bs):0<bs.length:=by
 cases v<;>simp only[Value.bytes?] at h<;>first|(cases h;done)|(cases h;simp;done)|skip
 .rename_i k n;cases h
  rw[FI];cases k<;>simp[IntKind.bits]
 .rename_i k n;cases h
  rw[FI];cases k<;>simp[FloatKind.bytes]
 .rename_i k a b;cases h
  rw[A9,FI,FI];cases k<;>simp[FloatKind.bytes]
section
variable {P:Program} {at_ k:Addr} {t:TypeId} {atomic:Bool} {w u:World}
theorem Mw(h:u.heap[at_.block]?=w.heap[at_.block]?):u.seen P at_ t k atomic=w.seen P at_ t k atomic:=by
 unfold World.seen;rw[h]
theorem NQ(e:TypeId)(f x n:Nat)(hn:0<n)(r:List (Nat×Nat×List UInt8)):seenCells P #[] e (f+1) x (x+n)≠.ok r:=by
 unfold seenCells;intro h;rw[if_neg oM] at h;simp only at h;split at h
 .cases h
 .grind
theorem Mx{e:TypeId}{f:Nat×Nat}(h:u.heap[at_.block]?=some (.cells #[] e f))(r:Array Value×TypeId×(Nat×Nat)×Nat×Value×List (Nat×Nat×List UInt8)):u.seen P at_ t k atomic≠.ok r:=by
 unfold World.seen;rw[h];intro hr;simp only[bind,Except.bind,pure,Except.pure] at hr
 have a0:∀{v:Value} {n:Nat},Option.map (λx=>x.length) v.bytes?=some n->0<n:=λ{v n} h=>by
  cases hb:v.bytes? with
  | none=>rw[hb] at h;cases h
  | some bs=>rw[hb] at h;cases h;exact YF hb
 repeat' (split at hr)
 all_goals first
  | (cases hr;done)
  | exact absurd ‹seenCells P #[] e _ _ _=Except.ok _› (NQ e _ _ _ (a0 ‹Option.map (λx:List UInt8=>x.length) (Value.bytes? _)=some _›) _)
theorem NR(h:u.heap[at_.block]?=w.heap[at_.block]?):u.viewLoad P at_ t k atomic=w.viewLoad P at_ t k atomic:=by
 unfold World.viewLoad;rw[Mw h]
theorem TN{v:Value}{l:List Addr}(h:u.viewLoad P at_ t k atomic=.ok (v,l)):(∀a∈l,a.block=at_.block)/\∀e f,u.heap[at_.block]?≠some (.cells #[] e f):=by
 unfold World.viewLoad at h;cases hs:u.seen P at_ t k atomic with
 | error m=>rw[hs] at h;cases h
 | ok r =>
  rw[hs] at h;obtain⟨c,e,f,first,a1,a0⟩:=r;simp only[bind,Except.bind,pure,Except.pure] at h;refine⟨λa ha=>?_,λe' f' he=>Mx he _ hs⟩;split at h
  .grind
  .cases h
theorem QL{v:Value}{l:List Addr}(h:u.viewStore P at_ t k v atomic=.ok (u',l)):
  ∃c e f,u'={u with heap:=u.heap.setIfInBounds at_.block (.cells c e f)}/\(∀a∈l,a.block=at_.block)/\(∀e f,u.heap[at_.block]?≠some (.cells #[] e f))/\
   ∀w:World,u.heap[at_.block]?=w.heap[at_.block]?->w.viewStore P at_ t k v atomic=.ok ({w with heap:=w.heap.setIfInBounds at_.block (.cells c e f)},l):=by
 have he:∀w:World,u.heap[at_.block]?=w.heap[at_.block]?->w.seen P at_ t k atomic=u.seen P at_ t k atomic:=λw h=>(Mw h).symm;unfold World.viewStore at h ⊢
 cases hs:u.seen P at_ t k atomic with
 | error m =>
  rw[hs] at h;simp only[bind,Except.bind] at h;split at h
  .cases h
  .cases h
 | ok r =>
  rw[hs] at h he;obtain⟨c,e,f,first,a1,a0⟩:=r;simp only[bind,Except.bind,pure,Except.pure] at h ⊢
  repeat' (split at h)
  all_goals first
   | (cases h;done)
   | (cases h
      refine⟨_,_,_,rfl,λa ha=>?_,λe' f' he=>Mx he _ hs,λw hw=>?_⟩
      .grind
      .rw[he w hw];simp_all)
end
section
variable {P:Program} {X:Nat->Prop} {α β:Type}
instance Sound.pure (a:α):Sound P X (Sem.pure a):=.mk λ_ w _ _ h _=>⟨λ_ he=>.inl he,w,rfl,On.refl h⟩
instance Sound.pure' (a):Sound P X (Pure.pure a:Sem α):=Sound.pure a
theorem Sound.halt(h)(hh:Ca h=false:=by rfl):Sound P X (Sem.halt h:Sem α):=.mk λ_ w _ _ hs _=>⟨hh,λ_=>⟨λ_ he=>.inl he,w,rfl,On.refl hs⟩⟩
theorem QV{u:World}{a:Addr}{e:TypeId}(hu:u.heap[a.block]?=some (.cells #[] e (0,0)))(s:String)(es:Array Event)(n:Nat)(w0 u0:World)(rw:Result α×Array Event):Q5 X n w0 u0 es rw (.halt (u.noCell a s) u,es):=by
 intro _;unfold World.noCell;rw[hu];exact⟨rfl,λh=>by cases h⟩
theorem Lt{n:Nat}{w u:World}(h:J0 X n w u){a:Addr}(ha:¬X a.block)(s:String)(es:Array Event):Q5 X n w u es ((.halt (w.noCell a s) w,es):Result α×Array Event) (.halt (u.noCell a s) u,es):=by
 intro _;have hp:=h.pend a.block;unfold World.noCell;rw[h.same _ ha];split
 .rename_i c t ho;exact⟨by simpa [Ca] using hp c t ho,λ_=>⟨λ_ he=>.inl he,w,rfl,On.refl h⟩⟩
 iterate 2 .exact⟨rfl,λh=>by cases h⟩
theorem QW{es:Array Event}{l:List Addr}{b:Nat}(hl:∀a∈l,a.block=b)(hb:¬X b)(wr at_:Bool):∀e∈es++l.toArray.map (λa=>(⟨.cell a,wr,at_⟩:Event)),e∈es\/V7 X e:=λe he=>by
 rcases Array.mem_append.1 he with h|h
 .exact .inl h
 .obtain⟨a,ha,rfl⟩:=Array.mem_map.1 h;refine .inr ?_;show ¬X a.block
  rwa[hl a (by simpa using ha)]
theorem Sound.load{m:Mode}{a:Addr}{k:Value->Sem α}(hk:∀v,Sound P X (k v)):Sound P X (Sem.load m a k):=.mk λn w u es h=>by
 simp only[Sem.runT];by_cases ha:X a.block
 .rw[h.cellX ha];obtain⟨c,e,-,hu⟩:=h.cov _ ha;simp only[World.farLoad,hu];exact QV hu _ _ _ _ _ _
 .rw[h.cell ha];cases hc:w.cell? a with
  | some v=>exact (hk v n w u _ h).step (Z3 ha)
  | none =>
   have hn:=Lt (α:=α) h ha "load: no such cell" es;simp only[World.farLoad,h.same _ ha];cases ho:w.heap[a.block]? with
   | none=>exact hn
   | some o =>
    cases o with
    | view x t =>
     simp only;cases hv:u.viewLoad P x t a (m == .atomic) with
     | error why=>exact λ_=>⟨rfl,λh=>by cases h⟩
     | ok r =>
      obtain⟨v,l⟩:=r;obtain⟨h1,h2⟩:=TN hv;have hx:¬X x.block:=λhx=>by obtain⟨c,e,-,hu⟩:=h.cov _ hx;exact h2 _ _ hu
      rw[← NR (h.same _ hx),hv];exact (hk v n w u _ h).step (QW h1 hx _ _)
    | _=>exact hn
theorem Cd(w:World)(a:Addr)(v:Value)(b:Nat):(w.setCell a v).heap[b]?=(if a.block=b then (w.heap[b]?).map (fun | .cells c elem frozen=>.cells (if a.spot.isSome then c else c.setIfInBounds a.off v) elem frozen|o=>o) else w.heap[b]?):=by
 simp only[World.setCell,Array.getElem?_modify];rfl
theorem J0.setCell{n:Nat}{w u:World}(h:J0 X n w u)(a:Addr)(v:Value)(ha:¬X a.block):UY X n w u (w.setCell a v) (u.setCell a v):=by
 refine h.turn dC dC (λb hb=>?_) (λb hb=>?_) (λb x t hx=>?_)
 .show (u.setCell a v).heap[b]?=(w.setCell a v).heap[b]?
  rw[Cd,Cd,h.same b hb]
 .show ∃c e,(w.setCell a v).heap[b]?=_/\(u.setCell a v).heap[b]?=_
  have a1:¬a.block=b:=λe=>ha (e ▸ hb);rw[Cd,Cd,if_neg a1,if_neg a1];exact h.cov b hb
 .have a0:(w.setCell a v).heap[b]?=_:=hx;rw[Cd] at a0;split at a0
  .cases ho:w.heap[b]? with
   | none=>rw[ho] at a0;simp at a0
   | some o =>
    rw[ho] at a0;cases o<;>simp at a0
    exact h.pend b _ _ (by rw[ho])
  .exact h.pend b _ _ a0
theorem J0.setCells{n:Nat}{w u:World}(h:J0 X n w u)(r:Nat)(c:Array Value)(e:TypeId)(f:Nat×Nat)(hr:¬X r):UY X n w u {w with heap:=w.heap.setIfInBounds r (.cells c e f)} {u with heap:=u.heap.setIfInBounds r (.cells c e f)}:=by
 refine h.turn dC dC (λb hb=>?_) (λb hb=>?_) (λb a t hx=>?_)
 .simp only[Array.getElem?_setIfInBounds,h.size,h.same b hb]
 .have a0:¬r=b:=λe=>hr (e ▸ hb);simp only[Array.getElem?_setIfInBounds,if_neg a0];exact h.cov b hb
 .simp only[Array.getElem?_setIfInBounds] at hx;split at hx
  .simp_all
  .exact h.pend b a t hx
theorem Sound.store{m:Mode}{a:Addr}{v:Value}{k:Sem α}(hk:Sound P X k):Sound P X (Sem.store m a v k):=.mk λn w u es h=>by
 have main:Q5 X n w u es (match w.cell? a with
  | some _=>if w.frozen? a then (.halt (.unsupported (.unsafePointer "a write to bytes that a string shares")) w,es) else k.runT P (w.setCell a v) (es.push ⟨.cell a,true,m == .atomic⟩)
  | none=>match w.farStore P a v (m == .atomic) with
   | .ok (w,touched)=>k.runT P w (es++touched.toArray.map (⟨.cell ·,true,m == .atomic⟩))
   | .error h=>(.halt h w,es)) (match u.cell? a with
  | some _=>if u.frozen? a then (.halt (.unsupported (.unsafePointer "a write to bytes that a string shares")) u,es) else k.runT P (u.setCell a v) (es.push ⟨.cell a,true,m == .atomic⟩)
  | none=>match u.farStore P a v (m == .atomic) with
   | .ok (w,touched)=>k.runT P w (es++touched.toArray.map (⟨.cell ·,true,m == .atomic⟩))
   | .error h=>(.halt h u,es)):=by
  by_cases ha:X a.block
  .rw[h.cellX ha];obtain⟨c,e,-,hu⟩:=h.cov _ ha;simp only[World.farStore,hu];exact QV hu _ _ _ _ _ _
  .rw[h.cell ha,h.frozen];cases hc:w.cell? a with
   | some x =>
    cases hf:w.frozen? a with
    | true=>exact λ_=>⟨rfl,λh=>by cases h⟩
    | false=>exact (hk _ _ _ _ (h.setCell a v ha).sim).on (h.setCell a v ha) (Z3 ha)
   | none =>
    have hn:=Lt (α:=α) h ha "store: no such cell" es;simp only[World.farStore,h.same _ ha];cases ho:w.heap[a.block]? with
    | none=>exact hn
    | some o =>
     cases o with
     | view x t =>
      simp only;cases hv:u.viewStore P x t a v (m == .atomic) with
      | error why=>exact λ_=>⟨rfl,λh=>by cases h⟩
      | ok r =>
       obtain⟨u',l⟩:=r;obtain⟨c,e,f,rfl,h1,h2,h3⟩:=QL hv;have hx:¬X x.block:=λhx=>by obtain⟨c,e,-,hu⟩:=h.cov _ hx;exact h2 _ _ hu
       rw[h3 w (h.same _ hx)];exact (hk _ _ _ _ (h.setCells _ c e f hx).sim).on (h.setCells _ c e f hx) (QW h1 hx _ _)
     | _=>exact hn
 cases v<;>first|(simp only[Sem.runT];exact main)|(simp only[Sem.runT];exact λ_=>⟨rfl,λh=>by cases h⟩)
theorem Sound.new{o:Obj}{k:Nat->Sem α}(ho:(∀a t,o≠.view a t)/\∀c t,o≠.pending c t)(hk:∀r,Sound P X (k r)):Sound P X (Sem.new o k):=.mk λn w u es h=>by
 have hon:UY X n w u {w with heap:=w.heap.push o} {u with heap:=u.heap.push o}:=by
  have hs:=h.size;refine⟨⟨by simp[hs],λb hb=>by have:=h.old b hb;simp;omega,λb hb=>?_,λb hb=>?_,λb a t hx=>?_,h.os,h.output,h.tape⟩,rfl,rfl,rfl,rfl⟩
  .simp only[Array.getElem?_push,hs,h.same b hb]
  .have a0:b≠w.heap.size:=by have:=h.old b hb;omega
   simp only[Array.getElem?_push,hs,if_neg a0];exact h.cov b hb
  .simp only[Array.getElem?_push] at hx;split at hx
   .simp_all
   .exact h.pend b a t hx
 simp only[Sem.runT];rw[h.size];exact (hk w.heap.size _ _ _ es hon.sim).on hon (λe he=>.inl he)
theorem Sound.frozen{a:Addr}{k:Bool->Sem α}(hk:∀b,Sound P X (k b)):Sound P X (Sem.frozen a k):=.mk λn w u es h=>by
 simp only[Sem.runT,h.frozen];exact hk _ _ _ _ _ h
theorem Sound.getObj{r:Nat}{k:Obj->Sem α}(hk:∀o,Sound P X (k o)):Sound P X (Sem.getObj r k):=.mk λn w u es h=>by
 simp only[Sem.runT];by_cases hr:X r
 .obtain⟨c,e,hw,hu⟩:=h.cov r hr;rw[hu];exact λ_=>⟨rfl,λh=>by cases h⟩
 .rw[h.same r hr];cases ho:w.heap[r]? with
  | none=>exact λ_=>⟨rfl,λh=>by cases h⟩
  | some o =>
   cases o with
   | cells=>exact λ_=>⟨rfl,λh=>by cases h⟩
   | _=>exact (hk _ _ _ _ _ h).step (Z3 hr)
theorem Sound.setObj{r:Nat}{o:Obj}{k:Sem α}(hv:(∀a t,o≠.view a t)/\∀c t,o≠.pending c t)(hk:Sound P X k):Sound P X (Sem.setObj r o k):=.mk λn w u es h=>by
 simp only[Sem.runT];by_cases hr:X r
 .obtain⟨c,e,hw,hu⟩:=h.cov r hr;rw[hu];exact λ_=>⟨rfl,λh=>by cases h⟩
 .have hon:UY X n w u {w with heap:=w.heap.setIfInBounds r o} {u with heap:=u.heap.setIfInBounds r o}:=by
   refine h.turn dC dC (λb hb=>?_) (λb hb=>?_) (λb a t hx=>?_)
   .simp only[Array.getElem?_setIfInBounds,h.size,h.same b hb]
   .have a0:¬r=b:=λe=>hr (e ▸ hb);simp only[Array.getElem?_setIfInBounds,if_neg a0];exact h.cov b hb
   .simp only[Array.getElem?_setIfInBounds] at hx;split at hx
    .simp_all
    .exact h.pend b a t hx
  rw[h.same r hr];cases ho:w.heap[r]? with
  | none=>exact λ_=>⟨rfl,λh=>by cases h⟩
  | some x =>
   cases x with
   | cells=>exact λ_=>⟨rfl,λh=>by cases h⟩
   | _=>exact (hk _ _ _ _ hon.sim).on hon (Z3 hr)
theorem J0.draw{n:Nat}{w u:World}(h:J0 X (n+1) w u):J0 X n {w with drawn:=w.drawn+1} {u with drawn:=u.drawn+1} :=
 ⟨h.size,h.old,h.same,h.cov,h.pend,h.os,h.output,λi q hi=>by have:=h.tape (1+i) q oM;simp only[← Nat.add_assoc] at this;exact this⟩
theorem Sound.choose{q:Question}{k:Nat->Sem α}(hk:∀n,Sound P X (k n)):Sound P X (Sem.choose q k):=.mk λn w u es h=>by
 simp only[Sem.runT];split
 .exact hk _ _ _ _ _ h
 .cases n with
  | zero =>
   intro hd;exfalso
   have h1:=IZ P (k (q.cut (w.tape w.drawn q))) {w with drawn:=w.drawn+1} es;have h2:=IZ P (k (q.cut (u.tape u.drawn q))) {u with drawn:=u.drawn+1} es;simp only at h1 h2;omega
  | succ n =>
   have e:u.tape u.drawn q=w.tape w.drawn q:=h.tape 0 q oM;rw[e];exact Q5.after (k:=1) (w1:={w with drawn:=w.drawn+1}) (u1:={u with drawn:=u.drawn+1}) oM rfl rfl rfl rfl (hk _ n _ _ es h.draw) (λe he=>.inl he)
theorem Sound.program{k:Program->Sem α}(hk:Sound P X (k P)):Sound P X (Sem.program k):=.mk λn w u es h=>by
 simp only[Sem.runT];exact hk _ _ _ _ h
theorem Sound.room{k:Sem α}(hk:Sound P X k):Sound P X (Sem.mark .noRoom k):=.mk λn w u es h=>by
 simp only[Sem.runT];exact (hk _ _ _ _ h).step (Z3 trivial)
theorem Sound.extern{k:Sem α}(hk:Sound P X k):Sound P X (Sem.mark (.extern f) k):=.mk λn w u es h=>by
 simp only[Sem.runT];exact (hk _ _ _ _ h).step (Z3 trivial)
theorem Abi(os:Os):∃r os',Kernel.perform .env os=.done (r,os'):=⟨_,_,rfl⟩
theorem Sound.sysEnv{k:SysRet->Sem α}(hk:∀r,Sound P X (k r)):Sound P X (Sem.sys .env k):=.mk λn w u es h=>by
 simp only[Sem.runT];obtain⟨r,os',e⟩:=Abi w.os;have e':Kernel.perform .env u.os=.done (r,os'):=by rw[h.os];exact e
 have key:∀r w1 u1,w.sys .env=(r,w1)->u.sys .env=(r,u1)->J0 X n w1 u1->w1.tape=w.tape->u1.tape=u.tape->w1.drawn=w.drawn->u1.drawn=u.drawn->Q5 X n w u es ((k (w.sys .env).1).runT P (w.sys .env).2 (es.push ⟨.output,true,false⟩)) ((k (u.sys .env).1).runT P (u.sys .env).2 (es.push ⟨.output,true,false⟩)):=by
  intro r w1 u1 h1 h2 hs a b c d;rw[h1,h2];exact Q5.after (k:=0) (Nat.zero_le _) a b c d (hk r _ _ _ _ (by simpa using hs)) (Z3 trivial)
 by_cases hr:r=.wouldBlock
 .subst hr;exact key .wouldBlock w u (by simp[World.sys,World.ask,e]) (by simp[World.sys,World.ask,e']) h rfl rfl rfl rfl
 .exact key r {w with os:=os'} {u with os:=os'} (by cases r<;>first|exact absurd rfl hr|simp[World.sys,World.ask,e]) (by cases r<;>first|exact absurd rfl hr|simp[World.sys,World.ask,e']) ⟨h.size,h.old,h.same,h.cov,h.pend,rfl,h.output,h.tape⟩ rfl rfl rfl rfl
theorem Sound.bind{x:Sem α}{f:α->Sem β}(hx:Sound P X x)(hf:∀a,Sound P X (f a)):Sound P X (x >>= f):=.mk λn w u es h hd=>by
 have mono:∀v,Ik (x.runT P v es).1<=Ik ((x >>= f).runT P v es).1:=λv=>by
  show _<=Ik ((x.bind f).runT P v es).1
  rw[Sem.runT_bind'];match x.runT P v es with
  | (.ok a v1,e1)=>exact IZ P (f a) v1 e1
  | (.halt k v1,e1)=>exact A3 _
 have h1:=hx n w u es h (hd.imp (B4 (mono w)) (B4 (mono u)));revert hd
 show Q5 X n w u es ((x.bind f).runT P w es) ((x.bind f).runT P u es)
 rw[Sem.runT_bind',Sem.runT_bind'];generalize x.runT P u es=ru at h1;match ru,h1 with
 | (.ok a u',eu),⟨he,w',e,ho⟩ =>
  rw[e];obtain⟨k,hk,dw,du,hs⟩:=ho.drew;exact Q5.after hk ho.tw ho.tu dw du (hf a _ _ _ _ hs) he
 | (.halt k u',eu),⟨h0,hh⟩=>exact λ_=>⟨h0,λhf=>by obtain⟨he,w',e,ho⟩:=hh hf;rw[e];exact⟨he,w',rfl,ho⟩⟩
instance Sound.bindI {x:Sem α} {f:α->Sem β} [Sound P X x] [∀a,Sound P X (f a)]:Sound P X (x >>= f):=Sound.bind inferInstance λ_=>inferInstance
end
section
variable {P:Program} {X:Nat->Prop} {α β:Type}
theorem G8{f:Program->Sem α}(h:Sound P X (f P)):Sound P X (program >>= f):=Sound.program h
theorem AcX{x:Sem α}{f:α->β}(h:Sound P X x):Sound P X (f <$> x):=Sound.bind h (λ_=>Sound.pure' _)
instance s_choose (q:Question):Sound P X (choose q):=Sound.choose (λ_=>Sound.pure _)
instance s_load (a:Addr) (m:Mode):Sound P X (load a m):=Sound.load (λ_=>Sound.pure _)
instance s_store (a:Addr) (v:Value) (m:Mode):Sound P X (store a v m):=Sound.store (Sound.pure _)
theorem X8(u:Unsupported)(h:Ca (.unsupported u)=false):Sound P X (unsupported u:Sem α):=Sound.halt _ h
theorem au{s:Sem α}(h:Sound P X s:=by repeat' first|(with_reducible first|infer_instance|exact Sound.halt _|refine G8 ?_|refine Sound.bind ?_ (λ_=>?_))|((with_reducible refine X8 _ ?_)<;>rfl)|(dsimp only)|split):Sound P X s:=h
instance s_stuck (s:String):Sound P X (stuck s:Sem α):=Sound.halt _
instance s_info (t:TypeId):Sound P X (typeInfo t):=by
 unfold typeInfo;refine G8 ?_;split<;>first|exact Sound.pure' _|exact Sound.halt _
instance s_und (t:TypeId):Sound P X (underlying t):=by
 unfold underlying;refine G8 ?_;split<;>first|exact Sound.pure' _|exact Sound.halt _
instance s_size (t:TypeId):Sound P X (sizeOf t):=Sound.bind (s_info t) (λ_=>Sound.pure' _)
instance s_zero (t:TypeId):Sound P X (zeroValue t):=by
 unfold zeroValue;refine Sound.bind (s_info t) (λ_=>?_);split<;>first|exact Sound.pure' _|exact Sound.halt _
instance s_agg (t:TypeId):Sound P X (isAgg t):=by
 unfold isAgg;refine Sound.bind (s_und t) (λ_=>?_);split<;>exact Sound.pure' _
instance s_loadsFrom (a:Addr):∀(n i:Nat)(acc:Array Value),Sound P X (loadCellsFrom a i n acc)
 | 0,_,_=>Sound.pure' _
 | n+1,i,_=>Sound.bind (Sound.load (λ_=>Sound.pure _)) (λ_=>s_loadsFrom a n (i+1) _)
instance s_loads (a) (n:Nat):Sound P X (loadCells a n):=s_loadsFrom a n 0 _
instance s_stores (a:Addr):∀(vs:List Value)(i:Nat),Sound P X (storeCells a vs i)
 | [],_=>Sound.pure' _
 | _::vs,i=>Sound.bind (Sound.store (Sound.pure _)) (λ_=>s_stores a vs (i+1))
instance s_loadVar (t:TypeId) (a:Addr):Sound P X (loadVar t a):=by
 unfold loadVar;refine Sound.bind (s_agg t) (λb=>?_);split
 .exact Sound.bind (s_size t) (λn=>Sound.bind (s_loads a n) (λ_=>Sound.pure' _))
 .exact Sound.load (λ_=>Sound.pure _)
instance s_storeVar (t:TypeId) (a:Addr) (v:Value):Sound P X (storeVar t a v):=by
 unfold storeVar;refine Sound.bind (s_size t) (λn=>?_);split
 .exact Sound.bind (Sound.halt _) (λ_=>s_stores a _ _)
 .exact s_stores a _ _
instance s_row (t:TypeId) (cs:Array Value):Sound P X (newRow t cs):=Sound.bind (Sound.new dC (λ_=>Sound.pure _)) (λ_=>Sound.pure' _)
instance s_var (t) (v):Sound P X (newVar t v):=s_row t _
instance s_elem (t:TypeId):Sound P X (elemOf t):=by
 unfold elemOf;refine Sound.bind (s_und t) (λ_=>?_);split<;>first|exact Sound.pure' _|exact Sound.halt _
instance s_part (t:TypeId) (cs:Array Value) (off:Nat):Sound P X (part t cs off):=by
 unfold part;refine Sound.bind (s_agg t) (λb=>?_);split
 .exact Sound.bind (s_size t) (λ_=>Sound.pure' _)
 .split<;>first|exact Sound.pure' _|exact Sound.halt _
instance s_panic (e:RuntimeError):Sound P X (runtimePanic e:Sem α):=by
 unfold runtimePanic;refine G8 ?_;cases e with
 | typeAssertion i c a m=>exact Sound.bind (s_elem _) (λt=>Sound.bind (s_var t _) (λ_=>Sound.halt _))
 | panicNil=>exact Sound.bind (s_elem _) (λt=>Sound.bind (s_var t _) (λ_=>Sound.halt _))
 | _=>exact Sound.halt _
instance s_bounds (k:IntKind) (x y:Int) (c:BoundsCode):Sound P X (boundsPanic k x y c:Sem α):=by
 unfold boundsPanic;dsimp only
 split
 .exact Sound.bind (AcX (Sound.choose (λ_=>Sound.pure _))) (λ_=>s_panic _)
 .exact Sound.bind (Sound.pure' _) (λ_=>s_panic _)
instance s_intOf (v:Value):Sound P X (asIntOf v):=by unfold asIntOf;split<;>first|exact Sound.pure' _|exact Sound.halt _
instance s_int (v:Value):Sound P X (asInt v):=Sound.bind (s_intOf v) (λ_=>Sound.pure' _)
instance s_bool (v:Value):Sound P X (asBool v):=by unfold asBool;split<;>first|exact Sound.pure' _|exact Sound.halt _
instance s_str (v:Value):Sound P X (asString v):=by unfold asString;split<;>first|exact Sound.pure' _|exact Sound.halt _
instance s_asAgg (v:Value):Sound P X (asAgg v):=by unfold asAgg;split<;>first|exact Sound.pure' _|exact Sound.halt _
instance s_addr (v:Value):Sound P X (asAddr v):=by unfold asAddr;split<;>first|exact Sound.pure' _|exact Sound.halt _|exact s_panic _
instance s_sure (v:Value):Sound P X (Instr.sureAddr v):=by unfold Instr.sureAddr;split<;>first|exact Sound.pure' _|exact Sound.halt _
instance s_room (n:Nat):Sound P X (askRoom n):=by unfold askRoom;split<;>first|exact Sound.room (Sound.pure _)|exact Sound.pure' _
theorem YR{γ:Type}{f:γ->Sem β}(hf:∀x,Sound P X (f x))(xs:Array γ):Sound P X (xs.mapM f):=by
 rw[Array.mapM_eq_mapM_toList];refine AcX ?_;induction xs.toList with
 | nil=>exact Sound.pure' _
 | cons x l ih =>
  rw[List.mapM_cons];exact Sound.bind (hf x) (λ_=>Sound.bind ih (λ_=>Sound.pure' _))
instance s_alloc (t:TypeId) (b:Bool) (v:Value):Sound P X (Instr.alloc t b v):=by
 unfold Instr.alloc;refine Sound.bind (s_zero t) (λz=>?_);split
 .exact Sound.bind (s_storeVar _ _ _) (λ_=>Sound.pure' _)
 .exact Sound.bind (s_var _ _) (λ_=>Sound.pure' _)
instance s_box (t:TypeId) (v:Value):Sound P X (Instr.box t v):=Sound.bind (s_var t v) (λ_=>Sound.pure' _)
instance s_loadAt (t:TypeId) (v:Value):Sound P X (Instr.loadAt t v):=Sound.bind (s_sure v) (λ_=>s_loadVar t _)
instance s_storeAt (t:TypeId) (a v:Value):Sound P X (Instr.storeAt t a v):=Sound.bind (s_sure a) (λ_=>s_storeVar t _ v)
instance s_field (t:TypeId) (v:Value) (f:Nat):Sound P X (Instr.field t v f):=by
 unfold Instr.field;exact au
instance s_index (t:TypeId) (v i:Value):Sound P X (Instr.index t v i):=by
 unfold Instr.index;exact au
instance s_indexAt (t:TypeId) (v i:Value):Sound P X (Instr.indexAt t v i):=by
 unfold Instr.indexAt;exact au
instance s_build (t:TypeId) (ps:Array (Nat×Value)):Sound P X (Instr.build t ps):=by
 unfold Instr.build;refine Sound.bind (s_zero t) (λz=>Sound.bind (s_und t) (λd=>?_));split
 .refine Sound.bind (YR (λf=>Sound.bind (s_size _) (λ_=>Sound.pure' _)) _) (λpl=>?_);exact au
 .exact au
 .exact au
instance s_buildSlice (t:TypeId) (n:Nat) (ps:Array (Nat×Value)):Sound P X (Instr.buildSlice t n ps):=by
 unfold Instr.buildSlice;exact au
instance s_extract (v:Value) (i:Nat):Sound P X (Instr.extract v i):=by
 unfold Instr.extract;exact au
instance s_makeFunc (fn:Fn) (a b:Array Value):Sound P X (Instr.makeFunc fn a b):=Sound.pure' _
instance s_makeInterface (t:TypeId) (v:Value):Sound P X (Instr.makeInterface t v):=by
 unfold Instr.makeInterface;exact au
instance s_makeMap (t:TypeId) (v:Option Value):Sound P X (Instr.makeMap t v):=by
 unfold Instr.makeMap;have hn:Sound P X (do pure (.map (some (← newObj (.map #[] 0)))):Sem Value):=Sound.bind (Sound.new dC (λ_=>Sound.pure _)) (λ_=>Sound.pure' _);exact au
instance s_makeSlice (t:TypeId) (a b:Value):Sound P X (Instr.makeSlice t a b):=by
 unfold Instr.makeSlice;exact au
end
section
variable {P:Program} {X:Nat->Prop} {α β:Type}
instance s_getObj (r:Nat):Sound P X (getObj r):=Sound.getObj (λ_=>Sound.pure _)
instance s_frozen (a:Addr):Sound P X (frozen a):=Sound.frozen (λ_=>Sound.pure _)
theorem MD(r:Nat){o:Obj}(h:(∀a t,o≠.view a t)/\∀c t,o≠.pending c t):Sound P X (setObj r o):=Sound.setObj h (Sound.pure _)
def QX(P:Program)(s:Sem α):Prop:=∀w es,∃h u eu,s.runT P w es=(.halt h u,eu)/\free h=true
theorem QX.alike{s:Sem α}(h:QX P s)(n:Nat)(w0 u0 u:World)(es:Array Event)(rw:Result α×Array Event):Q5 X n w0 u0 es rw (s.runT P u es):=by
 intro _;obtain⟨h,u',eu,e,hp⟩:=h u es;rw[e];refine⟨?_,λhf=>by rw[hp] at hf;cases hf⟩;cases h<;>first|rfl|(done)|(rename_i x;cases x<;>first|rfl|cases hp)
theorem Sound.shape2{r:Nat}{k:Option (TypeId×Nat)->Sem α}(hb:∀t n,k (some (t,n))=k (some (t,0))\/QX P (k (some (t,0))))(hk:∀o,Sound P X (k o)):Sound P X (Sem.shape r k):=.mk λn w u es h=>by
 simp only[Sem.runT];by_cases hr:X r
 .obtain⟨c,e,hw,hu⟩:=h.cov r hr;simp only[World.shape?,hw,hu];rcases hb e c.size with h1|h1
  .rw[h1];exact hk _ _ _ _ _ h
  .exact h1.alike _ _ _ _ _ _
 .simp only[World.shape?,h.same r hr];exact hk _ _ _ _ _ h
theorem Fy{r:Nat}{f:Option (TypeId×Nat)->Sem α}(hb:∀t n,f (some (t,n))=f (some (t,0))\/QX P (f (some (t,0))))(hk:∀o,Sound P X (f o)):Sound P X (shape r >>= f):=Sound.shape2 hb hk
instance s_viewAt (r:Nat):Sound P X (viewAt r):=by
 unfold viewAt;refine Fy (λt n=>.inl rfl) (λo=>?_);split
 .exact Sound.pure' _
 .refine Sound.bind (s_getObj r) (λ_=>?_);split<;>exact Sound.pure' _
instance s_numberAt (r:Nat):Sound P X (numberAt r):=by
 unfold numberAt;refine Fy (λt n=>.inl rfl) (λo=>?_);split
 .exact Sound.pure' _
 .refine Sound.bind (s_getObj r) (λ_=>?_);split<;>exact Sound.pure' _
instance s_noView (a:Addr):Sound P X (noView a):=by
 unfold noView;refine Sound.bind (s_viewAt _) (λ_=>?_);split<;>first|exact Sound.halt _|exact Sound.pure' _
instance s_behind (n:Addr):Sound P X (behindNumber n):=Sound.bind (s_numberAt _) (λ_=>Sound.pure' _)
instance s_byteOf (a:Addr):Sound P X (byteOf a):=by
 unfold byteOf;dsimp only
 split
 .exact Sound.pure' _
 .refine G8 (Sound.bind (s_noView a) (λ_=>Fy (λt n=>.inl rfl) (λo=>?_)));exact au
instance s_partAt (a:Addr) (c b:Nat):Sound P X (partAt a c b):=by
 unfold partAt;exact Sound.bind (s_byteOf _) (λ_=>Sound.bind (s_byteOf _) (λ_=>Sound.pure' _))
instance s_fieldPlace (a:Addr) (f:Field):Sound P X (fieldPlace a f):=by
 unfold fieldPlace;refine Sound.bind (s_size _) (λ_=>?_);split
 .exact s_partAt _ _ _
 .exact Sound.pure' _
instance s_fieldAt (t:TypeId) (v:Value) (f:Nat):Sound P X (Instr.fieldAt t v f):=by
 unfold Instr.fieldAt;exact au
instance s_sliceBound (x:Value) (y:Nat) (c:BoundsCode):Sound P X (Instr.sliceBound x y c):=by
 unfold Instr.sliceBound;exact au
instance s_sliceBounds (b:Bool) (n c:Nat) (l h m:Option Value):Sound P X (Instr.sliceBounds b n c l h m):=by
 unfold Instr.sliceBounds;exact au
instance s_slice (t:TypeId) (x:Value) (l h m:Option Value):Sound P X (Instr.slice t x l h m):=by
 unfold Instr.slice;exact au
instance s_sliceAt (t:TypeId) (x:Value) (l h m:Option Value):Sound P X (Instr.sliceAt t x l h m):=by
 unfold Instr.sliceAt;exact au
instance s_range (t:TypeId) (x:Value):Sound P X (Instr.range t x):=by
 have hn:∀(o:Obj),((∀a t,o≠.view a t)/\∀c t,o≠.pending c t)->Sound P X (do pure (Pz (← newObj o) 0):Sem Value):=λo ho=>Sound.bind (Sound.new ho (λ_=>Sound.pure _)) (λ_=>Sound.pure' _);unfold Instr.range;refine Sound.bind (s_und t) (λd=>?_);dsimp only
 split
 iterate 2 .exact hn _ dC
 .refine Sound.bind (s_getObj _) (λo=>?_);split
  .exact hn _ dC
  .exact Sound.halt _
 .exact Sound.halt _
instance s_next (v:Value) (b:Bool) (t:TypeId):Sound P X (Instr.next v b t):=by
 unfold Instr.next;repeat' first|(with_reducible first|infer_instance|exact Sound.halt _|refine G8 ?_|refine Sound.bind ?_ (λ_=>?_))|exact MD _ dC|((with_reducible refine X8 _ ?_)<;>rfl)|(dsimp only)|split
instance s_len (a:Array TypeId) (t:TypeId) (v:Array Value):Sound P X (Builtin.len_ a t v):=by
 unfold Builtin.len_;exact au
instance s_lenOf (v:Value):Sound P X (Builtin.lenOf v):=by
 unfold Builtin.lenOf;split<;>first|exact Sound.pure' _|exact Sound.halt _
instance s_firstCells (s n:Nat) (v:Value):Sound P X (Builtin.firstCells s n v):=by
 unfold Builtin.firstCells;split<;>first|exact s_loads _ _|exact Sound.pure' _|exact Sound.halt _
instance s_copy (a:Array TypeId) (t:TypeId) (v:Array Value):Sound P X (Builtin.copy_ a t v):=by
 unfold Builtin.copy_;exact au
end
section
variable {P:Program} {X:Nat->Prop} {α β:Type}
theorem Kd{γ σ:Type}{f:γ->σ->Sem (ForInStep σ)}(hf:∀x s,Sound P X (f x s)):∀(l:List γ)(i:σ),Sound P X (forIn l i f)
 | [],i=>by rw[List.forIn_nil];exact Sound.pure' _
 | x::l,i=>by
  rw[List.forIn_cons];refine Sound.bind (hf x i) (λr=>?_);cases r with
  | done s=>exact Sound.pure' _
  | yield s=>exact Kd hf l s
theorem Jc{γ σ:Type}{f:γ->σ->Sem (ForInStep σ)}(hf:∀x s,Sound P X (f x s))(xs:Array γ)(i:σ):Sound P X (forIn xs i f):=by
 rw[← Array.forIn_toList];exact Kd hf _ _
theorem Jd{σ:Type}{f:Nat->σ->Sem (ForInStep σ)}(hf:∀x s,Sound P X (f x s))(r:Std.Legacy.Range)(i:σ):Sound P X (forIn r i f):=by
 rw[Std.Legacy.Range.forIn_eq_forIn_range'];exact Kd hf _ _
def sg(w:World)(a:Addr):Bool:=w.frozen? a || (match w.shape? a.block with|some (_,n)=>w.frozen? {block:=a.block,off:=n}|none=>false)
def nn(w:World)(a:Addr):Bool:=match w.shape? a.block with|some (_,0)=>true|_=>false
theorem JN(w:World)(a:Addr)(es:Array Event):(stringish a).runT P w es=(.ok (sg w a) w,es):=by
 unfold stringish;show ((frozen a).bind _).runT P w es=_
 rw[Sem.runT_bind'];have e:(frozen a).runT P w es=(.ok (w.frozen? a) w,es):=rfl;rw[e];cases hf:w.frozen? a with
 | true=>simp only[sg,hf,Bool.true_or];rfl
 | false =>
  simp only[sg,hf,Bool.false_eq_true];show ((shape a.block).bind _).runT P w es=_
  rw[Sem.runT_bind'];have e2:(shape a.block).runT P w es=(.ok _ w,es):=rfl;rw[e2];cases hs:w.shape? a.block with
  | none=>rfl
  | some o=>rfl
theorem J0.sgX{n:Nat}{w u:World}(h:J0 X n w u){a:Addr}(ha:X a.block):sg u a=false/\sg w a=false:=by
 obtain⟨c,e,hw,hu⟩:=h.cov _ ha;constructor<;>simp[sg,World.frozen?,World.shape?,hw,hu]
theorem J0.sg{n:Nat}{w u:World}(h:J0 X n w u)(a:Addr):sg u a=sg w a:=by
 by_cases ha:X a.block
 .rw[(h.sgX ha).1,(h.sgX ha).2]
 .simp only[Go.Proofs.YtaffjphkobhagaaGreatDoor.sg,World.frozen?,World.shape?,h.same _ ha]
theorem Ke(w:World)(a b:Addr)(es:Array Event):(mayBeOne a b).runT P w es=(.ok ((sg w a&&sg w b) || (sg w a&&nn w a) || (sg w b&&nn w b)) w,es):=by
 unfold mayBeOne;dsimp only
 show ((stringish a).bind _).runT P w es=_
 rw[Sem.runT_bind',JN];show ((stringish b).bind _).runT P w es=_
 rw[Sem.runT_bind',JN];show ((Sem.bind _ _).bind _).runT P w es=_
 simp only[Sem.runT_bind'];have e2:∀r,(shape r).runT P w es=_:=λ_=>rfl;rw[e2];show ((Sem.bind (Sem.bind _ _) _).runT P w es)=_
 simp only[Sem.runT_bind'];rw[e2];rfl
instance s_mayBeOne (a b:Addr):Sound P X (mayBeOne a b):=.mk λn w u es h=>by
 rw[Ke,Ke];refine λ_=>⟨λe he=>.inl he,w,?_,On.refl h⟩
 have hn:∀x,(Go.Proofs.YtaffjphkobhagaaGreatDoor.sg u x&&nn u x)=(Go.Proofs.YtaffjphkobhagaaGreatDoor.sg w x&&nn w x):=λx=>by
  by_cases hx:X x.block
  .rw[(h.sgX hx).1,(h.sgX hx).2];rfl
  .rw[h.sg x];simp[nn,World.shape?,h.same _ hx]
 rw[← h.sg a,← h.sg b,hn a,hn b,h.sg a,h.sg b]
instance s_sameAddr (a b:Addr):Sound P X (sameAddr a b):=by
 unfold sameAddr;exact au
instance s_samePointer (a b:Option Addr):Sound P X (samePointer a b):=by
 unfold samePointer;split<;>first|exact s_sameAddr _ _|exact Sound.pure' _
instance s_typeStr (t:TypeId):Sound P X (typeStr t):=by
 unfold typeStr;exact au
instance s_equalIn:∀(d:Nat)(t:TypeId)(x y:Value),Sound P X (Op.equalIn d t x y)
 | 0,_,_,_=>Sound.halt _
 | d+1,t,x,y=>by
  have ih:=λt x y=>s_equalIn d t x y;unfold Op.equalIn;refine Sound.bind (s_und t) (λu=>?_);split<;>repeat' first|(with_reducible first|infer_instance|exact Sound.halt _|refine G8 ?_|refine Sound.bind ?_ (λ_=>?_)|refine Jc (λ_ _=>?_) _ _|refine Jd (λ_ _=>?_) _ _)|((with_reducible refine X8 _ ?_)<;>rfl)|(dsimp only)|split
instance s_equal (t:TypeId) (x y:Value):Sound P X (Op.equal t x y):=s_equalIn _ _ _ _
end
section
variable {P:Program} {X:Nat->Prop} {α β:Type}
instance s_eqGuardIn:∀(d:Nat)(t:TypeId)(x y:Value),Sound P X (Op.eqGuardIn d t x y)
 | 0,_,_,_=>Sound.halt _
 | d+1,t,x,y=>by
  have ih:=λt x y=>s_eqGuardIn d t x y;unfold Op.eqGuardIn;refine Sound.bind (s_und t) (λu=>?_);split<;>repeat' first|(with_reducible first|infer_instance|exact Sound.halt _|refine G8 ?_|refine Sound.bind ?_ (λ_=>?_)|refine Jc (λ_ _=>?_) _ _|refine Jd (λ_ _=>?_) _ _)|((with_reducible refine X8 _ ?_)<;>rfl)|(dsimp only)|split
instance s_eqGuard (op:BinOp) (t:TypeId) (x y) (a b:Value):Sound P X (eqGuard op t x y a b):=by
 unfold eqGuard;exact au
instance s_checkKey (e:Bool):∀(d:Nat)(t:TypeId)(v:Value),Sound P X (Instr.checkKey e d t v)
 | 0,_,_=>Sound.halt _
 | d+1,t,v=>by
  have ih:=λt v=>s_checkKey e d t v;unfold Instr.checkKey;refine Sound.bind (s_und t) (λu=>?_);split<;>repeat' first|(with_reducible first|infer_instance|exact Sound.halt _|refine G8 ?_|refine Sound.bind ?_ (λ_=>?_)|refine Jc (λ_ _=>?_) _ _|refine Jd (λ_ _=>?_) _ _)|((with_reducible refine X8 _ ?_)<;>rfl)|(dsimp only)|split
instance s_findAsking (t:TypeId) (k:Value):∀(es:List MapEntry)(i:Nat),Sound P X (Instr.findAsking t k es i)
 | [],_=>Sound.pure' _
 | e::es,i=>by
  unfold Instr.findAsking;refine Sound.bind (s_equal _ _ _) (λb=>?_);split
  .exact Sound.pure' _
  .exact s_findAsking t k es _
instance s_findKey (t:TypeId) (k:Value) (es:List MapEntry):Sound P X (Instr.findKey t k es):=by
 unfold Instr.findKey;refine Sound.bind (s_und t) (λu=>?_);split
 .exact Sound.pure' _
 .exact s_findAsking _ _ _ _
instance s_lookup (t:TypeId) (x i:Value) (ok:Bool):Sound P X (Instr.lookup t x i ok):=by
 unfold Instr.lookup;exact au
instance s_keyThatStays (a b:Value):Sound P X (Instr.keyThatStays a b):=by
 unfold Instr.keyThatStays;exact au
instance s_mapUpdate (t:TypeId) (m k v:Value):Sound P X (Instr.mapUpdate t m k v):=by
 unfold Instr.mapUpdate;repeat' first|(with_reducible first|infer_instance|exact Sound.halt _|refine G8 ?_|refine Sound.bind ?_ (λ_=>?_))|exact MD _ dC|((with_reducible refine X8 _ ?_)<;>rfl)|(dsimp only)|split
instance s_intArith (op:BinOp) (k:IntKind) (x y:Int):Sound P X (Op.intArith op k x y):=by
 unfold Op.intArith;split<;>first|exact Sound.pure' _|exact Sound.halt _
instance s_intDiv (op:BinOp) (k:IntKind) (x y:Int):Sound P X (Op.intDiv op k x y):=by
 unfold Op.intDiv;split
 .exact s_panic _
 .split<;>first|exact Sound.pure' _|exact Sound.halt _
instance s_intBits (op:BinOp) (k:IntKind) (x y:Int):Sound P X (Op.intBits op k x y):=by
 unfold Op.intBits;dsimp only
 split<;>first|exact Sound.pure' _|exact Sound.halt _
instance s_shift (op:BinOp) (k:IntKind) (x:Int) (yk:IntKind) (y:Int):Sound P X (Op.shift op k x yk y):=by
 unfold Op.shift;split
 .exact s_panic _
 .dsimp only
  split<;>first|exact Sound.pure' _|exact Sound.halt _
instance s_intCmp (op:BinOp) (x y:Int):Sound P X (Op.intCmp op x y):=by
 unfold Op.intCmp;split<;>first|exact Sound.pure' _|exact Sound.halt _
instance s_stringOp (op:BinOp) (x y:BA):Sound P X (Op.stringOp op x y):=by
 unfold Op.stringOp;dsimp only
 split<;>(try split)<;>first|exact Sound.pure' _|exact Sound.halt _
instance s_floatArith (op:BinOp) (k:FloatKind) (x y):Sound P X (Op.floatArith op k x y):=by
 unfold Op.floatArith;exact au
instance s_floatCmp (op:BinOp) (k:FloatKind) (x y:Nat):Sound P X (Op.floatCmp op k x y):=by
 unfold Op.floatCmp;dsimp only
 split<;>first|exact Sound.pure' _|exact Sound.halt _
instance s_unary (op:UnOp) (x:Value):Sound P X (Op.unary op x):=by
 unfold Op.unary;split<;>first|exact s_intArith _ _ _ _|exact s_intBits _ _ _ _|exact Sound.pure' _|exact Sound.halt _
theorem Ae(u:Unsupported)(f:α->Sem β)(h:Ca (.unsupported u)=false):Sound P X (unsupported u >>= f):=Sound.halt _ h
theorem AN{s:Sem α}(h:Sound P X s:=by repeat' first|(with_reducible first|infer_instance|exact Sound.halt _|refine G8 ?_|refine Sound.bind ?_ (λ_=>?_))|((with_reducible refine X8 _ ?_)<;>rfl)|((with_reducible refine Ae _ _ ?_)<;>rfl)|(dsimp only)|split):Sound P X s:=h
instance s_stuckB (s:String) (f:α->Sem β):Sound P X (stuck s >>= f):=Sound.halt _
theorem YS(u:Unsupported)(h:free (.unsupported u)=true:=by rfl):QX P (unsupported u:Sem α):=λw es=>⟨_,w,es,rfl,h⟩
theorem AhY(p:Program)(d:Nat)(e:TypeId)(m off:Nat)(n:Int):cellAtBytes p d e (0 / m) off n=none:=by
 unfold cellAtBytes;simp only[Nat.zero_div,Nat.zero_mul];split
 .rfl
 .cases byteOfCell p d e (off % p.cellsOf e) with
  | none=>rfl
  | some here =>
   simp only[Option.bind_eq_bind,Option.bind_some];split
   .rfl
   .rename_i h;exfalso
    apply h
    simp only[Bool.or_eq_true,decide_eq_true_eq];have h0:Int.ofNat 0=0:=rfl;rw[h0];omega
instance s_unsafeAdd (t:TypeId) (x y:Value):Sound P X (Builtin.unsafeAdd_ #[] t #[x,y]):=by
 cases x with
 | pointer ptr =>
  unfold Builtin.unsafeAdd_;dsimp only
  have hm:∀n:Int,Sound P X (match ptr with
     | some a=>do
      let __x ← shape a.block
      match __x with
       | some (e,cells)=>do
        let p ← program
        match cellAtBytes p p.depth e (cells / p.cellsOf e) a.off n with
         | some off=>pure (Value.pointer (some {block:=a.block,off:=off,spot:=a.spot}))
         | none=>unsupported (Unsupported.unsafePointer "Add")
       | _=>unsupported (Unsupported.unsafePointer "Add")
     | _=>unsupported (Unsupported.unsafePointer "Add")):=λn=>by
   split
   .refine Fy (λt k=>.inr ?_) (λo=>?_)
    .show QX P (program >>= λp=>_)
     intro w es;show ∃h u eu,(Sem.runT P (match cellAtBytes P P.depth t (0 / P.cellsOf t) _ n with|some off=>_|none=>_) w es)=_/\_
     rw[AhY];exact YS _ rfl w es
    .exact AN
   .exact Sound.halt _
  refine Sound.bind (s_int _) (λn=>?_);split
  .cases ptr with
   | none=>exact Ae _ _ rfl
   | some a =>
    refine Sound.bind (s_viewAt _) (λ_=>?_);split
    .exact Ae _ _ rfl
    .exact Sound.pure' _
  .split
   .exact Sound.bind (Sound.halt _) (λ_=>hm n)
   .exact hm n
 | _=>exact Sound.halt _
instance s_asNumber (a:Addr) (l:Bool):Sound P X (asNumber a l):=Sound.bind (Sound.new dC (λ_=>Sound.pure _)) (λ_=>Sound.pure' _)
instance s_movedNumber (t:TypeId) (x y:Value):Sound P X (movedNumber t x y):=by
 unfold movedNumber;exact AN
instance s_movedPointer (t:TypeId) (x y:Value):Sound P X (movedPointer t x y):=by
 unfold movedPointer;exact AN
instance s_twoPlaces (a b:Addr):Sound P X (Op.twoPlaces a b):=by
 unfold Op.twoPlaces;exact AN
instance s_addrSub (k:IntKind) (a b:Addr):Sound P X (Op.addrSub k a b):=Sound.bind (s_twoPlaces a b) (λ_=>Sound.pure' _)
instance s_addrCmp (op:BinOp) (a b:Addr):Sound P X (Op.addrCmp op a b):=by
 unfold Op.addrCmp;exact AN
instance s_addrMod (k:IntKind) (a:Addr) (n:Int):Sound P X (Op.addrMod k a n):=by
 unfold Op.addrMod;refine Fy (λt k=>.inl rfl) (λo=>?_);exact AN
instance s_floatToFloat (s:FloatKind) (b:Nat) (d:FloatKind):Sound P X (Conv.floatToFloat s b d):=by
 unfold Conv.floatToFloat;exact AN
instance s_cArith (op:BinOp) (k:FloatKind) (x y:Nat):Sound P X (Op.Complex.arith op k x y):=by
 unfold Op.Complex.arith;exact AN
instance s_cCmp (op:BinOp) (k:FloatKind) (x y:Nat):Sound P X (Op.Complex.cmp op k x y):=Sound.bind (s_floatCmp _ _ _ _) (λ_=>s_bool _)
instance s_cConv (a:FloatKind) (x:Nat) (b:FloatKind):Sound P X (Op.Complex.conv a x b):=by
 unfold Op.Complex.conv;exact AN
instance s_complexOp (op:BinOp) (k:FloatKind) (a b c d:Nat):Sound P X (Op.complexOp op k a b c d):=by
 have h1:∀x y,Sound P X (Op.Complex.add x y):=λ_ _=>s_cArith _ _ _ _;have h2:∀x y,Sound P X (Op.Complex.sub x y):=λ_ _=>s_cArith _ _ _ _;have h3:∀x y,Sound P X (Op.Complex.mul x y):=λ_ _=>s_cArith _ _ _ _;have h4:∀x y,Sound P X (Op.Complex.quo x y):=λ_ _=>s_cArith _ _ _ _
 have h5:∀a b c d,Sound P X (Op.Complex.product a b c d):=λa b c d=>by
  unfold Op.Complex.product;exact AN
 have h6:∀s a b c d,Sound P X (Op.Complex.corrected s a b c d):=λs a b c d=>by
  unfold Op.Complex.corrected;exact AN
 have h7:∀a b c d,Sound P X (Op.Complex.quotient a b c d):=λa b c d=>by
  unfold Op.Complex.quotient;exact AN
 unfold Op.complexOp;exact AN
instance s_binOp (op:BinOp) (t:TypeId) (x y:Value):Sound P X (binOp op t x y):=by
 unfold binOp;split<;>exact AN
theorem OS(a:Addr)(n:Nat)(w:World)(es:Array Event):∃b,(Builtin.holdsCells a n).runT P w es=(.ok b w,es):=by
 unfold Builtin.holdsCells;show ∃b,((shape a.block).bind _).runT P w es=_
 rw[Sem.runT_bind'];have e2:∀r,(shape r).runT P w es=(.ok (w.shape? r) w,es):=λ_=>rfl;rw[e2];cases w.shape? a.block with
 | none=>exact⟨_,rfl⟩
 | some o=>exact⟨_,rfl⟩
theorem QY(s l n:Nat)(base:Option Addr)(x:Value)(w:World)(es:Array Event):∃b,(Builtin.mayShare s l n base x).runT P w es=(.ok b w,es):=by
 have e2:∀a,(frozen a).runT P w es=(.ok (w.frozen? a) w,es):=λ_=>rfl
 have hx:∀there:Bool,∃b,((if (!there)=true then Pure.pure true else match x with
   | .slice (some b) _ _=>do pure (!(← Builtin.holdsCells b (n*s)) || base.any (·.block==b.block))
   | _=>pure false:Sem Bool)).runT P w es=(.ok b w,es):=λthere=>by
  split
  .exact⟨_,rfl⟩
  .split
   .rename_i q _ _;obtain⟨b,hb⟩:=OS (P:=P) q (n*s) w es;refine⟨(!b || base.any (·.block==q.block)),?_⟩;show ((Builtin.holdsCells _ _).bind _).runT P w es=_
    rw[Sem.runT_bind',hb];rfl
   .exact⟨_,rfl⟩
 unfold Builtin.mayShare;dsimp only
 cases base with
 | none=>exact hx true
 | some a =>
  obtain⟨b,hb⟩:=OS (P:=P) a (l*s) w es;show ∃b,((Builtin.holdsCells _ _).bind _).runT P w es=_
  rw[Sem.runT_bind',hb];show ∃b,((frozen _).bind _).runT P w es=_
  rw[Sem.runT_bind',e2];exact hx _
theorem Abj(s l n:Nat)(base:Option Addr)(x:Value)(u:Unsupported)(hu:free (.unsupported u)=true):Sound P X (Builtin.mayShare s l n base x >>= λb=>if (!b)=true then (mark .noRoom >>= λ_=>(unsupported u:Sem α)) else unsupported u):=by
 have hi:QX P (Builtin.mayShare s l n base x >>= λb=>if (!b)=true then (mark .noRoom >>= λ_=>(unsupported u:Sem α)) else unsupported u):=λw es=>by
  obtain⟨b,hb⟩:=QY (P:=P) s l n base x w es;show ∃h v ev,((Builtin.mayShare s l n base x).bind _).runT P w es=_/\_
  rw[Sem.runT_bind',hb];cases b
  iterate 2 .exact⟨_,w,_,rfl,hu⟩
 exact .mk λn w u es _=>hi.alike _ _ _ _ _ _
theorem AgR{c:Prop}[Decidable c]{a b:Sem α}(ha:Sound P X a)(hb:Sound P X b):Sound P X (if c then a else b):=by
 split<;>assumption
instance s_append (a:Array TypeId) (t:TypeId) (v:Array Value):Sound P X (Builtin.append_ a t v):=by
 unfold Builtin.append_;repeat' first|((with_reducible refine Abj _ _ _ _ _ _ ?_)<;>rfl)|((with_reducible refine Ae _ _ ?_)<;>rfl)|(with_reducible first|infer_instance|exact Sound.halt _|refine AgR ?_ ?_|refine G8 ?_|refine Sound.bind ?_ (λ_=>?_))|((with_reducible refine X8 _ ?_)<;>rfl)|(dsimp only)|split
end
section
variable {P:Program} {X:Nat->Prop} {α β:Type}
theorem DC{t:TypeId}{d:TypeDesc}{f:TypeDesc->Sem α}(h:P.underlying t=some d)(hf:Sound P X (f d)):Sound P X (underlying t >>= f):=by
 refine Sound.program ?_;show Sound P X (Sem.bind (match P.underlying t with|some d=>Pure.pure d|none=>stuck "no such type") f)
 rw[h];exact hf
instance s_mapEntry (t:TypeId) (m k:Value):Sound P X (Instr.mapEntry t m k):=by
 unfold Instr.mapEntry;repeat' first|(with_reducible first|infer_instance|exact Sound.halt _|refine G8 ?_|refine Sound.bind ?_ (λ_=>?_))|exact MD _ dC|((with_reducible refine X8 _ ?_)<;>rfl)|((with_reducible refine Ae _ _ ?_)<;>rfl)|(dsimp only)|split
instance s_entryStore (t:TypeId) (m k v:Value):Sound P X (Instr.entryStore t m k v):=by
 unfold Instr.entryStore;repeat' first|(with_reducible first|infer_instance|exact Sound.halt _|refine G8 ?_|refine Sound.bind ?_ (λ_=>?_))|exact MD _ dC|((with_reducible refine X8 _ ?_)<;>rfl)|((with_reducible refine Ae _ _ ?_)<;>rfl)|(dsimp only)|split
instance s_followBlind:∀(l:List FieldStep)(t:TypeId)(x:Option Value),Sound P X (followBlind l t x)
 | [],_,_=>Sound.pure' _
 | s::l,t,x=>by
  have ih:=λt x=>s_followBlind l t x;unfold followBlind;exact AN
instance s_nilAhead:∀(n:Nat)(t:TypeId)(v:Value)(s:String),Sound P X (nilAhead n t v s)
 | 0,_,_,_=>Sound.pure' _
 | n+1,t,v,s=>by
  have ih:=λt v=>s_nilAhead n t v s;unfold nilAhead;exact AN
instance s_typeAssert (x:Value) (a b:TypeId) (ok:Bool):Sound P X (Instr.typeAssert x a b ok):=by
 unfold Instr.typeAssert;exact AN
instance s_panicnil:Sound P X Instr.panicnil:=by
 unfold Instr.panicnil;refine Sound.bind (Sound.sysEnv λ_=>Sound.pure _) λr=>?_;split
 .exact G8 (Sound.pure' _)
 .exact s_stuck _
instance s_raise (v:Value):Sound P X (Instr.panic v):=by
 unfold Instr.panic;split
 .exact Sound.halt _
 .refine Sound.bind s_panicnil λ_=>?_;split
  .exact Sound.halt _
  .exact s_panic _
 .exact Sound.halt _
instance s_arrayAt (t:TypeId) (x:Value):Sound P X (Instr.arrayAt t x):=by
 unfold Instr.arrayAt;exact AN
instance s_waits (g:Nat):Sound P X (Instr.waits g):=Fy (λ_ _=>.inl rfl) (λ_=>Sound.pure' _)
instance s_floatToInt (s:FloatKind) (b:Nat) (k:IntKind):Sound P X (Conv.floatToInt s b k):=by
 unfold Conv.floatToInt;exact AN
theorem QZ{x:Value}{k:IntKind}(h1:P.underlying src=some (.int j))(h:P.underlying dst=some (.int k)):Sound P X (convert src dst x):=by
 unfold convert;refine DC h1 (DC h ?_);cases x<;>first|exact Sound.pure' _|exact s_floatToInt _ _ _|exact Sound.halt _|skip
 rename_i a;cases a<;>exact Sound.halt _
def Plain(n:Next):Prop:=(∃v,n=.value v)\/n=.skip
def Ends(P:Program)(Q:Next->Prop)(s:Sem Next):Prop:=∀w es n w' es',s.runT P w es=(.ok n w',es')->Q n
theorem YT(s:Sem Value):Ends P Plain (do pure (.value (← s))):=λw es n w' es' h=>by
 have h:(s.bind _).runT P w es=_:=h;rw[Sem.runT_bind'] at h;match hs:s.runT P w es,h with
 | (.ok a w1,e1),h=>exact .inl ⟨a,by cases h;rfl⟩
 | (.halt a w1,e1),h=>cases h
theorem Afk(s:Sem Unit):Ends P Plain (do s;pure .skip):=λw es n w' es' h=>by
 have h:(s.bind _).runT P w es=_:=h;rw[Sem.runT_bind'] at h;match hs:s.runT P w es,h with
 | (.ok a w1,e1),h=>exact .inr (by cases h;rfl)
 | (.halt a w1,e1),h=>cases h
theorem Ce(v:Value):Ends P Plain (Pure.pure (.value v)):=λw es n w' es' h=>by cases h;exact .inl ⟨v,rfl⟩
theorem EB{Q:Next->Prop}{s:Sem α}{f:α->Sem Next}(hf:∀a,Ends P Q (f a)):Ends P Q (s >>= f):=λw es n w' es' h=>by
 have h:(s.bind f).runT P w es=_:=h;rw[Sem.runT_bind'] at h;match hs:s.runT P w es,h with
 | (.ok a w1,e1),h=>exact hf a _ _ _ _ _ h
 | (.halt a w1,e1),h=>cases h
theorem Je{Q:Next->Prop}:Ends P Q (runtimePanic .nilDeref):=λw es n w' es' h=>by cases h
theorem sv{s:Sem Value}(h:Sound P X s):Sound P X (do pure (.value (← s)):Sem Next)/\Ends P Plain (do pure (.value (← s))):=⟨Sound.bind h (λ_=>Sound.pure' _),YT s⟩
theorem su{s:Sem Unit}(h:Sound P X s):Sound P X (do s;pure .skip:Sem Next)/\Ends P Plain (do s;pure .skip):=⟨Sound.bind h (λ_=>Sound.pure' _),Afk s⟩
def NW:Op->Bool
 | .move _ | .assign _ | .pick .. | .alloc _ | .box .. | .build .. | .buildSlice .. | .load .. | .store .. | .waits _ | .binOp .. | .unOp .. | .sliceToArrayPointer .. | .makeInterface .. | .makeFunc .. | .makeMap .. | .makeSlice .. | .slice .. | .fieldAddr .. | .field .. | .indexAddr .. | .index .. | .lookup .. | .mapUpdate .. | .insert .. | .mapEntry .. | .entryStore .. | .range .. | .next .. | .typeAssert .. | .extract .. | .nilCheck _ | .panic _=>true
 | _=>false
set_option maxHeartbeats 4000000 in
theorem Ra(ρ:Operand->Value)(o:Oper)(h:NW o.op=true):Sound P X (execOp ρ o)/\Ends P Plain (execOp ρ o):=by
 unfold execOp;cases hop:o.op<;>rw[hop] at h<;>(try (cases h;done))<;>dsimp only
 any_goals (with_reducible first|exact sv inferInstance|exact su inferInstance)
 iterate 2 .exact⟨Sound.pure' _,Ce _⟩
 .exact⟨Sound.bind (s_bool _) (λ_=>Sound.pure' _),EB (λ_=>Ce _)⟩
 .split
  iterate 3 .exact⟨s_panic _,Je⟩
  .split
   .exact⟨s_panic _,Je⟩
   .refine⟨G8 (Sound.bind (s_nilAhead _ _ _ _) (λ_=>?_)),EB (λ_=>EB (λ_=>?_))⟩
    .split
     .exact Ae _ _ rfl
     .exact Sound.pure' _
    .split
     .exact EB (λ_=>Ce _)
     .exact Ce _
   .exact⟨Sound.pure' _,Ce _⟩
  .exact⟨Sound.pure' _,Ce _⟩
end
section
variable {P:Program} {X:Nat->Prop} {α β:Type}
instance s_place (t:TypeId) (x:Place):Sound P X (x.get t):=by
 unfold Place.get;exact AN
instance s_follow:∀(l:List FieldStep)(t:TypeId)(x:Place),Sound P X (follow l t x)
 | [],_,_=>Sound.pure' _
 | s::l,t,x=>by
  have ih:=λt x=>s_follow l t x;unfold follow;exact AN
instance s_wrapNil (a:Array TypeId) (t:TypeId) (v:Value) (m n:BA):Sound P X (Builtin.ssaWrapNilChk_ a t #[v,Tz m,Tz n]):=by
 cases v<;>first|exact s_stuck _|skip
 rename_i o;cases o with
 | some x=>exact Sound.pure' _
 | none =>
  refine Sound.bind (s_choose (.extern "ssa:wrapnilchk.dereferenced" 2)) (λr=>?_);exact AN
instance s_receiverAt (t:TypeId) (x:Place) (b:Bool) (o:Option String):Sound P X (receiverAt t x b o):=by
 unfold receiverAt strVal;exact AN
instance s_method:∀(n:Nat)(t:TypeId)(v:Value)(s:String),Sound P X (method n t v s)
 | 0,_,_,_=>X8 _ rfl
 | n+1,t,v,s=>by
  have ih:=λt v=>s_method n t v s;unfold method;exact AN
instance s_clear (a:Array TypeId) (t:TypeId) (v:Array Value):Sound P X (Builtin.clear_ a t v):=by
 unfold Builtin.clear_;repeat' first|(with_reducible first|infer_instance|exact Sound.halt _|refine G8 ?_|refine Sound.bind ?_ (λ_=>?_))|exact MD _ dC|((with_reducible refine X8 _ ?_)<;>rfl)|((with_reducible refine Ae _ _ ?_)<;>rfl)|(dsimp only)|split
instance s_overlaps (a b:Array TypeId) (v:Array Value):Sound P X (Extern.SlicesOverlaps.overlaps a b v):=by
 obtain⟨l⟩:=v;rcases l with _|⟨x,_|⟨y,_|⟨z,l⟩⟩⟩
 .exact s_stuck _
 .cases x<;>exact s_stuck _
 .cases x<;>first|exact s_stuck _|skip
  cases y<;>first|exact s_stuck _|skip
  unfold Extern.SlicesOverlaps.overlaps;generalize a[0]?=o;cases o with
  | none=>exact s_stuck _
  | some t =>
  refine Sound.bind (s_und t) λd=>?_;dsimp only
  exact AN
 .cases x<;>exact s_stuck _
def Kf(P:Program)(s:Nat->Bool)(name:String):Bool:=P.types.all λti=>ti.methods.all λm=>m.name != name || (match m.func with|none=>true|some (f,_)=>s f)
def U0(P:Program){α:Type}(Q:α->Prop)(s:Sem α):Prop:=∀w es a w' es',s.runT P w es=(.ok a w',es')->Q a
theorem U0.bind{Q:α->Prop}{Q':β->Prop}{x:Sem α}{f:α->Sem β}(hx:U0 P Q x)(hf:∀a,Q a->U0 P Q' (f a)):U0 P Q' (x >>= f):=λw es a w' es' h=>by
 have h:(x.bind f).runT P w es=_:=h;rw[Sem.runT_bind'] at h;cases hr:x.runT P w es with
 | mk r es1 =>
  rw[hr] at h;cases r with
  | ok b w1=>exact hf b (hx _ _ _ _ _ hr) _ _ _ _ _ h
  | halt k w1=>cases h
theorem U0.any{x:Sem α}:U0 P (λ_=>True) x:=λ_ _ _ _ _ _=>trivial
theorem U0.pure{Q:α->Prop}{a:α}(h:Q a):U0 P Q (Pure.pure a:Sem α):=λ_ _ _ _ _ e=>by cases e;exact h
theorem U0.halt{Q:α->Prop}(k:Halt):U0 P Q (Sem.halt k:Sem α):=λ_ _ _ _ _ e=>by cases e
theorem TQ{info:TypeId->Option TypeInfo}{d:TypeDesc}{i:TypeInfo}(h:Made.reckon info d=some i):i.methods=#[]:=by
 unfold Made.reckon at h;split at h
 .simp only[Option.bind_eq_bind,Option.bind_eq_some_iff] at h;obtain⟨j,-,h⟩:=h;split at h
  .cases h
  .split at h
   .cases h
   .simp only[Option.bind_eq_some_iff] at h;obtain⟨s,-,h⟩:=h;cases h;rfl
  .simp only[Option.bind_eq_some_iff] at h;obtain⟨s,-,h⟩:=h;cases h;rfl
 all_goals first|(cases h;done)|skip
 .simp only[Option.bind_eq_bind,Option.bind_eq_some_iff] at h;obtain⟨j,-,s,-,h⟩:=h;cases h;rfl
 .simp only[Option.bind_eq_bind,Option.bind_eq_some_iff] at h;obtain⟨j,-,s,-,j',-,s',-,h⟩:=h;cases h;rfl
 .simp only[Option.bind_eq_bind,Option.bind_eq_some_iff] at h;obtain⟨j,-,s,-,h⟩:=h;cases h;rfl
 .simp only[Option.bind_eq_bind,Option.bind_eq_some_iff] at h;obtain⟨s,-,h⟩:=h;cases h;rfl
 .simp only[Option.bind_eq_bind,Option.bind_eq_some_iff] at h;obtain⟨j,-,s,-,h⟩:=h;cases h;rfl
 .unfold Made.reckonStruct at h;simp only[Option.bind_eq_bind,Option.bind_eq_some_iff] at h;obtain⟨j,-,h⟩:=h;split at h<;>(cases h;rfl)
theorem Ad6{s:Nat->Bool}{name:String}(h:Kf P s name=true){t:TypeId}{ti:TypeInfo}(hi:P.info? t=some ti){m:Method}(hm:ti.methods.find? (·.name==name)=some m){b:Bool}(hf:m.func=some (f,b)):s f=true:=by
 have a0:ti.methods≠#[]:=λe=>by rw[e] at hm;simp at hm
 have a1:ti∈P.types:=by
  unfold Tables.info? at hi;split at hi
  .exact Array.mem_of_getElem? hi
  .exfalso
   rename_i hlt;rw[show Made.depth=99+1 from rfl,Made.infoAt] at hi;rw[if_neg hlt,Option.bind_eq_some_iff] at hi;obtain⟨d,-,hi⟩:=hi;exact a0 (TQ hi)
 have h1:=Array.all_eq_true'.1 h ti a1;have h2:=Array.all_eq_true'.1 h1 m (Array.mem_of_find?_eq_some hm);have h3:(m.name==name)=true:=by simpa using Array.find?_some hm
 rw[hf] at h2;simp only[beq_iff_eq] at h3;simpa [h3] using h2
theorem Wy(t:TypeId):U0 P (λti=>P.info? t=some ti) (typeInfo t):=λw es a w' es' h=>by
 unfold typeInfo at h;change Sem.runT P (match P.info? t with|some i=>Pure.pure i|none=>stuck "no such type") w es=_ at h
 cases hi:P.info? t with
 | none=>rw[hi] at h;cases h
 | some i=>rw[hi] at h;cases h;rfl
theorem FJ{s:Nat->Bool}{name:String}(h:Kf P s name=true):∀(n:Nat)(t:TypeId)(v:Value),U0 P (λr=>s r.1=true) (method n t v name)
 | 0,_,_=>U0.halt _
 | n+1,t,v=>by
  have ih:=λt v=>FJ h n t v;unfold method;refine U0.bind (Wy t) λti hi=>?_;split
  .rename_i m hm;refine U0.bind U0.any λr _=>?_;obtain⟨xt,x⟩:=r;dsimp only
   split
   .refine U0.bind U0.any λv _=>?_;split
    .exact ih _ _
    .exact λw es a w' es' hh=>by cases hh
    .exact U0.halt _
   .rename_i f b hf;exact U0.bind U0.any λ_ _=>U0.pure (Ad6 h hi hm hf)
  .exact U0.halt _
end
abbrev X0:Nat->Prop:=λ_=>False
section
variable {P:Program} {α:Type}
theorem J0.heap{n:Nat}{w u:World}(h:J0 X0 n w u):u.heap=w.heap:=Array.ext_getElem? λb=>h.same b id
theorem Jf{r:Nat}{f:Option (TypeId×Nat)->Sem α}(hf:∀o,Sound P X0 (f o)):Sound P X0 (shape r >>= f):=.mk λn w u es h=>by
 show Q5 X0 n w u es ((f (w.shape? r)).runT P w es) ((f (u.shape? r)).runT P u es)
 have e:u.shape? r=w.shape? r:=by simp only[World.shape?,J0.heap h]
 rw[e];exact hf _ _ _ _ _ h
theorem YU{o:Obj}(ho:∀c t,o≠.pending c t):Sound P X0 (newObj o):=.mk λn w u es h=>by
 have e:=J0.heap h;show Q5 X0 n w u es (.ok w.heap.size {w with heap:=w.heap.push o},es) (.ok u.heap.size {u with heap:=u.heap.push o},es)
 intro _;rw[e];refine⟨λe he=>.inl he,_,rfl,.mk0 ⟨rfl,λ_ hb=>hb.elim,λb _=>rfl,λ_ hb=>hb.elim,λb c t hx=>?_,h.os,h.output,h.tape⟩ rfl rfl rfl rfl⟩;have hx:(w.heap.push o)[b]?=_:=hx;rw[Array.getElem?_push] at hx;split at hx
 .exact absurd (A5 hx) (ho c t)
 .exact h.pend b c t hx
instance s_freeze0 (a:Addr) (m:Nat):Sound P X0 (freeze a m):=.mk λn w u es h=>by
 have e:=J0.heap h;show Q5 X0 n w u es (.ok () (w.freeze a m),es) (.ok () (u.freeze a m),es)
 intro _;have fr:∀x:World,(x.freeze a m).tape=x.tape/\(x.freeze a m).drawn=x.drawn/\(x.freeze a m).os=x.os/\(x.freeze a m).output=x.output:=λx=>by unfold World.freeze;split<;>exact⟨rfl,rfl,rfl,rfl⟩
 have hh:(u.freeze a m).heap=(w.freeze a m).heap:=by unfold World.freeze;split<;>simp[e]
 obtain⟨w1,w2,w3,w4⟩:=fr w;obtain⟨u1,u2,u3,u4⟩:=fr u;refine⟨λe he=>.inl he,_,rfl,.mk0 ⟨by rw[hh],λ_ hb=>hb.elim,λb _=>by rw[hh],λ_ hb=>hb.elim,λb c t hx=>?_,by rw[u3,w3];exact h.os,by rw[u4,w4];exact h.output,by rw[u1,u2,w1,w2];exact h.tape⟩ w1 u1 w2 u2⟩;unfold World.freeze at hx;split at hx
 .exact h.pend b c t hx
 .simp only[Array.getElem?_modify] at hx;split at hx
  .cases ho:w.heap[b]? with
   | none=>rw[ho] at hx;cases hx
   | some o =>
    rw[ho] at hx;cases o<;>simp at hx
    obtain⟨rfl,rfl⟩:=hx;exact h.pend b _ _ ho
  .exact h.pend b c t hx
instance s_vars (a:Addr) (t:TypeId) (n:Nat):Sound P X0 (variablesAt a t n):=by
 unfold variablesAt;refine G8 (Jf λo=>?_);split<;>exact Sound.pure' _
instance s_cells0 (b:Nat):Sound P X0 (cellsIn b):=by
 unfold cellsIn;refine Jf λo=>?_;exact AN
instance s_seenAt (a:Addr):Sound P X0 (Conv.seenAt a):=by
 unfold Conv.seenAt;repeat' first|(with_reducible first|infer_instance|exact Sound.halt _|refine Jf (λ_=>?_)|refine G8 ?_|refine Sound.bind ?_ (λ_=>?_))|((with_reducible refine X8 _ ?_)<;>rfl)|((with_reducible refine Ae _ _ ?_)<;>rfl)|(dsimp only)|split
instance s_bytes:∀(n:Nat)(a:Addr)(s:BA),Sound P X0 (loadBytes a s n)
 | 0,_,_=>Sound.pure' _
 | n+1,a,s=>by
  have ih:=λa s=>s_bytes n a s;unfold loadBytes;exact AN
instance s_sliceData (a:Array TypeId) (t:TypeId) (v:Array Value):Sound P X0 (Builtin.unsafeSliceData_ a t v):=by
 unfold Builtin.unsafeSliceData_;obtain⟨l⟩:=v;rcases l with _|⟨x,_|⟨y,l⟩⟩
 .exact s_stuck _
 .cases x<;>first|exact s_stuck _|skip
  rename_i o n c;cases o
  .exact Sound.pure' _
  .show Sound P X0 (if c≠0 then _ else _)
   repeat' first|(with_reducible first|infer_instance|exact Sound.halt _|refine G8 ?_|refine Sound.bind ?_ (λ_=>?_))|exact YU dC|((with_reducible refine X8 _ ?_)<;>rfl)|((with_reducible refine Ae _ _ ?_)<;>rfl)|(dsimp only)|split
 .cases x<;>first|exact s_stuck _|(rename_i o _ _;cases o<;>exact s_stuck _)
instance s_unsafeString (a:Array TypeId) (t:TypeId) (v:Array Value):Sound P X0 (Builtin.unsafeString_ a t v):=by
 unfold Builtin.unsafeString_;obtain⟨l⟩:=v;rcases l with _|⟨x,_|⟨y,_|⟨z,l⟩⟩⟩
 .exact s_stuck _
 .cases x<;>exact s_stuck _
 rotate_left
 .cases x<;>exact s_stuck _
 cases x<;>first|exact s_stuck _|skip
 refine Sound.bind (s_int y) (λn=>?_);exact AN
instance s_unsafePtr (a b:TypeId) (v:Value):Sound P X0 (Conv.unsafePointer a b v):=by
 unfold Conv.unsafePointer asNumber;repeat' first|(with_reducible first|infer_instance|exact Sound.halt _|refine Jf (λ_=>?_)|refine G8 ?_|refine Sound.bind ?_ (λ_=>?_))|exact YU dC|((with_reducible refine X8 _ ?_)<;>rfl)|((with_reducible refine Ae _ _ ?_)<;>rfl)|(dsimp only)|split
end
section
variable {P:Program} {X:Nat->Prop} {α β:Type}
instance s_cap (a:Array TypeId) (t:TypeId) (v:Array Value):Sound P X (Builtin.cap_ a t v):=by
 unfold Builtin.cap_;repeat' first|(with_reducible first|infer_instance|exact Sound.halt _|refine G8 ?_|refine Sound.bind ?_ (λ_=>?_))|(dsimp only)|split
def Wz(u:Bool):Builtin->Bool
 | .append | .len | .cap | .copy | .clear | .max=>true
 | .unsafeString | .unsafeSliceData=>u
 | _=>false
theorem Abk(h:∀b,¬X b):X=X0:=funext λb=>propext ⟨h b,False.elim⟩
instance s_max2 (x y:Value):Sound P X (Builtin.max2 x y):=by
 unfold Builtin.max2;exact au
instance s_maxL:∀(l:List Value)(x:Value),Sound P X (l.foldlM Builtin.max2 x)
 | [],x=>Sound.pure' _
 | y::l,x=>by
  rw[List.foldlM_cons];exact Sound.bind (s_max2 _ _) λ_=>s_maxL l _
instance s_max (a:Array TypeId) (t:TypeId) (v:Array Value):Sound P X (Builtin.max_ a t v):=by
 unfold Builtin.max_;split
 .exact s_stuck _
 .exact s_maxL _ _
theorem ME{u:Bool}(hX:u=true->∀b,¬X b)(ρ:Operand->Value)(o:Oper){b:Builtin}(hop:o.op=.call {callee:=.builtin b,args:=aas,argTypes:=ats})(hb:Wz u b=true):
  Sound P X (execOp ρ o)/\Ends P Plain (execOp ρ o):=by
 have e:execOp ρ o=builtin b ats o.type (aas.map fun | .const _=>true|_=>false) (aas.map ρ):=by
  unfold execOp;rw[hop];rfl
 rw[e];cases b<;>first|(cases hb;done)|exact sv (s_append _ _ _)|exact sv (s_cap _ _ _)|exact sv (s_clear _ _ _)|exact sv (s_copy _ _ _)|exact sv (s_len _ _ _)|exact sv (s_max _ _ _)|(obtain rfl:=Abk (hX hb);first|exact sv (s_sliceData _ _ _)|exact sv (s_unsafeString _ _ _))
theorem Abl(hf:P.funcs[f]?=some fn)(hb:fn.body.isNone=false)(hn:(fn.name == "runtime.NumGoroutine")=false)(args:Array Value):
  Sound P X (callFunc f args)/\Ends P (λn=>∃args,n=.enter f args) (callFunc f args):=by
 have e2:∀w es,(callFunc f args).runT P w es=(.ok (.enter f args) w,es):=λw es=>by
  unfold callFunc;show Sem.runT P (match P.funcs[f]? with|none=>_|some fn=>_) w es=_
  rw[hf];simp only[hn,hb];rfl
 constructor
 .refine .mk λn w u es h=>?_;rw[e2,e2];exact λ_=>⟨λ_ he=>.inl he,w,rfl,On.refl h⟩
 .intro w es n w' es' h;rw[e2] at h;cases h
  exact⟨args,rfl⟩
theorem YV(ρ:Operand->Value)(o:Oper){r:Operand}{name:String}(hop:o.op=.call {callee:=.invoke r name,args:=as_,argTypes:=ats}):∃args,execOp ρ o=callMethod (ρ r) name args:=by
 refine⟨(#[ρ r]++as_.map ρ).extract 1 (#[ρ r]++as_.map ρ).size,?_⟩;unfold execOp;rw[hop];show (do let d ← resolve ρ _ o.type;invoke d.target d.args)=_
 have e:(#[ρ r]++as_.map ρ)[0]?=some (ρ r):=by rw[Array.getElem?_append_left (show 0 < #[ρ r].size from Nat.one_pos)];rfl
 show invoke (.fn (.method name) #[]) (#[ρ r]++as_.map ρ)=_
 unfold invoke;simp only[e]
def Qi(P:Program)(t:TypeId):Bool:=match P.underlying t with|some (.int _)=>true|_=>false
theorem Rc{t:TypeId}(h:Qi P t=true):∃k,P.underlying t=some (.int k):=by
 unfold Qi at h;split at h
 .rename_i k hk;exact⟨k,hk⟩
 .cases h
instance s_bytesToString (x:Value):Sound P X (Conv.bytesToString x):=by
 unfold Conv.bytesToString;repeat' first|(with_reducible first|infer_instance|exact Sound.halt _|refine G8 ?_|refine Sound.bind ?_ (λ_=>?_)|refine Jc (λ_ _=>?_) _ _)|(dsimp only)|split
theorem NX{e:TypeId}{x:Value}(h1:P.underlying src=some (.slice e))(h2:P.underlying dst=some .string)(h3:P.underlying e=some (.int .u8)):Sound P X (convert src dst x):=by
 unfold convert;refine DC h1 (DC h2 ?_);cases x<;>first|exact Sound.pure' _|exact DC h3 (s_bytesToString _)
def MF(P:Program)(u:Bool)(a b:TypeId):Bool:=(Qi P a&&Qi P b) || (match P.underlying a,P.underlying b with
 | some (.slice e),some .string=>(match P.underlying e with|some (.int .u8)=>true|_=>false)
 | some (.pointer _),some .unsafePointer|some .unsafePointer,some (.pointer _)=>u
 | _,_=>false)
theorem MG{u:Bool}(hX:u=true->∀b,¬X b)(ρ:Operand->Value)(o:Oper){a b:TypeId}{x:Operand}(hop:o.op=.convert a b x)(h:MF P u a b=true):Sound P X (execOp ρ o)/\Ends P Plain (execOp ρ o):=by
 have e:execOp ρ o=(do pure (.value (← convert a b (ρ x)))):=by unfold execOp;rw[hop]
 rw[e];unfold MF at h;rw[Bool.or_eq_true,Bool.and_eq_true] at h;rcases h with⟨h1,h2⟩|h
 .obtain⟨j,hj⟩:=Rc h1;obtain⟨k,hk⟩:=Rc h2;exact sv (QZ hj hk)
 .split at h
  .rename_i e h1 h2;split at h
   .rename_i h3;exact sv (NX h1 h2 h3)
   .cases h
  iterate 2 .rename_i h1 h2;obtain rfl:=Abk (hX h);refine sv ?_;unfold convert;refine DC h1 (DC h2 ?_);cases x':ρ x<;>exact s_unsafePtr _ _ _
  .cases h
structure FZs where
 f:Nat->Bool
 u:Bool
 l:Nat->List Nat
instance:CoeFun FZs λ_=>Nat->Bool:=⟨FZs.f⟩
class UX (s:FZs) (X:Nat->Prop):Prop where
 out:s.u=true->∀b,¬X b
instance (s:FZs):UX s X0:=⟨λ_ _ h=>h⟩
instance {f:Nat->Bool} {l:Nat->List Nat}:UX ⟨f,false,l⟩ X:=⟨λh=>by cases h⟩
class NL (s:FZs):Prop where
 out:∀f,s.l f=[]
instance {f:Nat->Bool} {u:Bool}:NL ⟨f,u,λ_=>[]⟩:=⟨λ_=>rfl⟩
def KU(P:Program)(f:Nat):Prop:=∀(X:Nat->Prop)(args:Array Value),Sound P X (callFunc f args)/\Ends P Plain (callFunc f args)
def s0(s:FZs)(f:Nat):Bool:=s f&&(s.l f).isEmpty
def Re(s:FZs)(L:List Nat):Operand->Bool
 | .tmp y=>L.contains y
 | .func h=>s0 s h
 | _=>false
def Af(L:List Nat)(o:Oper):Bool:=match o.dst with|some x=>!L.contains x|none=>true
def Cf(P:Program)(s:FZs)(L:List Nat)(o:Oper):Bool :=
 match o.op with
 | .call {callee:=.value (.tmp x),..}=>L.contains x&&Af L o
 | .call {callee:=.value (.func f),args:=as_,..}=>(s f&&Af L o)&&(s.l f).all λx=>match as_[x]? with|some a=>Re s L a|none=>true
 | .call {callee:=.builtin b,..}=>Wz s.u b&&Af L o
 | .call {callee:=.invoke _ name,..}=>Kf P (s0 s) name&&Af L o
 | .convert a b _=>MF P s.u a b&&Af L o
 | .move x | .assign x=>Af L o || Re s L x
 | op=>NW op&&Af L o
def M7(P:Program)(s:FZs)(L:List Nat):Code->Bool
 | .skip | .exit _ | .label _ | .ret | .refuse _=>true
 | .region _ ops _=>ops.all λo=>Cf P s L o
 | .seq a b=>M7 P s L a&&M7 P s L b
 | .cond _ a b=>M7 P s L a&&M7 P s L b
 | .block _ b=>M7 P s L b
 | .loop b=>M7 P s L b
 | .scope b=>M7 P s L b
 | _=>false
def O8(P:Program)(s:FZs)(L:List Nat):Item->Prop
 | .code c=>M7 P s L c=true
 | .inBlock _=>True
 | .inLoop c=>M7 P s L c=true
 | .inScope c=>M7 P s L c=true
 | .inRegion ops l=>∀i∈l,∀o,ops[i]?=some o->Cf P s L o=true
 | _=>False
def fnV(s:FZs)(v:Value):Prop:=v=undef\/∃h,v=.func (.func h) #[] #[]/\s0 s h=true
structure M8 (P:Program) (s:FZs) (fr:Frame):Prop where
 todo:∀i∈fr.todo,O8 P s (s.l fr.fn) i
 defers:fr.defers=[]
 kind:fr.kind=.normal
 round:fr.roundOf=none
 fn:∃fn,P.funcs[fr.fn]?=some fn
 slots:∀x∈s.l fr.fn,fnV s (fr.tmps.getD x undef)
def Gy(s:FZs)(fr:Frame)(v:Value):Prop:=∀ops i rest k o x,fr.todo=.inRegion ops (i::rest)::k->ops[i]?=some o->o.dst=some x->x∈s.l fr.fn->fnV s v
structure FK (P:Program) (s:FZs) (fr:Frame):Prop where
 ok:M8 P s fr
 any:∀v,Gy s fr v
def MH(P:Program)(s:FZs)(f:Nat):Prop:=∃fn body,P.funcs[f]?=some fn/\fn.body=some body/\M7 P s (s.l f) body=true/\(fn.name == "runtime.NumGoroutine")=false
structure I6 (P:Program) (s:FZs):Prop where
 out:∀f,s f=true->MH P s f\/KU P f
 step:∀g,gN<=g->P.stepOf g=none
def FL(s:FZs)(f:Nat)(args:Array Value):Prop:=∀x∈s.l f,fnV s (args.getD x undef)
variable {s:FZs}
theorem MI{f:Nat}(h:s0 s f=true):s f=true/\s.l f=[]:=by
 unfold s0 at h;rw[Bool.and_eq_true] at h;exact⟨h.1,by simpa using h.2⟩
theorem Er{f:Nat}(h:s.l f=[])(args:Array Value):FL s f args:=λx hx=>by rw[h] at hx;cases hx
def EZ(P:Program)(s:FZs)(n:Next):Prop:=Plain n\/∃f args,MH P s f/\FL s f args/\n=.enter f args
theorem KV(S:I6 P s){f:Nat}(hf:s f=true)(args:Array Value)(ha:FL s f args):Sound P X (callFunc f args)/\Ends P (EZ P s) (callFunc f args):=by
 rcases S.out f hf with⟨fn,body,h1,h2,h3,h4⟩|h
 .obtain⟨a,b⟩:=Abl (P:=P) h1 (by rw[h2];rfl) h4 args
  have e2:∀w es,(callFunc f args).runT P w es=(.ok (.enter f args) w,es):=λw es=>by
   unfold callFunc;show Sem.runT P (match P.funcs[f]? with|none=>_|some fn=>_) w es=_
   rw[h1];simp only[h4,show fn.body.isNone=false by rw[h2];rfl];rfl
  exact⟨a,λw es n w' es' hh=>by rw[e2] at hh;cases hh;exact .inr ⟨f,args,⟨fn,body,h1,h2,h3,h4⟩,ha,rfl⟩⟩
 .exact⟨(h X args).1,λw es n w' es' hh=>.inl ((h X args).2 w es n w' es' hh)⟩
theorem Ad7(S:I6 P s){name:String}(hm:Kf P (s0 s) name=true)(v:Value)(args:Array Value):Sound P X (callMethod v name args)/\Ends P (EZ P s) (callMethod v name args):=by
 unfold callMethod;split
 .rename_i t v;constructor
  .refine G8 (.mk λn w u es h hd=>?_)
   have a1:Sound P X (method (P.types.size+Made.depth) t v name >>= λr=>if s0 s r.1=true then callFunc r.1 (#[r.2]++args) else stuck ""):=Sound.bind (s_method _ _ _ _) λr=>by
    split
    .rename_i hr;exact (KV S (MI hr).1 _ (Er (MI hr).2 _)).1
    .exact s_stuck _
   have a0:∀w es,(method (P.types.size+Made.depth) t v name >>= λr=>if s0 s r.1=true then callFunc r.1 (#[r.2]++args) else stuck "").runT P w es=(method (P.types.size+Made.depth) t v name >>= λr=>callFunc r.1 (#[r.2]++args)).runT P w es:=λw es=>by
    show (Sem.bind _ _).runT P w es=(Sem.bind _ _).runT P w es
    rw[Sem.runT_bind',Sem.runT_bind'];cases hr:(method (P.types.size+Made.depth) t v name).runT P w es with
    | mk r es1 =>
     cases r with
     | ok a w1=>simp only[FJ hm _ _ _ _ _ _ _ _ hr,if_true]
     | halt k w1=>rfl
   have:=a1 n w u es h;rw[a0,a0] at this;exact this hd
  .intro w es n w' es' h;have h:(Sem.bind (method (P.types.size+Made.depth) t v name) λr=>callFunc r.1 (#[r.2]++args)).runT P w es=_:=h;rw[Sem.runT_bind'] at h;cases hr:(method (P.types.size+Made.depth) t v name).runT P w es with
   | mk r es1 =>
    rw[hr] at h;cases r with
    | ok a w1 =>
     have hg:=MI (FJ hm _ _ _ _ _ _ _ _ hr);exact (KV (X:=X) S hg.1 _ (Er hg.2 _)).2 _ _ _ _ _ h
    | halt k w1=>cases h
 .exact⟨s_panic _,λw es n w' es' h=>by cases h⟩
 .exact⟨s_stuck _,λw es n w' es' h=>by cases h⟩
theorem Kg(hs:∀x∈s.l fr.fn,fnV s (fr.tmps.getD x undef)){a:Operand}(h:Re s (s.l fr.fn) a=true):fnV s (fr.eval a):=by
 cases a with
 | tmp y=>exact hs y (by simpa [Re] using h)
 | func f=>exact .inr ⟨f,rfl,h⟩
 | _=>cases h
theorem Vd{o:Oper}(h:Af L o=true){x:Nat}(hx:o.dst=some x):x∉L:=by
 unfold Af at h;rw[hx] at h;simpa using h
theorem Ad8(ρ:Operand->Value)(o:Oper){x:Operand}(hop:o.op=.move x\/o.op=.assign x):execOp ρ o=Pure.pure (.value (ρ x)):=by
 unfold execOp;rcases hop with h|h<;>rw[h]
def Qj(P:Program)(s:FZs)(fr:Frame)(o:Oper):Prop:=∀w es v w' es',(execOp fr.eval o).runT P w es=(.ok (.value v) w',es')->∀x,o.dst=some x->x∈s.l fr.fn->fnV s v
theorem Qk[UX s X](S:I6 P s)(fr:Frame)(hs:∀x∈s.l fr.fn,fnV s (fr.tmps.getD x undef))(o:Oper)(h:Cf P s (s.l fr.fn) o=true):
  Sound P X (execOp fr.eval o)/\Ends P (EZ P s) (execOp fr.eval o)/\Qj P s fr o/\∀w es f args w' es',(execOp fr.eval o).runT P w es=(.ok (.enter f args) w',es')->Af (s.l fr.fn) o=true:=by
 have a0:Af (s.l fr.fn) o=true->Qj P s fr o:=λhd w es v w' es' _ x hx hl=>absurd hl (Vd hd hx)
 have pl:Sound P X (execOp fr.eval o)/\Ends P Plain (execOp fr.eval o)->Af (s.l fr.fn) o=true->Sound P X (execOp fr.eval o)/\Ends P (EZ P s) (execOp fr.eval o)/\Qj P s fr o/\∀w es f args w' es',(execOp fr.eval o).runT P w es=(.ok (.enter f args) w',es')->Af (s.l fr.fn) o=true :=
  λ⟨a,b⟩ hd=>⟨a,λw es n w' es' h=>.inl (b w es n w' es' h),a0 hd,λ_ _ _ _ _ _ _=>hd⟩
 have mv:∀x,(o.op=.move x\/o.op=.assign x)->(Af (s.l fr.fn) o || Re s (s.l fr.fn) x)=true->Sound P X (execOp fr.eval o)/\Ends P (EZ P s) (execOp fr.eval o)/\Qj P s fr o/\∀w es f args w' es',(execOp fr.eval o).runT P w es=(.ok (.enter f args) w',es')->Af (s.l fr.fn) o=true:=λx hop hd=>by
  have e:=Ad8 fr.eval o hop;refine⟨by rw[e];exact Sound.pure _,λw es n w' es' hh=>?_,?_,λw es f args w' es' hh=>by rw[e] at hh;cases hh⟩
  .rw[e] at hh;cases hh;exact .inl (.inl ⟨_,rfl⟩)
  .rw[Bool.or_eq_true] at hd;rcases hd with hd|hd
   .exact a0 hd
   .intro w es v w' es' hh x' _ _;rw[e] at hh;cases hh
    exact Kg hs hd
 unfold Cf at h;split at h
 .rename_i x as_ ats hop;rw[Bool.and_eq_true] at h;have hx:fnV s (fr.eval (.tmp x)):=Kg hs (a:=.tmp x) h.1;rcases hx with e|⟨g,e,hg⟩
  .obtain⟨m,em⟩:∃m,execOp fr.eval o=stuck m:=⟨ "call: function value expected",by
    unfold execOp;rw[hop];simp only[resolve,e];rfl⟩
   rw[em];exact⟨s_stuck _,λw es n w' es' hh=>(by cases hh),a0 h.2,λw es f args w' es' hh=>(by cases hh)⟩
  .have e2:∃args,execOp fr.eval o=callFunc g args:=by
    refine⟨(#[]++as_.map fr.eval) ++ #[],?_⟩;unfold execOp;rw[hop];show (do let d ← resolve fr.eval _ o.type;invoke d.target d.args)=_
    simp only[resolve,e];rfl
   obtain⟨args,e2⟩:=e2;obtain⟨a,b⟩:=KV S (MI hg).1 args (Er (MI hg).2 _);refine⟨by rw[e2];exact a,by rw[e2];exact b,a0 h.2,λ_ _ _ _ _ _ _=>h.2⟩
 .rename_i f as_ ats hop;simp only[Bool.and_eq_true] at h;obtain⟨⟨hf,hd⟩,a1⟩:=h
  have e2:execOp fr.eval o=callFunc f (as_.map fr.eval):=by
   unfold execOp;rw[hop];show (do let d ← resolve fr.eval _ o.type;invoke d.target d.args)=_
   simp only[resolve,show fr.eval (.func f)=.func (.func f) #[] #[] from rfl];show callFunc f ((#[]++as_.map fr.eval) ++ #[])=_
   simp
  have ha:FL s f (as_.map fr.eval):=λx hx=>by
   have:=List.all_eq_true.1 a1 x hx;cases hq:as_[x]? with
   | none =>
    refine .inl ?_;have:as_.size<=x:=Array.getElem?_eq_none_iff.1 hq;simp[Array.getD,Nat.not_lt.2 this]
   | some a =>
    rw[hq] at this;have a2:=(D1.1 hq).1
    have ev:(as_.map fr.eval).getD x undef=fr.eval a:=by
     have h2:=(D1.1 hq).2;simp[Array.getD,a2,h2]
    rw[ev];exact Kg hs this
  obtain⟨a,b⟩:=KV S hf _ ha;exact⟨by rw[e2];exact a,by rw[e2];exact b,a0 hd,λ_ _ _ _ _ _ _=>hd⟩
 .rename_i b as_ ats hop;rw[Bool.and_eq_true] at h;exact pl (ME (UX.out (s:=s)) _ o hop h.1) h.2
 .rename_i r name as_ ats hop;rw[Bool.and_eq_true] at h;obtain⟨args,e⟩:=YV fr.eval o hop;obtain⟨a,b⟩:=Ad7 (X:=X) S h.1 (fr.eval r) args;exact⟨by rw[e];exact a,by rw[e];exact b,a0 h.2,λ_ _ _ _ _ _ _=>h.2⟩
 .rename_i a b x hop;rw[Bool.and_eq_true] at h;exact pl (MG (UX.out (s:=s)) _ o hop h.1) h.2
 .rename_i x hop;exact mv x (.inl hop) h
 .rename_i x hop;exact mv x (.inr hop) h
 .rw[Bool.and_eq_true] at h;exact pl (Ra _ o h.1) h.2
theorem WA{o:Oper}(h:Cf P s [] o=true):(∃f aas ats,o.op=.call {callee:=.value (.func f),args:=aas,argTypes:=ats}/\s f=true)\/(∃b aas ats,o.op=.call {callee:=.builtin b,args:=aas,argTypes:=ats}/\Wz s.u b=true)\/
  (∃r name aas ats,o.op=.call {callee:=.invoke r name,args:=aas,argTypes:=ats}/\Kf P (s0 s) name=true)\/(∃a b x,o.op=.convert a b x/\MF P s.u a b=true)\/NW o.op=true:=by
 unfold Cf at h;split at h<;>(try simp only[Bool.and_eq_true] at h)
 .exact absurd h.1 dC
 .exact .inl ⟨_,_,_,‹_›,h.1.1⟩
 .exact .inr (.inl ⟨_,_,_,‹_›,h.1⟩)
 .exact .inr (.inr (.inl ⟨_,_,_,_,‹_›,h.1⟩))
 .exact .inr (.inr (.inr (.inl ⟨_,_,_,‹_›,h.1⟩)))
 iterate 2 .rename_i e;rw[e];exact .inr (.inr (.inr (.inr rfl)))
 .exact .inr (.inr (.inr (.inr h.1)))
theorem Ad9(S:I6 P s)(h:s f=true)(hb:((P.funcs[f]?).bind (·.body)).isSome=true)(w:World):MH P s f:=by
 rcases S.out f h with h|h
 .exact h
 exfalso
 cases hf:P.funcs[f]? with
 | none=>rw[hf] at hb;cases hb
 | some fn =>
  rw[hf] at hb
  have hb:fn.body.isNone=false:=by
   cases hx:fn.body with
   | none=>rw[Option.bind_some,hx] at hb;cases hb
   | some b=>rfl
  have e2:(callFunc f #[]).runT P w #[]=(.ok (if fn.name == "runtime.NumGoroutine" then .numGoroutine else .enter f #[]) w,#[]):=by
   unfold callFunc;show Sem.runT P (match P.funcs[f]? with|none=>_|some fn=>_) w #[]=_
   rw[hf];simp only[hb];cases fn.name == "runtime.NumGoroutine"<;>rfl
  have h1:=(h (λ_=>False) #[]).2 _ _ _ _ _ e2;rcases h1 with⟨v,e⟩|e<;>(split at e<;>cases e)
theorem KW(a:Array Value)(x:Nat):a.getD x undef=(a[x]?).getD undef:=by simp[Array.getD_eq_getD_getElem?]
theorem Rf(h:MH P s f)(args:Array Value)(ha:FL s f args):M8 P s (Frame.enter P f args .normal):=by
 obtain⟨fn,a0,h1,h2,h3,_⟩:=h;refine⟨λi hi=>?_,rfl,rfl,rfl,⟨fn,h1⟩,λx hx=>?_⟩
 .simp only[Frame.enter,h1,Option.bind_some,h2,Option.getD_some,C9] at hi;subst hi;exact h3
 .have hx:x∈s.l f:=hx;show fnV s ((args++Array.replicate _ undef).getD x undef)
  rw[KW];rcases Nat.lt_or_ge x args.size with hl|hl
  .rw[Array.getElem?_append_left hl,← KW];exact ha x hx
  .refine .inl ?_;rw[Array.getElem?_append_right hl,Array.getElem?_replicate];split<;>rfl
theorem Gz(h:M8 P s fr)(v:Value)(hv:Gy s fr v):M8 P s (fr.finish v):=by
 unfold Frame.finish;split
 .rename_i ops i rest k ht;have hk:=h.todo;rw[ht] at hk;refine⟨λx hx=>?_,h.defers,h.kind,h.round,h.fn,λx hx=>?_⟩
  .rcases List.mem_cons.1 hx with rfl|hx
   .exact λj hj=>hk (.inRegion ops (i::rest)) dC j (by simp[hj])
   .exact hk x (by simp[hx])
  .cases ho:ops[i]? with
   | none=>simp only[Option.bind_none];exact h.slots x hx
   | some o =>
    simp only[Option.bind_some];cases hd:o.dst with
    | none=>exact h.slots x hx
    | some d =>
     show fnV s ((fr.tmps.setIfInBounds d v).getD x undef)
     rw[KW];by_cases e:d=x
     .subst e;by_cases hl:d<fr.tmps.size
      .rw[Array.getElem?_setIfInBounds_self_of_lt hl];exact hv ops i rest k o d ht ho hd hx
      .refine .inl ?_;rw[Array.getElem?_eq_none_iff.2 (by rw[Array.size_setIfInBounds];exact Nat.le_of_not_lt hl)];rfl
     .rw[Array.getElem?_setIfInBounds_ne e,← KW];exact h.slots x hx
 all_goals first|exact h|(rename_i ht;exfalso;have hk:=h.todo;rw[ht] at hk;exact hk _ (List.mem_cons_self ..))
theorem LU(h:M8 P s fr)(c:List PanicEntry):M8 P s (fr.raise c):=by
 unfold Frame.raise;split<;>exact⟨h.todo,h.defers,h.kind,h.round,h.fn,h.slots⟩
theorem NY(h:M8 P s fr)(m:FrameMode):M8 P s {fr with mode:=m}:=⟨h.todo,h.defers,h.kind,h.round,h.fn,h.slots⟩
theorem Ve(h:M8 P s fr){l:List Item}(hl:∀i∈l,O8 P s (s.l fr.fn) i):M8 P s {fr with todo:=l}:=⟨hl,h.defers,h.kind,h.round,h.fn,h.slots⟩
theorem OT(fr:Frame):Gy s fr undef:=λ_ _ _ _ _ _ _ _ _ _=>.inl rfl
def M4(X:Nat->Prop)(w u:World):Prop:=∀n,J0 X n w u
theorem M4.on{n:Nat}{w u w':World}(h:M4 X w u)(ho:On X n w u w' u'):M4 X w' u':=λm=>by
 obtain⟨k,_,dw,du,hs⟩:=ho.drew
 exact⟨hs.size,hs.old,hs.same,hs.cov,hs.pend,hs.os,hs.output,λi q _=>by
  rw[ho.tw,ho.tu,dw,du,Nat.add_assoc,Nat.add_assoc];exact (h (k+i+1)).tape (k+i) q oM⟩
theorem M4.self{n:Nat}{w u:World}(h:J0 X n w u):M4 (λ_=>False) w w:=λ_=>⟨rfl,λ_ h=>h.elim,λ_ _=>rfl,λ_ h=>h.elim,h.pend,rfl,rfl,λ_ _ _=>rfl⟩
theorem Sound.sane{q:Sem α}(hq:Sound P (λ_=>False) q){n:Nat}{w u:World}(h:J0 X n w u){k:Halt}{w1:World}{es:Array Event}(e:q.runT P w #[]=(.halt k w1,es)):Ca k=false:=by
 have ha:=hq (Ik (q.runT P w #[]).1) w w #[] (M4.self h _) (.inl (Nat.le_add_left _ _));rw[e] at ha;exact ha.1
def Cq(P:Program)(X:Nat->Prop)(s:FZs)(n:Nat)(cu cw:List Frame)(w u:World)(su sw:GStep):Prop :=
 (M4 X w u->(∃o x es,su=.ended o x es)\/∃fr' new u' w' es,su=.go (G fr' (new++cu)) u' es/\sw=.go (G fr' (new++cw)) w' es/\M8 P s fr'/\(∀c∈new,FK P s c)/\(∃m,On X m w u w' u')/\∀e∈es,V7 X e)/\
 (∀g1 w1 e1,sw=.go g1 w1 e1->w1.drawn<=w.drawn+n->(∃o x es,su=.ended o x es)\/∃fr' new u' w' es,su=.go (G fr' (new++cu)) u' es/\sw=.go (G fr' (new++cw)) w' es/\M8 P s fr'/\(∀c∈new,FK P s c)/\On X n w u w' u'/\∀e∈es,V7 X e)
theorem CM(S:I6 P s)(hg:gN<=g)(cs:List Frame)(u:World):
  (∃o x es,early P fr cs none g u=.ended o x es)\/∃c e,u.heap[g]?=some (.pending c e)/\P.follows .staticDataAhead=false/\early P fr cs none g u=.go (G fr cs) {u with heap:=u.heap.setIfInBounds g (.cells c e)} #[]:=by
 unfold early;cases hf:P.follows .staticDataAhead with
 | true =>
  simp only[Bool.not_true,Bool.false_eq_true,if_false,S.step g hg];exact .inl ⟨_,_,_,rfl⟩
 | false =>
  simp only[Bool.not_false,if_true];cases ho:u.heap[g]? with
  | none=>exact .inl ⟨_,_,_,rfl⟩
  | some o =>
   cases o with
   | pending c e=>exact .inr ⟨c,e,rfl,trivial,rfl⟩
   | _=>exact .inl ⟨_,_,_,rfl⟩
theorem Lu(S:I6 P s)(h:M8 P s fr){l:List Nat}{k:List Item}(ht:fr.todo=.inRegion ops l::k){q:Sem Next}(he:Ends P (EZ P s) q)(hv:∀w es v w' es',q.runT P w es=(.ok (.value v) w',es')->Gy s fr v)(hn:∀w es f args w' es',q.runT P w es=(.ok (.enter f args) w',es')->∀v,Gy s fr v)
  {cu cw:List Frame} {w u:World} {n:Nat} (ha:QK X n w u #[] (q.runT P w #[]) (q.runT P u #[])) :
  (∃o x es,stepG.apply P true fr cu none q u=.ended o x es)\/∃fr' new u' w' es,stepG.apply P true fr cu none q u=.go (G fr' (new++cu)) u' es/\stepG.apply P true fr cw none q w=.go (G fr' (new++cw)) w' es/\M8 P s fr'/\(∀c∈new,FK P s c)/\On X n w u w' u'/\∀e∈es,V7 X e:=by
 have hk:(fr.kind==CallKind.early)=false:=by rw[h.kind];rfl
 generalize hu:q.runT P u #[]=ru at ha;unfold stepG.apply;simp only[hu,hk,ht,if_true,Bool.false_eq_true,if_false];match ru,hu,ha with
 | (.ok n u1,eu),hu,⟨a2,w1,hw,a1⟩ =>
  have a0:∀e∈seen P fr.fn eu ++ #[],V7 X e:=λe hx=>by
   rw[Array.append_empty] at hx;exact (a2 e (mem_seen hx)).elim (λhx=>by simp at hx) id
  rcases he _ _ _ _ _ hu with (⟨v,rfl⟩|rfl)|⟨f,args,hf,hfa,rfl⟩
  .refine .inr ⟨fr.finish v,[],u1,w1,_,rfl,?_,Gz h v (hv _ _ _ _ _ hu),dC,a1,a0⟩;simp only[hw,GStep.after];rfl
  .refine .inr ⟨fr.finish undef,[],u1,w1,_,rfl,?_,Gz h undef (OT _),dC,a1,a0⟩;simp only[hw,GStep.after];rfl
  .refine .inr ⟨Frame.enter P f args .normal,[fr],u1,w1,_,rfl,?_,Rf hf args hfa,(λc hc=>by rw[C9] at hc;subst hc;exact⟨h,hn _ _ _ _ _ _ hu⟩),a1,a0⟩;simp only[hw,GStep.after];rfl
 | (.halt k u1,eu),hu,⟨h0,hh⟩ =>
  cases k with
  | panic v =>
   obtain⟨a2,w1,hw,a1⟩:=hh rfl
   have a0:∀e∈seen P fr.fn eu ++ #[],V7 X e:=λe hx=>by
    rw[Array.append_empty] at hx;exact (a2 e (mem_seen hx)).elim (λhx=>by simp at hx) id
   refine .inr ⟨fr.raise [{v,recovered:=false}],[],u1,w1,_,rfl,?_,LU h _,dC,a1,a0⟩;simp only[hw,GStep.after];rfl
  | stuck x=>exact .inl ⟨_,_,_,rfl⟩
  | unsupported x =>
   cases x with
   | initOrder g =>
    obtain⟨a2,w1,hw,a1⟩:=hh rfl;have hg:gN<=g:=by simpa [Ca] using h0
    rcases CM (fr:=fr) S hg cu u1 with⟨o,x,es,e⟩|⟨c,t,hp,hfo,e⟩
    .exact .inl ⟨o,x,seen P fr.fn #[]++es,by simp only[e,GStep.after]⟩
    .obtain⟨k,a4,dw,du,hs⟩:=a1.drew;have hx:¬X g:=λhx=>by obtain⟨c',e',-,a5⟩:=hs.cov _ hx;rw[a5] at hp;cases hp
     have a6:w1.heap[g]?=some (.pending c t):=by rw[← hs.same g hx];exact hp
     have ew:early P fr cw none g w1=.go (G fr cw) {w1 with heap:=w1.heap.setIfInBounds g (.cells c t)} #[]:=by
      unfold early;simp only[hfo,Bool.not_false,if_true,a6];rfl
     have a3:=hs.setCells g c t (0,0) hx;refine .inr ⟨fr,[],{u1 with heap:=u1.heap.setIfInBounds g (.cells c t)},{w1 with heap:=w1.heap.setIfInBounds g (.cells c t)},seen P fr.fn #[] ++ #[],by simp only[e,GStep.after];rfl,by simp only[hw,ew,GStep.after];rfl,h,dC,⟨a1.tw,a1.tu,k,a4,dw,du,a3.sim⟩,λe he=>?_⟩;rw[seen_none] at he;simp at he
   | _=>first|(cases h0;done)|exact .inl ⟨_,_,_,rfl⟩
  | _=>cases h0
theorem TS(S:I6 P s)(h:M8 P s fr){l:List Nat}{k:List Item}(ht:fr.todo=.inRegion ops l::k){q:Sem Next}(hq:Sound P (λ_=>False) q)(he:Ends P (EZ P s) q)
  {cw:List Frame} {w u:World} {n:Nat} (hs:J0 X n w u) {g1:Goroutine} {w1:World} {e1:Array Event} (hst:stepG.apply P true fr cw none q w=.go g1 w1 e1):Ik (q.runT P w #[]).1=w1.drawn:=by
 have hk:(fr.kind==CallKind.early)=false:=by rw[h.kind];rfl
 have a0:=λk w1 es=>Sound.sane hq hs (k:=k) (w1:=w1) (es:=es);unfold stepG.apply at hst;generalize hu:q.runT P w #[]=ru at hst;simp only[hk,ht,if_true,Bool.false_eq_true,if_false] at hst;match ru,hu,hst with
 | (.ok n u1,eu),hu,hst =>
  rcases he _ _ _ _ _ hu with (⟨v,rfl⟩|rfl)|⟨f,args,hf,hfa,rfl⟩<;>(simp only[GStep.after] at hst;cases hst;rfl)
 | (.halt k u1,eu),hu,hst =>
  have h0:=a0 k u1 eu hu;cases k with
  | panic v=>simp only[GStep.after] at hst;cases hst;rfl
  | stuck x=>simp only[GStep.after] at hst;cases hst
  | unsupported x =>
   cases x with
   | initOrder g =>
    have hg:gN<=g:=by simpa [Ca] using h0
    rcases CM (fr:=fr) S hg cw u1 with⟨o,x,es,e⟩|⟨c,t,hp,hfo,e⟩
    .simp only[e,GStep.after] at hst;cases hst
    .simp only[e,GStep.after] at hst;cases hst;rfl
   | _=>first|(cases h0;done)|(simp only[GStep.after] at hst;cases hst)
  | _=>cases h0
theorem PO(S:I6 P s)(h:M8 P s fr){l:List Nat}{k:List Item}(ht:fr.todo=.inRegion ops l::k){q:Sem Next}(hq:Sound P X q)(hq0:Sound P (λ_=>False) q)(he:Ends P (EZ P s) q)(hv:∀w es v w' es',q.runT P w es=(.ok (.value v) w',es')->Gy s fr v)(hn:∀w es f args w' es',q.runT P w es=(.ok (.enter f args) w',es')->∀v,Gy s fr v)
  {cu cw:List Frame} {w u:World} {n:Nat} (hs:J0 X n w u):Cq P X s n cu cw w u (stepG.apply P true fr cu none q u) (stepG.apply P true fr cw none q w):=by
 constructor
 .intro hf;rcases Lu S h ht he hv hn (cu:=cu) (cw:=cw) (hq (Ik (q.runT P u #[]).1) w u #[] (hf _) (.inr (Nat.le_add_left _ _))) with h1|⟨fr',new,u',w',es,a1,a2,a3,a4,a5,a6⟩
  .exact .inl h1
  .exact .inr ⟨fr',new,u',w',es,a1,a2,a3,a4,⟨_,a5⟩,a6⟩
 .intro g1 w1 e1 hst hd;exact Lu S h ht he hv hn (hq n w u #[] hs (.inl (by rw[TS S h ht hq0 he hs hst];exact hd)))
end
end Go.Proofs.YtaffjphkobhagaaGreatDoor
