/- Runs carried over, 0: a run takes answers off the tape, never back. -/
import Derived.Conc.Beside
import Derived.Conc.Events
namespace Go.Proofs.YtcgkgmmclfeohaaGreatDoor
open Go.Conc
def LG{α:Type}:Result α->Nat
 | .ok _ w=>w.drawn
 | .halt _ w=>w.drawn
theorem Xv{α:Type}(a:Ask α)(w:World):w.drawn<=(w.ask a).2.drawn:=by
 induction a generalizing w with
 | done a=>exact Nat.le_refl _
 | ask what r k ih =>
  simp only[World.ask];split
  ·exact ih 0 w
  ·have h:=ih ((Question.extern what r).cut (w.tape w.drawn (Question.extern what r))) {w with drawn:=w.drawn+1};exact Nat.le_trans (Nat.le_add_right w.drawn 1) h
theorem Xw(c:Sys)(w:World):w.drawn<=(w.sys c).2.drawn:=by
 have h:=Xv (Kernel.perform c w.os) w;unfold World.sys;split
 ·exact Nat.le_refl _
 ·rename_i r os w' e;rw[e] at h;exact h
theorem MD{p:Program}{w w':World}{a k:Addr}{u:TypeId}{v:Value}{b:Bool}{l:List Addr}(h:w.viewStore p a u k v b=.ok (w',l)):w'.drawn=w.drawn:=by
 simp only[World.viewStore,bind,Except.bind,pure,Except.pure] at h;repeat' split at h
 all_goals first|(cases h;rfl)|cases h
theorem Ob{p:Program}{w w':World}{a:Addr}{v:Value}{b:Bool}{l:List Addr}(h:w.farStore p a v b=.ok (w',l)):w'.drawn=w.drawn:=by
 unfold World.farStore at h;split at h
 ·split at h
  ·rename_i r hr;cases h;exact MD hr
  ·cases h
 ·cases h
theorem Jh{α:Type}(P:Program)(s:Sem α):∀(w:World)(es:Array Event),w.drawn<=LG (s.runT P w es).1:=by
 induction s with
 | pure a=>intro w es;exact Nat.le_refl _
 | load m a k ih =>
  intro w es;simp only[Sem.runT];split
  ·exact ih _ _ _
  ·split
   ·exact ih _ _ _
   ·exact Nat.le_refl _
 | store m a v k ih =>
  intro w es
  cases v<;>simp only[Sem.runT]<;>first|exact Nat.le_refl _|(
   split
   ·split
    ·exact Nat.le_refl _
    ·exact ih (w.setCell a _) _
   ·split
    ·rename_i w1 l h;have h1:=ih w1 (es++l.toArray.map (⟨.cell ·,true,m==Mode.atomic⟩));rw[Ob h] at h1;exact h1
    ·exact Nat.le_refl _)
 | new o k ih=>intro w es;simp only[Sem.runT];exact ih _ {w with heap:=w.heap.push o} es
 | shape r k ih=>intro w es;simp only[Sem.runT];exact ih _ _ _
 | freeze a n k ih =>
  intro w es;simp only[Sem.runT];have h:=ih (w.freeze a n) es;have e:(w.freeze a n).drawn=w.drawn:=by unfold World.freeze;split<;>rfl
  rw[e] at h;exact h
 | frozen a k ih=>intro w es;simp only[Sem.runT];exact ih _ _ _
 | getObj r k ih =>
  intro w es;simp only[Sem.runT];split
  ·exact Nat.le_refl _
  ·exact ih _ _ _
  ·exact Nat.le_refl _
 | setObj r o k ih =>
  intro w es;simp only[Sem.runT];split
  ·exact Nat.le_refl _
  ·exact ih {w with heap:=w.heap.setIfInBounds r o} _
  ·exact Nat.le_refl _
 | choose q k ih =>
  intro w es;simp only[Sem.runT];split
  ·exact ih _ _ _
  ·exact Nat.le_trans (Nat.le_add_right w.drawn 1) (ih _ {w with drawn:=w.drawn+1} es)
 | sys c k ih=>intro w es;simp only[Sem.runT];exact Nat.le_trans (Xw c w) (ih _ _ _)
 | program k ih=>intro w es;simp only[Sem.runT];exact ih _ _ _
 | mark m k ih=>intro w es;simp only[Sem.runT];exact ih _ _
 | halt h=>intro w es;exact Nat.le_refl _
def gN:Nat:=1
structure Y7 (X:Nat->Prop) (n:Nat) (w u:World):Prop where
 size:u.heap.size=w.heap.size
 old:∀b,X b->b<w.heap.size
 same:∀b,¬X b->u.heap[b]?=w.heap[b]?
 cov:∀b,X b->∃c e,w.heap[b]?=some (Obj.cells c e (0,0))/\u.heap[b]?=some (Obj.cells #[] e (0,0))
 pend:∀(b:Nat)(c:Array Value)(t:TypeId),w.heap[b]?=some (Obj.pending c t)->gN<=b
 os:u.os=w.os
 output:u.output=w.output
 tape:∀i q,i<n->u.tape (u.drawn+i) q=w.tape (w.drawn+i) q
def AJ(X:Nat->Prop)(e:Event):Prop :=
 match e.loc with
 | .cell a=>¬X a.block
 | .obj r=>¬X r
 | .mark .noRoom=>True
 | .mark (.extern _)=>True
 | .output=>True
 | _=>False
structure On (X:Nat->Prop) (n:Nat) (w u w' u':World):Prop where
 tw:w'.tape=w.tape
 tu:u'.tape=u.tape
 drew:∃k,k<=n/\w'.drawn=w.drawn+k/\u'.drawn=u.drawn+k/\Y7 X (n-k) w' u'
theorem On.mk0{X:Nat->Prop}{n:Nat}{w u w' u':World}(h:Y7 X n w' u')(tw:w'.tape=w.tape)(tu:u'.tape=u.tape)(dw:w'.drawn=w.drawn)(du:u'.drawn=u.drawn):On X n w u w' u':=⟨tw,tu,0,Nat.zero_le _,dw,du,h⟩
theorem On.refl{X:Nat->Prop}{n:Nat}{w u:World}(h:Y7 X n w u):On X n w u w u:=.mk0 h rfl rfl rfl rfl
structure Pk (X:Nat->Prop) (n:Nat) (w u w' u':World):Prop where
 sim:Y7 X n w' u'
 tw:w'.tape=w.tape
 tu:u'.tape=u.tape
 dw:w'.drawn=w.drawn
 du:u'.drawn=u.drawn
theorem Pk.on{X:Nat->Prop}{n:Nat}{w u w' u':World}(h:Pk X n w u w' u'):On X n w u w' u':=.mk0 h.sim h.tw h.tu h.dw h.du
def free:Halt->Bool
 | .stuck _=>true
 | .unsupported (.initOrder _)=>false
 | .unsupported _=>true
 | _=>false
def Ek:Halt->Bool
 | .unsupported (.initOrder g)=>decide (g<gN)
 | .unsupported _=>false
 | .stuck _=>false
 | .panic _=>false
 | _=>true
def QR(X:Nat->Prop)(n:Nat)(w u:World)(es:Array Event){α:Type}(rw ru:Result α×Array Event):Prop :=
 match ru with
 | (.ok a u',eu)=>(∀e∈eu,e∈es∨AJ X e)/\∃w',rw=(.ok a w',eu)/\On X n w u w' u'
 | (.halt h u',eu)=>Ek h=false/\(free h=false->(∀e∈eu,e∈es∨AJ X e)/\∃w',rw=(.halt h w',eu)/\On X n w u w' u')
def Bl(X:Nat->Prop)(n:Nat)(w u:World)(es:Array Event){α:Type}(rw ru:Result α×Array Event):Prop :=
 (LG rw.1<=w.drawn+n∨LG ru.1<=u.drawn+n)->QR X n w u es rw ru
def D3(P:Program)(X:Nat->Prop){α:Type}(s:Sem α):Prop:=∀n w u es,Y7 X n w u->Bl X n w u es (s.runT P w es) (s.runT P u es)
section
variable {P:Program} {X:Nat->Prop} {n:Nat} {α β:Type} {w u w1 u1:World} {es es1:Array Event}
theorem On.trans{k:Nat}{w2 u2:World}(hk:k<=n)(tw:w1.tape=w.tape)(tu:u1.tape=u.tape)(dw:w1.drawn=w.drawn+k)(du:u1.drawn=u.drawn+k)(h:On X (n-k) w1 u1 w2 u2):On X n w u w2 u2:=by
 obtain⟨m,hm,a,b,hs⟩:=h.drew;exact⟨h.tw.trans tw,h.tu.trans tu,k+m,by omega,by omega,by omega,by rw[← Nat.sub_sub];exact hs⟩
theorem Bl.after{k:Nat}{rw ru:Result α×Array Event}(hk:k<=n)(tw:w1.tape=w.tape)(tu:u1.tape=u.tape)(dw:w1.drawn=w.drawn+k)(du:u1.drawn=u.drawn+k)(h:Bl X (n-k) w1 u1 es1 rw ru)(he:∀e∈es1,e∈es∨AJ X e):Bl X n w u es rw ru:=by
 intro hd;have a0:∀{eu:Array Event},(∀e∈eu,e∈es1∨AJ X e)->∀e∈eu,e∈es∨AJ X e:=λh1 e hx=>(h1 e hx).elim (he e) .inr;have h:=h (hd.imp (λh=>by omega) λh=>by omega);match ru,h with
 | (.ok a u',eu),⟨h1,w',h2,h3⟩=>exact⟨a0 h1,w',h2,On.trans hk tw tu dw du h3⟩
 | (.halt k u',eu),⟨h0,h⟩=>exact⟨h0,λhf=>by obtain⟨h1,w',h2,h3⟩:=h hf;exact⟨a0 h1,w',h2,On.trans hk tw tu dw du h3⟩⟩
theorem Bl.on{rw ru:Result α×Array Event}(h:Bl X n w1 u1 es1 rw ru)(ho:Pk X n w u w1 u1)(he:∀e∈es1,e∈es∨AJ X e):Bl X n w u es rw ru :=
 Bl.after (k:=0) (Nat.zero_le _) ho.tw ho.tu ho.dw ho.du h he
theorem Bl.step{rw ru:Result α×Array Event}(h:Bl X n w u es1 rw ru)(he:∀e∈es1,e∈es∨AJ X e):Bl X n w u es rw ru :=
 Bl.after (k:=0) (Nat.zero_le _) rfl rfl rfl rfl h he
theorem BC{x:Event}(hx:AJ X x):∀e∈es.push x,e∈es∨AJ X e:=λe he=>by
 rcases Array.mem_push.1 he with h|rfl
 ·exact .inl h
 ·exact .inr hx
theorem Y7.cell(h:Y7 X n w u){a:Addr}(ha:¬X a.block):u.cell? a=w.cell? a:=by simp only[World.cell?,h.same _ ha]
theorem Y7.cellX(h:Y7 X n w u){a:Addr}(ha:X a.block):u.cell? a=none:=by
 obtain⟨c,e,-,hu⟩:=h.cov _ ha;simp only[World.cell?,hu];split<;>simp
theorem Y7.frozen(h:Y7 X n w u)(a:Addr):u.frozen? a=w.frozen? a:=by
 by_cases ha:X a.block
 ·obtain⟨c,e,hw,hu⟩:=h.cov _ ha;simp only[World.frozen?,hw,hu]
 ·simp only[World.frozen?,h.same _ ha]
theorem Y7.pendU(h:Y7 X n w u)(b:Nat)(c:Array Value)(t:TypeId)(hp:u.heap[b]?=some (Obj.pending c t)):gN<=b:=by
 by_cases hb:X b
 ·obtain⟨c,e,hw,hu⟩:=h.cov _ hb;rw[hu] at hp;cases hp
 ·exact h.pend b c t (by rw[← h.same b hb];exact hp)
theorem Y7.turn(h:Y7 X n w u){hw hu:Array Obj}(sw:hw.size=w.heap.size)(su:hu.size=u.heap.size)(same:∀b,¬X b->hu[b]?=hw[b]?)
  (cov:∀b,X b->∃c e,hw[b]?=some (Obj.cells c e (0,0))/\hu[b]?=some (Obj.cells #[] e (0,0))) (np:∀(b:Nat)(c:Array Value)(t:TypeId),hw[b]?=some (Obj.pending c t)->gN<=b):Pk X n w u {w with heap:=hw} {u with heap:=hu} :=
 ⟨⟨by show hu.size=hw.size;rw[su,sw,h.size],λb hb=>by show b<hw.size;rw[sw];exact h.old b hb,same,cov,np,h.os,h.output,h.tape⟩,rfl,rfl,rfl,rfl⟩
end
theorem GJ:∀(s n:Nat),(leBytes s n).length=s
 | 0,_=>rfl
 | s+1,n=>by simp[leBytes,GJ s]
theorem Xx{v:Value}{bs:List UInt8}(h:v.bytes?=some bs):0<bs.length:=by
 cases v<;>simp only[Value.bytes?] at h<;>first|(cases h;done)|(cases h;simp;done)|skip
 ·rename_i k n;cases h
  rw[GJ];cases k<;>simp[IntKind.bits]
 ·rename_i k n;cases h
  rw[GJ];cases k<;>simp[FloatKind.bytes]
 ·rename_i k a b;cases h
  rw[List.length_append,GJ,GJ];cases k<;>simp[FloatKind.bytes]
section
variable {P:Program} {at_ k:Addr} {t:TypeId} {atomic:Bool} {w u:World}
theorem ME(h:u.heap[at_.block]?=w.heap[at_.block]?):u.seen P at_ t k atomic=w.seen P at_ t k atomic:=by
 unfold World.seen;rw[h]
theorem Oc(e:TypeId)(f x n:Nat)(hn:0<n)(r:List (Nat×Nat×List UInt8)):seenCells P #[] e (f+1) x (x+n)≠.ok r:=by
 unfold seenCells;intro h;rw[if_neg (by omega)] at h;simp only at h;split at h
 ·cases h
 ·split at h
  ·cases h
  ·simp at h
theorem MF{e:TypeId}{f:Nat×Nat}(h:u.heap[at_.block]?=some (.cells #[] e f))(r:Array Value×TypeId×(Nat×Nat)×Nat×Value×List (Nat×Nat×List UInt8)):u.seen P at_ t k atomic≠.ok r:=by
 unfold World.seen;rw[h];intro hr;simp only[bind,Except.bind,pure,Except.pure] at hr
 have a0:∀{v:Value} {n:Nat},Option.map (λx=>x.length) v.bytes?=some n->0<n:=λ{v n} h=>by
  cases hb:v.bytes? with
  | none=>rw[hb] at h;cases h
  | some bs=>rw[hb] at h;cases h;exact Xx hb
 repeat' (split at hr)
 all_goals first
  | (cases hr;done)
  | exact absurd ‹seenCells P #[] e _ _ _=Except.ok _› (Oc e _ _ _ (a0 ‹Option.map (λx:List UInt8=>x.length) (Value.bytes? _)=some _›) _)
theorem Od(h:u.heap[at_.block]?=w.heap[at_.block]?):u.viewLoad P at_ t k atomic=w.viewLoad P at_ t k atomic:=by
 unfold World.viewLoad;rw[ME h]
theorem Ts{v:Value}{l:List Addr}(h:u.viewLoad P at_ t k atomic=.ok (v,l)):(∀a∈l,a.block=at_.block)/\∀e f,u.heap[at_.block]?≠some (.cells #[] e f):=by
 unfold World.viewLoad at h;cases hs:u.seen P at_ t k atomic with
 | error m=>rw[hs] at h;cases h
 | ok r =>
  rw[hs] at h;obtain⟨c,e,f,first,a1,a0⟩:=r;simp only[bind,Except.bind,pure,Except.pure] at h;refine⟨λa ha=>?_,λe' f' he=>MF he _ hs⟩;split at h
  ·cases h
   obtain⟨x,_,rfl⟩:=List.mem_map.1 ha;rfl
  ·cases h
theorem QU{v:Value}{u':World}{l:List Addr}(h:u.viewStore P at_ t k v atomic=.ok (u',l)):
  ∃c e f,u'={u with heap:=u.heap.setIfInBounds at_.block (.cells c e f)}/\(∀a∈l,a.block=at_.block)/\(∀e f,u.heap[at_.block]?≠some (.cells #[] e f))/\
   ∀w:World,u.heap[at_.block]?=w.heap[at_.block]?->w.viewStore P at_ t k v atomic=.ok ({w with heap:=w.heap.setIfInBounds at_.block (.cells c e f)},l):=by
 have he:∀w:World,u.heap[at_.block]?=w.heap[at_.block]?->w.seen P at_ t k atomic=u.seen P at_ t k atomic:=λw h=>(ME h).symm;unfold World.viewStore at h ⊢
 cases hs:u.seen P at_ t k atomic with
 | error m =>
  rw[hs] at h;simp only[bind,Except.bind] at h;split at h
  ·cases h
  ·cases h
 | ok r =>
  rw[hs] at h he;obtain⟨c,e,f,first,a1,a0⟩:=r;simp only[bind,Except.bind,pure,Except.pure] at h ⊢
  repeat' (split at h)
  all_goals first
   | (cases h;done)
   | (cases h
      refine⟨_,_,_,rfl,λa ha=>?_,λe' f' he=>MF he _ hs,λw hw=>?_⟩
      ·obtain⟨x,_,rfl⟩:=List.mem_map.1 ha;rfl
      ·rw[he w hw];simp_all)
end
section
variable {P:Program} {X:Nat->Prop} {α β:Type}
theorem D3.pure(a:α):D3 P X (Sem.pure a):=λ_ w _ _ h _=>⟨λ_ he=>.inl he,w,rfl,On.refl h⟩
theorem D3.pure'(a:α):D3 P X (Pure.pure a:Sem α):=D3.pure a
theorem D3.halt(h:Halt)(hh:Ek h=false:=by rfl):D3 P X (Sem.halt h:Sem α):=λ_ w _ _ hs _=>⟨hh,λ_=>⟨λ_ he=>.inl he,w,rfl,On.refl hs⟩⟩
theorem QV{u:World}{a:Addr}{e:TypeId}(hu:u.heap[a.block]?=some (.cells #[] e (0,0)))(s:String)(es:Array Event)(n:Nat)(w0 u0:World)(rw:Result α×Array Event):Bl X n w0 u0 es rw (.halt (u.noCell a s) u,es):=by
 intro _;unfold World.noCell;rw[hu];exact⟨rfl,λh=>by cases h⟩
theorem LH{n:Nat}{w u:World}(h:Y7 X n w u){a:Addr}(ha:¬X a.block)(s:String)(es:Array Event):Bl X n w u es ((.halt (w.noCell a s) w,es):Result α×Array Event) (.halt (u.noCell a s) u,es):=by
 intro _;have hp:=h.pend a.block;unfold World.noCell;rw[h.same _ ha];split
 ·rename_i c t ho;exact⟨by simpa [Ek] using hp c t ho,λ_=>⟨λ_ he=>.inl he,w,rfl,On.refl h⟩⟩
 ·exact⟨rfl,λh=>by cases h⟩
 ·exact⟨rfl,λh=>by cases h⟩
theorem QW{es:Array Event}{l:List Addr}{b:Nat}(hl:∀a∈l,a.block=b)(hb:¬X b)(wr at_:Bool):∀e∈es++l.toArray.map (λa=>(⟨.cell a,wr,at_⟩:Event)),e∈es∨AJ X e:=λe he=>by
 rcases Array.mem_append.1 he with h|h
 ·exact .inl h
 ·obtain⟨a,ha,rfl⟩:=Array.mem_map.1 h;refine .inr ?_;show ¬X a.block
  rw[hl a (by simpa using ha)];exact hb
theorem D3.load{m:Mode}{a:Addr}{k:Value->Sem α}(hk:∀v,D3 P X (k v)):D3 P X (Sem.load m a k):=λn w u es h=>by
 simp only[Sem.runT];by_cases ha:X a.block
 ·rw[h.cellX ha];obtain⟨c,e,-,hu⟩:=h.cov _ ha;simp only[World.farLoad,hu];exact QV hu _ _ _ _ _ _
 ·rw[h.cell ha];cases hc:w.cell? a with
  | some v=>exact (hk v n w u _ h).step (BC ha)
  | none =>
   have hn:=LH (α:=α) h ha "load: no such cell" es;simp only[World.farLoad,h.same _ ha];cases ho:w.heap[a.block]? with
   | none=>exact hn
   | some o =>
    cases o with
    | view x t =>
     simp only;cases hv:u.viewLoad P x t a (m == .atomic) with
     | error why=>exact λ_=>⟨rfl,λh=>by cases h⟩
     | ok r =>
      obtain⟨v,l⟩:=r;obtain⟨h1,h2⟩:=Ts hv;have hx:¬X x.block:=λhx=>by obtain⟨c,e,-,hu⟩:=h.cov _ hx;exact h2 _ _ hu
      rw[← Od (h.same _ hx),hv];exact (hk v n w u _ h).step (QW h1 hx _ _)
    | _=>exact hn
theorem Dz(w:World)(a:Addr)(v:Value)(b:Nat):(w.setCell a v).heap[b]?=(if a.block=b then (w.heap[b]?).map (fun | .cells c elem frozen=>.cells (if a.spot.isSome then c else c.setIfInBounds a.off v) elem frozen|o=>o) else w.heap[b]?):=by
 simp only[World.setCell,Array.getElem?_modify];rfl
theorem Y7.setCell{n:Nat}{w u:World}(h:Y7 X n w u)(a:Addr)(v:Value)(ha:¬X a.block):Pk X n w u (w.setCell a v) (u.setCell a v):=by
 refine h.turn (by simp) (by simp) (λb hb=>?_) (λb hb=>?_) (λb x t hx=>?_)
 ·show (u.setCell a v).heap[b]?=(w.setCell a v).heap[b]?
  rw[Dz,Dz,h.same b hb]
 ·show ∃c e,(w.setCell a v).heap[b]?=_/\(u.setCell a v).heap[b]?=_
  have a1:¬a.block=b:=λe=>ha (e ▸ hb);rw[Dz,Dz,if_neg a1,if_neg a1];exact h.cov b hb
 ·have a0:(w.setCell a v).heap[b]?=_:=hx;rw[Dz] at a0;split at a0
  ·cases ho:w.heap[b]? with
   | none=>rw[ho] at a0;simp at a0
   | some o =>
    rw[ho] at a0;cases o<;>simp at a0
    exact h.pend b _ _ (by rw[ho])
  ·exact h.pend b _ _ a0
theorem Y7.setCells{n:Nat}{w u:World}(h:Y7 X n w u)(r:Nat)(c:Array Value)(e:TypeId)(f:Nat×Nat)(hr:¬X r):Pk X n w u {w with heap:=w.heap.setIfInBounds r (.cells c e f)} {u with heap:=u.heap.setIfInBounds r (.cells c e f)}:=by
 refine h.turn (by simp) (by simp) (λb hb=>?_) (λb hb=>?_) (λb a t hx=>?_)
 ·simp only[Array.getElem?_setIfInBounds,h.size,h.same b hb]
 ·have a0:¬r=b:=λe=>hr (e ▸ hb);simp only[Array.getElem?_setIfInBounds,if_neg a0];exact h.cov b hb
 ·simp only[Array.getElem?_setIfInBounds] at hx;split at hx
  ·split at hx<;>cases hx
  ·exact h.pend b a t hx
theorem D3.store{m:Mode}{a:Addr}{v:Value}{k:Sem α}(hk:D3 P X k):D3 P X (Sem.store m a v k):=λn w u es h=>by
 have main:Bl X n w u es (match w.cell? a with
  | some _=>if w.frozen? a then (.halt (.unsupported (.unsafePointer "a write to bytes that a string shares")) w,es) else k.runT P (w.setCell a v) (es.push ⟨.cell a,true,m == .atomic⟩)
  | none=>match w.farStore P a v (m == .atomic) with
   | .ok (w,touched)=>k.runT P w (es++touched.toArray.map (⟨.cell ·,true,m == .atomic⟩))
   | .error h=>(.halt h w,es)) (match u.cell? a with
  | some _=>if u.frozen? a then (.halt (.unsupported (.unsafePointer "a write to bytes that a string shares")) u,es) else k.runT P (u.setCell a v) (es.push ⟨.cell a,true,m == .atomic⟩)
  | none=>match u.farStore P a v (m == .atomic) with
   | .ok (w,touched)=>k.runT P w (es++touched.toArray.map (⟨.cell ·,true,m == .atomic⟩))
   | .error h=>(.halt h u,es)):=by
  by_cases ha:X a.block
  ·rw[h.cellX ha];obtain⟨c,e,-,hu⟩:=h.cov _ ha;simp only[World.farStore,hu];exact QV hu _ _ _ _ _ _
  ·rw[h.cell ha,h.frozen];cases hc:w.cell? a with
   | some x =>
    cases hf:w.frozen? a with
    | true=>exact λ_=>⟨rfl,λh=>by cases h⟩
    | false=>exact (hk _ _ _ _ (h.setCell a v ha).sim).on (h.setCell a v ha) (BC ha)
   | none =>
    have hn:=LH (α:=α) h ha "store: no such cell" es;simp only[World.farStore,h.same _ ha];cases ho:w.heap[a.block]? with
    | none=>exact hn
    | some o =>
     cases o with
     | view x t =>
      simp only;cases hv:u.viewStore P x t a v (m == .atomic) with
      | error why=>exact λ_=>⟨rfl,λh=>by cases h⟩
      | ok r =>
       obtain⟨u',l⟩:=r;obtain⟨c,e,f,rfl,h1,h2,h3⟩:=QU hv;have hx:¬X x.block:=λhx=>by obtain⟨c,e,-,hu⟩:=h.cov _ hx;exact h2 _ _ hu
       rw[h3 w (h.same _ hx)];exact (hk _ _ _ _ (h.setCells _ c e f hx).sim).on (h.setCells _ c e f hx) (QW h1 hx _ _)
     | _=>exact hn
 cases v<;>first|(simp only[Sem.runT];exact main)|(simp only[Sem.runT];exact λ_=>⟨rfl,λh=>by cases h⟩)
theorem D3.new{o:Obj}{k:Nat->Sem α}(ho:(∀a t,o≠.view a t)/\∀c t,o≠.pending c t)(hk:∀r,D3 P X (k r)):D3 P X (Sem.new o k):=λn w u es h=>by
 have hon:Pk X n w u {w with heap:=w.heap.push o} {u with heap:=u.heap.push o}:=by
  have hs:=h.size;refine⟨⟨by simp[hs],λb hb=>by have:=h.old b hb;simp;omega,λb hb=>?_,λb hb=>?_,λb a t hx=>?_,h.os,h.output,h.tape⟩,rfl,rfl,rfl,rfl⟩
  ·simp only[Array.getElem?_push,hs,h.same b hb]
  ·have a0:b≠w.heap.size:=by have:=h.old b hb;omega
   simp only[Array.getElem?_push,hs,if_neg a0];exact h.cov b hb
  ·simp only[Array.getElem?_push] at hx;split at hx
   ·exact absurd (Option.some.inj hx) (ho.2 a t)
   ·exact h.pend b a t hx
 simp only[Sem.runT];rw[h.size];exact (hk w.heap.size _ _ _ es hon.sim).on hon (λe he=>.inl he)
theorem D3.frozen{a:Addr}{k:Bool->Sem α}(hk:∀b,D3 P X (k b)):D3 P X (Sem.frozen a k):=λn w u es h=>by
 simp only[Sem.runT,h.frozen];exact hk _ _ _ _ _ h
theorem D3.shape{r:Nat}{k:Option (TypeId×Nat)->Sem α}(hb:∀t n m,k (some (t,n))=k (some (t,m)))(hk:∀o,D3 P X (k o)):D3 P X (Sem.shape r k):=λn w u es h=>by
 simp only[Sem.runT]
 have e:k (u.shape? r)=k (w.shape? r):=by
  by_cases hr:X r
  ·obtain⟨c,e,hw,hu⟩:=h.cov r hr;simp only[World.shape?,hw,hu];exact hb _ _ _
  ·simp only[World.shape?,h.same r hr]
 rw[e];exact hk _ _ _ _ _ h
theorem D3.getObj{r:Nat}{k:Obj->Sem α}(hk:∀o,D3 P X (k o)):D3 P X (Sem.getObj r k):=λn w u es h=>by
 simp only[Sem.runT];by_cases hr:X r
 ·obtain⟨c,e,hw,hu⟩:=h.cov r hr;rw[hu];exact λ_=>⟨rfl,λh=>by cases h⟩
 ·rw[h.same r hr];cases ho:w.heap[r]? with
  | none=>exact λ_=>⟨rfl,λh=>by cases h⟩
  | some o =>
   cases o with
   | cells=>exact λ_=>⟨rfl,λh=>by cases h⟩
   | _=>exact (hk _ _ _ _ _ h).step (BC hr)
theorem D3.setObj{r:Nat}{o:Obj}{k:Sem α}(hv:(∀a t,o≠.view a t)/\∀c t,o≠.pending c t)(hk:D3 P X k):D3 P X (Sem.setObj r o k):=λn w u es h=>by
 simp only[Sem.runT];by_cases hr:X r
 ·obtain⟨c,e,hw,hu⟩:=h.cov r hr;rw[hu];exact λ_=>⟨rfl,λh=>by cases h⟩
 ·have hon:Pk X n w u {w with heap:=w.heap.setIfInBounds r o} {u with heap:=u.heap.setIfInBounds r o}:=by
   refine h.turn (by simp) (by simp) (λb hb=>?_) (λb hb=>?_) (λb a t hx=>?_)
   ·simp only[Array.getElem?_setIfInBounds,h.size,h.same b hb]
   ·have a0:¬r=b:=λe=>hr (e ▸ hb);simp only[Array.getElem?_setIfInBounds,if_neg a0];exact h.cov b hb
   ·simp only[Array.getElem?_setIfInBounds] at hx;split at hx
    ·split at hx
     ·exact absurd (Option.some.inj hx) (hv.2 a t)
     ·cases hx
    ·exact h.pend b a t hx
  rw[h.same r hr];cases ho:w.heap[r]? with
  | none=>exact λ_=>⟨rfl,λh=>by cases h⟩
  | some x =>
   cases x with
   | cells=>exact λ_=>⟨rfl,λh=>by cases h⟩
   | _=>exact (hk _ _ _ _ hon.sim).on hon (BC hr)
theorem Y7.draw{n:Nat}{w u:World}(h:Y7 X (n+1) w u):Y7 X n {w with drawn:=w.drawn+1} {u with drawn:=u.drawn+1} :=
 ⟨h.size,h.old,h.same,h.cov,h.pend,h.os,h.output,λi q hi=>by have:=h.tape (1+i) q (by omega);simp only[← Nat.add_assoc] at this;exact this⟩
theorem D3.choose{q:Question}{k:Nat->Sem α}(hk:∀n,D3 P X (k n)):D3 P X (Sem.choose q k):=λn w u es h=>by
 simp only[Sem.runT];split
 ·exact hk _ _ _ _ _ h
 ·cases n with
  | zero =>
   intro hd;exfalso
   have h1:=Jh P (k (q.cut (w.tape w.drawn q))) {w with drawn:=w.drawn+1} es;have h2:=Jh P (k (q.cut (u.tape u.drawn q))) {u with drawn:=u.drawn+1} es;simp only at h1 h2;omega
  | succ n =>
   have e:u.tape u.drawn q=w.tape w.drawn q:=h.tape 0 q (by omega);rw[e];exact Bl.after (k:=1) (w1:={w with drawn:=w.drawn+1}) (u1:={u with drawn:=u.drawn+1}) (by omega) rfl rfl rfl rfl (hk _ n _ _ es h.draw) (λe he=>.inl he)
theorem D3.program{k:Program->Sem α}(hk:D3 P X (k P)):D3 P X (Sem.program k):=λn w u es h=>by
 simp only[Sem.runT];exact hk _ _ _ _ h
theorem D3.room{k:Sem α}(hk:D3 P X k):D3 P X (Sem.mark .noRoom k):=λn w u es h=>by
 simp only[Sem.runT];exact (hk _ _ _ _ h).step (BC trivial)
theorem D3.extern{f:FuncId}{k:Sem α}(hk:D3 P X k):D3 P X (Sem.mark (.extern f) k):=λn w u es h=>by
 simp only[Sem.runT];exact (hk _ _ _ _ h).step (BC trivial)
theorem Aad(os:Os):∃r os',Kernel.perform .env os=.done (r,os'):=⟨_,_,rfl⟩
theorem D3.sysEnv{k:SysRet->Sem α}(hk:∀r,D3 P X (k r)):D3 P X (Sem.sys .env k):=λn w u es h=>by
 simp only[Sem.runT];obtain⟨r,os',e⟩:=Aad w.os;have e':Kernel.perform .env u.os=.done (r,os'):=by rw[h.os];exact e
 have key:∀r w1 u1,w.sys .env=(r,w1)->u.sys .env=(r,u1)->Y7 X n w1 u1->w1.tape=w.tape->u1.tape=u.tape->w1.drawn=w.drawn->u1.drawn=u.drawn->Bl X n w u es ((k (w.sys .env).1).runT P (w.sys .env).2 (es.push ⟨.output,true,false⟩)) ((k (u.sys .env).1).runT P (u.sys .env).2 (es.push ⟨.output,true,false⟩)):=by
  intro r w1 u1 h1 h2 hs a b c d;rw[h1,h2];exact Bl.after (k:=0) (Nat.zero_le _) a b c d (hk r _ _ _ _ (by simpa using hs)) (BC trivial)
 by_cases hr:r=.wouldBlock
 ·subst hr;exact key .wouldBlock w u (by simp[World.sys,World.ask,e]) (by simp[World.sys,World.ask,e']) h rfl rfl rfl rfl
 ·exact key r {w with os:=os'} {u with os:=os'} (by cases r<;>first|exact absurd rfl hr|simp[World.sys,World.ask,e]) (by cases r<;>first|exact absurd rfl hr|simp[World.sys,World.ask,e']) ⟨h.size,h.old,h.same,h.cov,h.pend,rfl,h.output,h.tape⟩ rfl rfl rfl rfl
theorem D3.bind{x:Sem α}{f:α->Sem β}(hx:D3 P X x)(hf:∀a,D3 P X (f a)):D3 P X (x >>= f):=λn w u es h hd=>by
 have mono:∀v,LG (x.runT P v es).1<=LG ((x >>= f).runT P v es).1:=λv=>by
  show _<=LG ((x.bind f).runT P v es).1
  rw[Sem.runT_bind'];match x.runT P v es with
  | (.ok a v1,e1)=>exact Jh P (f a) v1 e1
  | (.halt k v1,e1)=>exact Nat.le_refl _
 have h1:=hx n w u es h (hd.imp (Nat.le_trans (mono w)) (Nat.le_trans (mono u)));revert hd
 show Bl X n w u es ((x.bind f).runT P w es) ((x.bind f).runT P u es)
 rw[Sem.runT_bind',Sem.runT_bind'];generalize x.runT P u es=ru at h1;match ru,h1 with
 | (.ok a u',eu),⟨he,w',e,ho⟩ =>
  rw[e];obtain⟨k,hk,dw,du,hs⟩:=ho.drew;exact Bl.after hk ho.tw ho.tu dw du (hf a _ _ _ _ hs) he
 | (.halt k u',eu),⟨h0,hh⟩=>exact λ_=>⟨h0,λhf=>by obtain⟨he,w',e,ho⟩:=hh hf;rw[e];exact⟨he,w',rfl,ho⟩⟩
end
section
variable {P:Program} {X:Nat->Prop} {α β:Type}
theorem E2{f:Program->Sem α}(h:D3 P X (f P)):D3 P X (program >>= f):=D3.program h
theorem AbN{x:Sem α}{f:α->β}(h:D3 P X x):D3 P X (f <$> x):=D3.bind (f:=λa=>Pure.pure (f a)) h (λ_=>D3.pure' _)
theorem E9(q:Question):D3 P X (choose q):=D3.choose (λ_=>D3.pure _)
theorem H9(a:Addr)(m:Mode):D3 P X (load a m):=D3.load (λ_=>D3.pure _)
theorem F9(a:Addr)(v:Value)(m:Mode):D3 P X (store a v m):=D3.store (D3.pure _)
theorem F7(u:Unsupported)(h:Ek (.unsupported u)=false):D3 P X (unsupported u:Sem α):=D3.halt _ h
theorem D8(s:String):D3 P X (stuck s:Sem α):=D3.halt _
theorem G7(t:TypeId):D3 P X (typeInfo t):=by
 unfold typeInfo;refine E2 ?_;split<;>first|exact D3.pure' _|exact D3.halt _
theorem I7(t:TypeId):D3 P X (underlying t):=by
 unfold underlying;refine E2 ?_;split<;>first|exact D3.pure' _|exact D3.halt _
theorem G5(t:TypeId):D3 P X (sizeOf t):=D3.bind (G7 t) (λ_=>D3.pure' _)
theorem G8(t:TypeId):D3 P X (zeroValue t):=by
 unfold zeroValue;refine D3.bind (G7 t) (λ_=>?_);split<;>first|exact D3.pure' _|exact D3.halt _
theorem K1(t:TypeId):D3 P X (isAgg t):=by
 unfold isAgg;refine D3.bind (I7 t) (λ_=>?_);split<;>exact D3.pure' _
theorem LI(a:Addr):∀(n i:Nat)(acc:Array Value),D3 P X (loadCellsFrom a i n acc)
 | 0,_,_=>D3.pure' _
 | n+1,i,_=>D3.bind (D3.load (λ_=>D3.pure _)) (λ_=>LI a n (i+1) _)
theorem F6(a:Addr)(n:Nat):D3 P X (loadCells a n):=LI a n 0 _
theorem E8(a:Addr):∀(vs:List Value)(i:Nat),D3 P X (storeCells a vs i)
 | [],_=>D3.pure' _
 | _::vs,i=>D3.bind (D3.store (D3.pure _)) (λ_=>E8 a vs (i+1))
theorem E5(t:TypeId)(a:Addr):D3 P X (loadVar t a):=by
 unfold loadVar;refine D3.bind (K1 t) (λb=>?_);split
 ·exact D3.bind (G5 t) (λn=>D3.bind (F6 a n) (λ_=>D3.pure' _))
 ·exact D3.load (λ_=>D3.pure _)
theorem E1(t:TypeId)(a:Addr)(v:Value):D3 P X (storeVar t a v):=by
 unfold storeVar;refine D3.bind (G5 t) (λn=>?_);split
 ·exact D3.bind (D3.halt _) (λ_=>E8 a _ _)
 ·exact E8 a _ _
theorem K2(t:TypeId)(cs:Array Value):D3 P X (newRow t cs):=D3.bind (D3.new (by simp) (λ_=>D3.pure _)) (λ_=>D3.pure' _)
theorem J7(t:TypeId)(v:Value):D3 P X (newVar t v):=K2 t _
theorem G9(t:TypeId):D3 P X (elemOf t):=by
 unfold elemOf;refine D3.bind (I7 t) (λ_=>?_);split<;>first|exact D3.pure' _|exact D3.halt _
theorem I0(t:TypeId)(cs:Array Value)(off:Nat):D3 P X (part t cs off):=by
 unfold part;refine D3.bind (K1 t) (λb=>?_);split
 ·exact D3.bind (G5 t) (λ_=>D3.pure' _)
 ·split<;>first|exact D3.pure' _|exact D3.halt _
theorem F2(e:RuntimeError):D3 P X (runtimePanic e:Sem α):=by
 unfold runtimePanic;refine E2 ?_;cases e with
 | typeAssertion i c a m=>exact D3.bind (G9 _) (λt=>D3.bind (J7 t _) (λ_=>D3.halt _))
 | panicNil=>exact D3.bind (G9 _) (λt=>D3.bind (J7 t _) (λ_=>D3.halt _))
 | _=>exact D3.halt _
theorem F1(k:IntKind)(x y:Int)(c:BoundsCode):D3 P X (boundsPanic k x y c:Sem α):=by
 unfold boundsPanic;dsimp only
 split
 ·exact D3.bind (AbN (D3.choose (λ_=>D3.pure _))) (λ_=>F2 _)
 ·exact D3.bind (D3.pure' _) (λ_=>F2 _)
theorem F8(v:Value):D3 P X (asIntOf v):=by unfold asIntOf;split<;>first|exact D3.pure' _|exact D3.halt _
theorem K3(v:Value):D3 P X (asInt v):=D3.bind (F8 v) (λ_=>D3.pure' _)
theorem H0(v:Value):D3 P X (asBool v):=by unfold asBool;split<;>first|exact D3.pure' _|exact D3.halt _
theorem K4(v:Value):D3 P X (asString v):=by unfold asString;split<;>first|exact D3.pure' _|exact D3.halt _
theorem G0(v:Value):D3 P X (asAgg v):=by unfold asAgg;split<;>first|exact D3.pure' _|exact D3.halt _
theorem H7(v:Value):D3 P X (asAddr v):=by unfold asAddr;split<;>first|exact D3.pure' _|exact D3.halt _|exact F2 _
theorem H6(v:Value):D3 P X (Instr.sureAddr v):=by unfold Instr.sureAddr;split<;>first|exact D3.pure' _|exact D3.halt _
theorem I1(n:Nat):D3 P X (askRoom n):=by unfold askRoom;split<;>first|exact D3.room (D3.pure _)|exact D3.pure' _
theorem Xy{γ:Type}{f:γ->Sem β}(hf:∀x,D3 P X (f x))(xs:Array γ):D3 P X (xs.mapM f):=by
 rw[Array.mapM_eq_mapM_toList];refine AbN ?_;induction xs.toList with
 | nil=>exact D3.pure' _
 | cons x l ih =>
  rw[List.mapM_cons];exact D3.bind (hf x) (λ_=>D3.bind ih (λ_=>D3.pure' _))
theorem Acz(t:TypeId)(b:Bool)(v:Value):D3 P X (Instr.alloc t b v):=by
 unfold Instr.alloc;refine D3.bind (G8 t) (λz=>?_);split
 ·exact D3.bind (E1 _ _ _) (λ_=>D3.pure' _)
 ·exact D3.bind (J7 _ _) (λ_=>D3.pure' _)
theorem Ahh(t:TypeId)(v:Value):D3 P X (Instr.box t v):=D3.bind (J7 t v) (λ_=>D3.pure' _)
theorem Aae(t:TypeId)(v:Value):D3 P X (Instr.loadAt t v):=D3.bind (H6 v) (λ_=>E5 t _)
theorem Xz(t:TypeId)(a v:Value):D3 P X (Instr.storeAt t a v):=D3.bind (H6 a) (λ_=>E1 t _ v)
theorem Ac0(t:TypeId)(v:Value)(f:Nat):D3 P X (Instr.field t v f):=by
 unfold Instr.field;repeat' first|(with_reducible first|exact D3.pure' _|exact D3.pure _|exact D3.halt _|assumption|exact D8 _|exact G7 _|exact I7 _|exact G5 _|exact G8 _|exact K1 _|exact F6 _ _|exact E8 _ _ _|exact E5 _ _|exact E1 _ _ _|exact K2 _ _|exact J7 _ _|exact G9 _|exact I0 _ _ _|exact F2 _|exact F1 _ _ _ _|exact F8 _|exact K3 _|exact H0 _|exact K4 _|exact G0 _|exact H7 _|exact H6 _|exact I1 _|exact E9 _|exact H9 _ _|exact F9 _ _ _|refine E2 ?_|refine D3.bind ?_ (λ_=>?_))|((with_reducible refine F7 _ ?_)<;>rfl)|(dsimp only)|split
theorem Ac1(t:TypeId)(v i:Value):D3 P X (Instr.index t v i):=by
 unfold Instr.index;repeat' first|(with_reducible first|exact D3.pure' _|exact D3.pure _|exact D3.halt _|assumption|exact D8 _|exact G7 _|exact I7 _|exact G5 _|exact G8 _|exact K1 _|exact F6 _ _|exact E8 _ _ _|exact E5 _ _|exact E1 _ _ _|exact K2 _ _|exact J7 _ _|exact G9 _|exact I0 _ _ _|exact F2 _|exact F1 _ _ _ _|exact F8 _|exact K3 _|exact H0 _|exact K4 _|exact G0 _|exact H7 _|exact H6 _|exact I1 _|exact E9 _|exact H9 _ _|exact F9 _ _ _|refine E2 ?_|refine D3.bind ?_ (λ_=>?_))|((with_reducible refine F7 _ ?_)<;>rfl)|(dsimp only)|split
theorem XA(t:TypeId)(v i:Value):D3 P X (Instr.indexAt t v i):=by
 unfold Instr.indexAt;repeat' first|(with_reducible first|exact D3.pure' _|exact D3.pure _|exact D3.halt _|assumption|exact D8 _|exact G7 _|exact I7 _|exact G5 _|exact G8 _|exact K1 _|exact F6 _ _|exact E8 _ _ _|exact E5 _ _|exact E1 _ _ _|exact K2 _ _|exact J7 _ _|exact G9 _|exact I0 _ _ _|exact F2 _|exact F1 _ _ _ _|exact F8 _|exact K3 _|exact H0 _|exact K4 _|exact G0 _|exact H7 _|exact H6 _|exact I1 _|exact E9 _|exact H9 _ _|exact F9 _ _ _|refine E2 ?_|refine D3.bind ?_ (λ_=>?_))|((with_reducible refine F7 _ ?_)<;>rfl)|(dsimp only)|split
theorem Ac2(t:TypeId)(ps:Array (Nat×Value)):D3 P X (Instr.build t ps):=by
 unfold Instr.build;refine D3.bind (G8 t) (λz=>D3.bind (I7 t) (λd=>?_));split
 ·refine D3.bind (Xy (λf=>D3.bind (G5 _) (λ_=>D3.pure' _)) _) (λpl=>?_);repeat' first|(with_reducible first|exact D3.pure' _|exact D3.pure _|exact D3.halt _|assumption|exact D8 _|exact G7 _|exact I7 _|exact G5 _|exact G8 _|exact K1 _|exact F6 _ _|exact E8 _ _ _|exact E5 _ _|exact E1 _ _ _|exact K2 _ _|exact J7 _ _|exact G9 _|exact I0 _ _ _|exact F2 _|exact F1 _ _ _ _|exact F8 _|exact K3 _|exact H0 _|exact K4 _|exact G0 _|exact H7 _|exact H6 _|exact I1 _|exact E9 _|exact H9 _ _|exact F9 _ _ _|refine E2 ?_|refine D3.bind ?_ (λ_=>?_))|((with_reducible refine F7 _ ?_)<;>rfl)|(dsimp only)|split
 ·repeat' first|(with_reducible first|exact D3.pure' _|exact D3.pure _|exact D3.halt _|assumption|exact D8 _|exact G7 _|exact I7 _|exact G5 _|exact G8 _|exact K1 _|exact F6 _ _|exact E8 _ _ _|exact E5 _ _|exact E1 _ _ _|exact K2 _ _|exact J7 _ _|exact G9 _|exact I0 _ _ _|exact F2 _|exact F1 _ _ _ _|exact F8 _|exact K3 _|exact H0 _|exact K4 _|exact G0 _|exact H7 _|exact H6 _|exact I1 _|exact E9 _|exact H9 _ _|exact F9 _ _ _|refine E2 ?_|refine D3.bind ?_ (λ_=>?_))|((with_reducible refine F7 _ ?_)<;>rfl)|(dsimp only)|split
 ·repeat' first|(with_reducible first|exact D3.pure' _|exact D3.pure _|exact D3.halt _|assumption|exact D8 _|exact G7 _|exact I7 _|exact G5 _|exact G8 _|exact K1 _|exact F6 _ _|exact E8 _ _ _|exact E5 _ _|exact E1 _ _ _|exact K2 _ _|exact J7 _ _|exact G9 _|exact I0 _ _ _|exact F2 _|exact F1 _ _ _ _|exact F8 _|exact K3 _|exact H0 _|exact K4 _|exact G0 _|exact H7 _|exact H6 _|exact I1 _|exact E9 _|exact H9 _ _|exact F9 _ _ _|refine E2 ?_|refine D3.bind ?_ (λ_=>?_))|((with_reducible refine F7 _ ?_)<;>rfl)|(dsimp only)|split
theorem QX(t:TypeId)(n:Nat)(ps:Array (Nat×Value)):D3 P X (Instr.buildSlice t n ps):=by
 unfold Instr.buildSlice;repeat' first|(with_reducible first|exact D3.pure' _|exact D3.pure _|exact D3.halt _|assumption|exact D8 _|exact G7 _|exact I7 _|exact G5 _|exact G8 _|exact K1 _|exact F6 _ _|exact E8 _ _ _|exact E5 _ _|exact E1 _ _ _|exact K2 _ _|exact J7 _ _|exact G9 _|exact I0 _ _ _|exact F2 _|exact F1 _ _ _ _|exact F8 _|exact K3 _|exact H0 _|exact K4 _|exact G0 _|exact H7 _|exact H6 _|exact I1 _|exact E9 _|exact H9 _ _|exact F9 _ _ _|refine E2 ?_|refine D3.bind ?_ (λ_=>?_))|((with_reducible refine F7 _ ?_)<;>rfl)|(dsimp only)|split
theorem XB(v:Value)(i:Nat):D3 P X (Instr.extract v i):=by
 unfold Instr.extract;repeat' first|(with_reducible first|exact D3.pure' _|exact D3.pure _|exact D3.halt _|assumption|exact D8 _|exact G7 _|exact I7 _|exact G5 _|exact G8 _|exact K1 _|exact F6 _ _|exact E8 _ _ _|exact E5 _ _|exact E1 _ _ _|exact K2 _ _|exact J7 _ _|exact G9 _|exact I0 _ _ _|exact F2 _|exact F1 _ _ _ _|exact F8 _|exact K3 _|exact H0 _|exact K4 _|exact G0 _|exact H7 _|exact H6 _|exact I1 _|exact E9 _|exact H9 _ _|exact F9 _ _ _|refine E2 ?_|refine D3.bind ?_ (λ_=>?_))|((with_reducible refine F7 _ ?_)<;>rfl)|(dsimp only)|split
theorem VG(fn:Fn)(a b:Array Value):D3 P X (Instr.makeFunc fn a b):=D3.pure' _
theorem MG(t:TypeId)(v:Value):D3 P X (Instr.makeInterface t v):=by
 unfold Instr.makeInterface;repeat' first|(with_reducible first|exact D3.pure' _|exact D3.pure _|exact D3.halt _|assumption|exact D8 _|exact G7 _|exact I7 _|exact G5 _|exact G8 _|exact K1 _|exact F6 _ _|exact E8 _ _ _|exact E5 _ _|exact E1 _ _ _|exact K2 _ _|exact J7 _ _|exact G9 _|exact I0 _ _ _|exact F2 _|exact F1 _ _ _ _|exact F8 _|exact K3 _|exact H0 _|exact K4 _|exact G0 _|exact H7 _|exact H6 _|exact I1 _|exact E9 _|exact H9 _ _|exact F9 _ _ _|refine E2 ?_|refine D3.bind ?_ (λ_=>?_))|((with_reducible refine F7 _ ?_)<;>rfl)|(dsimp only)|split
theorem XC(t:TypeId)(v:Option Value):D3 P X (Instr.makeMap t v):=by
 unfold Instr.makeMap;have hn:D3 P X (do pure (.map (some (← newObj (.map #[] 0)))):Sem Value):=D3.bind (D3.new (by simp) (λ_=>D3.pure _)) (λ_=>D3.pure' _);repeat' first|(with_reducible first|exact D3.pure' _|exact D3.pure _|exact D3.halt _|assumption|exact D8 _|exact G7 _|exact I7 _|exact G5 _|exact G8 _|exact K1 _|exact F6 _ _|exact E8 _ _ _|exact E5 _ _|exact E1 _ _ _|exact K2 _ _|exact J7 _ _|exact G9 _|exact I0 _ _ _|exact F2 _|exact F1 _ _ _ _|exact F8 _|exact K3 _|exact H0 _|exact K4 _|exact G0 _|exact H7 _|exact H6 _|exact I1 _|exact E9 _|exact H9 _ _|exact F9 _ _ _|refine E2 ?_|refine D3.bind ?_ (λ_=>?_))|((with_reducible refine F7 _ ?_)<;>rfl)|(dsimp only)|split
theorem Tt(t:TypeId)(a b:Value):D3 P X (Instr.makeSlice t a b):=by
 unfold Instr.makeSlice;repeat' first|(with_reducible first|exact D3.pure' _|exact D3.pure _|exact D3.halt _|assumption|exact D8 _|exact G7 _|exact I7 _|exact G5 _|exact G8 _|exact K1 _|exact F6 _ _|exact E8 _ _ _|exact E5 _ _|exact E1 _ _ _|exact K2 _ _|exact J7 _ _|exact G9 _|exact I0 _ _ _|exact F2 _|exact F1 _ _ _ _|exact F8 _|exact K3 _|exact H0 _|exact K4 _|exact G0 _|exact H7 _|exact H6 _|exact I1 _|exact E9 _|exact H9 _ _|exact F9 _ _ _|refine E2 ?_|refine D3.bind ?_ (λ_=>?_))|((with_reducible refine F7 _ ?_)<;>rfl)|(dsimp only)|split
end
section
variable {P:Program} {X:Nat->Prop} {α β:Type}
theorem G1(r:Nat):D3 P X (getObj r):=D3.getObj (λ_=>D3.pure _)
theorem N2(a:Addr):D3 P X (frozen a):=D3.frozen (λ_=>D3.pure _)
theorem MH(r:Nat){o:Obj}(h:(∀a t,o≠.view a t)/\∀c t,o≠.pending c t):D3 P X (setObj r o):=D3.setObj h (D3.pure _)
def QY(P:Program)(s:Sem α):Prop:=∀w es,∃h u eu,s.runT P w es=(.halt h u,eu)/\free h=true
theorem QY.alike{s:Sem α}(h:QY P s)(n:Nat)(w0 u0 u:World)(es:Array Event)(rw:Result α×Array Event):Bl X n w0 u0 es rw (s.runT P u es):=by
 intro _;obtain⟨h,u',eu,e,hp⟩:=h u es;rw[e];refine⟨?_,λhf=>by rw[hp] at hf;cases hf⟩;cases h<;>first|rfl|(cases hp;done)|(rename_i x;cases x<;>first|rfl|cases hp)
theorem D3.shape2{r:Nat}{k:Option (TypeId×Nat)->Sem α}(hb:∀t n,k (some (t,n))=k (some (t,0))∨QY P (k (some (t,0))))(hk:∀o,D3 P X (k o)):D3 P X (Sem.shape r k):=λn w u es h=>by
 simp only[Sem.runT];by_cases hr:X r
 ·obtain⟨c,e,hw,hu⟩:=h.cov r hr;simp only[World.shape?,hw,hu];rcases hb e c.size with h1|h1
  ·rw[h1];exact hk _ _ _ _ _ h
  ·exact h1.alike _ _ _ _ _ _
 ·simp only[World.shape?,h.same r hr];exact hk _ _ _ _ _ h
theorem GB{r:Nat}{f:Option (TypeId×Nat)->Sem α}(hb:∀t n,f (some (t,n))=f (some (t,0))∨QY P (f (some (t,0))))(hk:∀o,D3 P X (f o)):D3 P X (shape r >>= f):=D3.shape2 hb hk
theorem QZ(r:Nat):D3 P X (viewAt r):=by
 unfold viewAt;refine GB (λt n=>.inl rfl) (λo=>?_);split
 ·exact D3.pure' _
 ·refine D3.bind (G1 r) (λ_=>?_);split<;>exact D3.pure' _
theorem MI(r:Nat):D3 P X (numberAt r):=by
 unfold numberAt;refine GB (λt n=>.inl rfl) (λo=>?_);split
 ·exact D3.pure' _
 ·refine D3.bind (G1 r) (λ_=>?_);split<;>exact D3.pure' _
theorem M3(a:Addr):D3 P X (noView a):=by
 unfold noView;refine D3.bind (QZ _) (λ_=>?_);split<;>first|exact D3.halt _|exact D3.pure' _
theorem Mb(n:Addr):D3 P X (behindNumber n):=D3.bind (MI _) (λ_=>D3.pure' _)
theorem GK(a:Addr):D3 P X (byteOf a):=by
 unfold byteOf;dsimp only
 split
 ·exact D3.pure' _
 ·refine E2 (D3.bind (M3 a) (λ_=>GB (λt n=>.inl rfl) (λo=>?_)));repeat' first|(with_reducible first|exact D3.pure' _|exact D3.pure _|exact D3.halt _|assumption|exact D8 _|exact G7 _|exact I7 _|exact G5 _|exact G8 _|exact K1 _|exact F6 _ _|exact E8 _ _ _|exact E5 _ _|exact E1 _ _ _|exact K2 _ _|exact J7 _ _|exact G9 _|exact I0 _ _ _|exact F2 _|exact F1 _ _ _ _|exact F8 _|exact K3 _|exact H0 _|exact K4 _|exact G0 _|exact H7 _|exact H6 _|exact I1 _|exact E9 _|exact H9 _ _|exact F9 _ _ _|refine E2 ?_|refine D3.bind ?_ (λ_=>?_))|((with_reducible refine F7 _ ?_)<;>rfl)|(dsimp only)|split
theorem Aaf(a:Addr)(c b:Nat):D3 P X (partAt a c b):=by
 unfold partAt;exact D3.bind (GK _) (λ_=>D3.bind (GK _) (λ_=>D3.pure' _))
theorem K5(a:Addr)(f:Field):D3 P X (fieldPlace a f):=by
 unfold fieldPlace;refine D3.bind (G5 _) (λ_=>?_);split
 ·exact Aaf _ _ _
 ·exact D3.pure' _
theorem XD(t:TypeId)(v:Value)(f:Nat):D3 P X (Instr.fieldAt t v f):=by
 unfold Instr.fieldAt;repeat' first|(with_reducible first|exact D3.pure' _|exact D3.pure _|exact D3.halt _|assumption|exact D8 _|exact G7 _|exact I7 _|exact G5 _|exact G8 _|exact K1 _|exact F6 _ _|exact E8 _ _ _|exact E5 _ _|exact E1 _ _ _|exact K2 _ _|exact J7 _ _|exact G9 _|exact I0 _ _ _|exact F2 _|exact F1 _ _ _ _|exact F8 _|exact K3 _|exact H0 _|exact K4 _|exact G0 _|exact H7 _|exact H6 _|exact I1 _|exact E9 _|exact H9 _ _|exact F9 _ _ _|exact K5 _ _|refine E2 ?_|refine D3.bind ?_ (λ_=>?_))|((with_reducible refine F7 _ ?_)<;>rfl)|(dsimp only)|split
theorem Ra(x:Value)(y:Nat)(c:BoundsCode):D3 P X (Instr.sliceBound x y c):=by
 unfold Instr.sliceBound;repeat' first|(with_reducible first|exact D3.pure' _|exact D3.pure _|exact D3.halt _|assumption|exact D8 _|exact G7 _|exact I7 _|exact G5 _|exact G8 _|exact K1 _|exact F6 _ _|exact E8 _ _ _|exact E5 _ _|exact E1 _ _ _|exact K2 _ _|exact J7 _ _|exact G9 _|exact I0 _ _ _|exact F2 _|exact F1 _ _ _ _|exact F8 _|exact K3 _|exact H0 _|exact K4 _|exact G0 _|exact H7 _|exact H6 _|exact I1 _|exact E9 _|exact H9 _ _|exact F9 _ _ _|refine E2 ?_|refine D3.bind ?_ (λ_=>?_))|((with_reducible refine F7 _ ?_)<;>rfl)|(dsimp only)|split
theorem JV(b:Bool)(n c:Nat)(l h m:Option Value):D3 P X (Instr.sliceBounds b n c l h m):=by
 unfold Instr.sliceBounds;repeat' first|(with_reducible first|exact D3.pure' _|exact D3.pure _|exact D3.halt _|assumption|exact D8 _|exact G7 _|exact I7 _|exact G5 _|exact G8 _|exact K1 _|exact F6 _ _|exact E8 _ _ _|exact E5 _ _|exact E1 _ _ _|exact K2 _ _|exact J7 _ _|exact G9 _|exact I0 _ _ _|exact F2 _|exact F1 _ _ _ _|exact F8 _|exact K3 _|exact H0 _|exact K4 _|exact G0 _|exact H7 _|exact H6 _|exact I1 _|exact E9 _|exact H9 _ _|exact F9 _ _ _|exact Ra _ _ _|refine E2 ?_|refine D3.bind ?_ (λ_=>?_))|((with_reducible refine F7 _ ?_)<;>rfl)|(dsimp only)|split
theorem Ac3(t:TypeId)(x:Value)(l h m:Option Value):D3 P X (Instr.slice t x l h m):=by
 unfold Instr.slice;repeat' first|(with_reducible first|exact D3.pure' _|exact D3.pure _|exact D3.halt _|assumption|exact D8 _|exact G7 _|exact I7 _|exact G5 _|exact G8 _|exact K1 _|exact F6 _ _|exact E8 _ _ _|exact E5 _ _|exact E1 _ _ _|exact K2 _ _|exact J7 _ _|exact G9 _|exact I0 _ _ _|exact F2 _|exact F1 _ _ _ _|exact F8 _|exact K3 _|exact H0 _|exact K4 _|exact G0 _|exact H7 _|exact H6 _|exact I1 _|exact E9 _|exact H9 _ _|exact F9 _ _ _|exact JV _ _ _ _ _ _|refine E2 ?_|refine D3.bind ?_ (λ_=>?_))|((with_reducible refine F7 _ ?_)<;>rfl)|(dsimp only)|split
theorem XE(t:TypeId)(x:Value)(l h m:Option Value):D3 P X (Instr.sliceAt t x l h m):=by
 unfold Instr.sliceAt;repeat' first|(with_reducible first|exact D3.pure' _|exact D3.pure _|exact D3.halt _|assumption|exact D8 _|exact G7 _|exact I7 _|exact G5 _|exact G8 _|exact K1 _|exact F6 _ _|exact E8 _ _ _|exact E5 _ _|exact E1 _ _ _|exact K2 _ _|exact J7 _ _|exact G9 _|exact I0 _ _ _|exact F2 _|exact F1 _ _ _ _|exact F8 _|exact K3 _|exact H0 _|exact K4 _|exact G0 _|exact H7 _|exact H6 _|exact I1 _|exact E9 _|exact H9 _ _|exact F9 _ _ _|exact JV _ _ _ _ _ _|exact Ac3 _ _ _ _ _|refine E2 ?_|refine D3.bind ?_ (λ_=>?_))|((with_reducible refine F7 _ ?_)<;>rfl)|(dsimp only)|split
theorem Ac4(t:TypeId)(x:Value):D3 P X (Instr.range t x):=by
 have hn:∀(o:Obj),((∀a t,o≠.view a t)/\∀c t,o≠.pending c t)->D3 P X (do pure (.pointer (some ⟨← newObj o,0,none⟩)):Sem Value):=λo ho=>D3.bind (D3.new ho (λ_=>D3.pure _)) (λ_=>D3.pure' _);unfold Instr.range;refine D3.bind (I7 t) (λd=>?_);dsimp only
 split
 ·exact hn _ (by simp)
 ·exact hn _ (by simp)
 ·refine D3.bind (G1 _) (λo=>?_);split
  ·exact hn _ (by simp)
  ·exact D3.halt _
 ·exact D3.halt _
theorem Ae7(v:Value)(b:Bool)(t:TypeId):D3 P X (Instr.next v b t):=by
 unfold Instr.next;repeat' first|(with_reducible first|exact D3.pure' _|exact D3.pure _|exact D3.halt _|assumption|exact D8 _|exact G7 _|exact I7 _|exact G5 _|exact G8 _|exact K1 _|exact F6 _ _|exact E8 _ _ _|exact E5 _ _|exact E1 _ _ _|exact K2 _ _|exact J7 _ _|exact G9 _|exact I0 _ _ _|exact F2 _|exact F1 _ _ _ _|exact F8 _|exact K3 _|exact H0 _|exact K4 _|exact G0 _|exact H7 _|exact H6 _|exact I1 _|exact E9 _|exact H9 _ _|exact F9 _ _ _|exact G1 _|refine E2 ?_|refine D3.bind ?_ (λ_=>?_))|exact MH _ (by simp)|((with_reducible refine F7 _ ?_)<;>rfl)|(dsimp only)|split
theorem Ahi(a:Array TypeId)(t:TypeId)(v:Array Value):D3 P X (Builtin.len_ a t v):=by
 unfold Builtin.len_;repeat' first|(with_reducible first|exact D3.pure' _|exact D3.pure _|exact D3.halt _|assumption|exact D8 _|exact G7 _|exact I7 _|exact G5 _|exact G8 _|exact K1 _|exact F6 _ _|exact E8 _ _ _|exact E5 _ _|exact E1 _ _ _|exact K2 _ _|exact J7 _ _|exact G9 _|exact I0 _ _ _|exact F2 _|exact F1 _ _ _ _|exact F8 _|exact K3 _|exact H0 _|exact K4 _|exact G0 _|exact H7 _|exact H6 _|exact I1 _|exact E9 _|exact H9 _ _|exact F9 _ _ _|exact G1 _|refine E2 ?_|refine D3.bind ?_ (λ_=>?_))|((with_reducible refine F7 _ ?_)<;>rfl)|(dsimp only)|split
theorem Um(v:Value):D3 P X (Builtin.lenOf v):=by
 unfold Builtin.lenOf;split<;>first|exact D3.pure' _|exact D3.halt _
theorem Kg(s n:Nat)(v:Value):D3 P X (Builtin.firstCells s n v):=by
 unfold Builtin.firstCells;split<;>first|exact F6 _ _|exact D3.pure' _|exact D3.halt _
theorem Ae8(a:Array TypeId)(t:TypeId)(v:Array Value):D3 P X (Builtin.copy_ a t v):=by
 unfold Builtin.copy_;repeat' first|(with_reducible first|exact D3.pure' _|exact D3.pure _|exact D3.halt _|assumption|exact D8 _|exact G7 _|exact I7 _|exact G5 _|exact G8 _|exact K1 _|exact F6 _ _|exact E8 _ _ _|exact E5 _ _|exact E1 _ _ _|exact K2 _ _|exact J7 _ _|exact G9 _|exact I0 _ _ _|exact F2 _|exact F1 _ _ _ _|exact F8 _|exact K3 _|exact H0 _|exact K4 _|exact G0 _|exact H7 _|exact H6 _|exact I1 _|exact E9 _|exact H9 _ _|exact F9 _ _ _|exact Um _|exact Kg _ _ _|refine E2 ?_|refine D3.bind ?_ (λ_=>?_))|((with_reducible refine F7 _ ?_)<;>rfl)|(dsimp only)|split
end
section
variable {P:Program} {X:Nat->Prop} {α β:Type}
theorem Kh{γ σ:Type}{f:γ->σ->Sem (ForInStep σ)}(hf:∀x s,D3 P X (f x s)):∀(l:List γ)(i:σ),D3 P X (forIn l i f)
 | [],i=>by rw[List.forIn_nil];exact D3.pure' _
 | x::l,i=>by
  rw[List.forIn_cons];refine D3.bind (hf x i) (λr=>?_);cases r with
  | done s=>exact D3.pure' _
  | yield s=>exact Kh hf l s
theorem Ji{γ σ:Type}{f:γ->σ->Sem (ForInStep σ)}(hf:∀x s,D3 P X (f x s))(xs:Array γ)(i:σ):D3 P X (forIn xs i f):=by
 rw[← Array.forIn_toList];exact Kh hf _ _
theorem Jj{σ:Type}{f:Nat->σ->Sem (ForInStep σ)}(hf:∀x s,D3 P X (f x s))(r:Std.Legacy.Range)(i:σ):D3 P X (forIn r i f):=by
 rw[Std.Legacy.Range.forIn_eq_forIn_range'];exact Kh hf _ _
def sg(w:World)(a:Addr):Bool:=w.frozen? a || (match w.shape? a.block with|some (_,n)=>w.frozen? {block:=a.block,off:=n}|none=>false)
def nn(w:World)(a:Addr):Bool:=match w.shape? a.block with|some (_,0)=>true|_=>false
theorem JW(w:World)(a:Addr)(es:Array Event):(stringish a).runT P w es=(.ok (sg w a) w,es):=by
 unfold stringish;show ((frozen a).bind _).runT P w es=_
 rw[Sem.runT_bind'];have e:(frozen a).runT P w es=(.ok (w.frozen? a) w,es):=rfl;rw[e];cases hf:w.frozen? a with
 | true=>simp only[sg,hf,Bool.true_or];rfl
 | false =>
  simp only[sg,hf,Bool.false_or,Bool.false_eq_true,if_false];show ((shape a.block).bind _).runT P w es=_
  rw[Sem.runT_bind'];have e2:(shape a.block).runT P w es=(.ok (w.shape? a.block) w,es):=rfl;rw[e2];cases hs:w.shape? a.block with
  | none=>rfl
  | some o=>rfl
theorem Y7.sgX{n:Nat}{w u:World}(h:Y7 X n w u){a:Addr}(ha:X a.block):sg u a=false/\sg w a=false:=by
 obtain⟨c,e,hw,hu⟩:=h.cov _ ha;constructor<;>simp[sg,World.frozen?,World.shape?,hw,hu]
theorem Y7.sg{n:Nat}{w u:World}(h:Y7 X n w u)(a:Addr):sg u a=sg w a:=by
 by_cases ha:X a.block
 ·rw[(h.sgX ha).1,(h.sgX ha).2]
 ·simp only[Go.Proofs.YtcgkgmmclfeohaaGreatDoor.sg,World.frozen?,World.shape?,h.same _ ha]
theorem Ki(w:World)(a b:Addr)(es:Array Event):(mayBeOne a b).runT P w es=(.ok ((sg w a&&sg w b) || (sg w a&&nn w a) || (sg w b&&nn w b)) w,es):=by
 unfold mayBeOne;dsimp only
 show ((stringish a).bind _).runT P w es=_
 rw[Sem.runT_bind',JW];show ((stringish b).bind _).runT P w es=_
 rw[Sem.runT_bind',JW];show ((Sem.bind (shape a.block) _).bind _).runT P w es=_
 simp only[Sem.runT_bind'];have e2:∀r,(shape r).runT P w es=(.ok (w.shape? r) w,es):=λ_=>rfl;rw[e2];show ((Sem.bind (Sem.bind (shape b.block) _) _).runT P w es)=_
 simp only[Sem.runT_bind'];rw[e2];rfl
theorem K9(a b:Addr):D3 P X (mayBeOne a b):=λn w u es h=>by
 rw[Ki,Ki];refine λ_=>⟨λe he=>.inl he,w,?_,On.refl h⟩
 have hn:∀x,(Go.Proofs.YtcgkgmmclfeohaaGreatDoor.sg u x&&nn u x)=(Go.Proofs.YtcgkgmmclfeohaaGreatDoor.sg w x&&nn w x):=λx=>by
  by_cases hx:X x.block
  ·rw[(h.sgX hx).1,(h.sgX hx).2];rfl
  ·rw[h.sg x];simp only[nn,World.shape?,h.same _ hx]
 rw[h.sg a,h.sg b,← h.sg a,← h.sg b,hn a,hn b,h.sg a,h.sg b]
theorem MJ(a b:Addr):D3 P X (sameAddr a b):=by
 unfold sameAddr;repeat' first|(with_reducible first|exact D3.pure' _|exact D3.pure _|exact D3.halt _|assumption|exact D8 _|exact G7 _|exact I7 _|exact G5 _|exact G8 _|exact K1 _|exact F6 _ _|exact E8 _ _ _|exact E5 _ _|exact E1 _ _ _|exact K2 _ _|exact J7 _ _|exact G9 _|exact I0 _ _ _|exact F2 _|exact F1 _ _ _ _|exact F8 _|exact K3 _|exact H0 _|exact K4 _|exact G0 _|exact H7 _|exact H6 _|exact I1 _|exact E9 _|exact H9 _ _|exact F9 _ _ _|exact G1 _|exact N2 _|exact M3 _|exact K9 _ _|refine E2 ?_|refine D3.bind ?_ (λ_=>?_))|((with_reducible refine F7 _ ?_)<;>rfl)|(dsimp only)|split
theorem Qk(a b:Option Addr):D3 P X (samePointer a b):=by
 unfold samePointer;split<;>first|exact MJ _ _|exact D3.pure' _
theorem G2(t:TypeId):D3 P X (typeStr t):=by
 unfold typeStr;repeat' first|(with_reducible first|exact D3.pure' _|exact D3.pure _|exact D3.halt _|assumption|exact D8 _|exact G7 _|exact I7 _|exact G5 _|exact G8 _|exact K1 _|exact F6 _ _|exact E8 _ _ _|exact E5 _ _|exact E1 _ _ _|exact K2 _ _|exact J7 _ _|exact G9 _|exact I0 _ _ _|exact F2 _|exact F1 _ _ _ _|exact F8 _|exact K3 _|exact H0 _|exact K4 _|exact G0 _|exact H7 _|exact H6 _|exact I1 _|exact E9 _|exact H9 _ _|exact F9 _ _ _|exact G1 _|refine E2 ?_|refine D3.bind ?_ (λ_=>?_))|((with_reducible refine F7 _ ?_)<;>rfl)|(dsimp only)|split
theorem Pl:∀(d:Nat)(t:TypeId)(x y:Value),D3 P X (Op.equalIn d t x y)
 | 0,_,_,_=>D3.halt _
 | d+1,t,x,y=>by
  have ih:=λt x y=>Pl d t x y;unfold Op.equalIn;refine D3.bind (I7 t) (λu=>?_);split<;>repeat' first|(with_reducible first|exact D3.pure' _|exact D3.pure _|exact D3.halt _|assumption|exact D8 _|exact G7 _|exact I7 _|exact G5 _|exact G8 _|exact K1 _|exact F6 _ _|exact E8 _ _ _|exact E5 _ _|exact E1 _ _ _|exact K2 _ _|exact J7 _ _|exact G9 _|exact I0 _ _ _|exact F2 _|exact F1 _ _ _ _|exact F8 _|exact K3 _|exact H0 _|exact K4 _|exact G0 _|exact H7 _|exact H6 _|exact I1 _|exact E9 _|exact H9 _ _|exact F9 _ _ _|exact G1 _|exact Mb _|exact GK _|exact MJ _ _|exact Qk _ _|exact G2 _|exact ih _ _ _|refine Ji (λ_ _=>?_) _ _|refine Jj (λ_ _=>?_) _ _|refine E2 ?_|refine D3.bind ?_ (λ_=>?_))|((with_reducible refine F7 _ ?_)<;>rfl)|(dsimp only)|split
theorem K0(t:TypeId)(x y:Value):D3 P X (Op.equal t x y):=Pl _ _ _ _
end
end Go.Proofs.YtcgkgmmclfeohaaGreatDoor
