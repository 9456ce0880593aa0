/- Runs carried over, 0: a run takes answers off the tape, never back. -/
import Derived.Conc.Beside
import Derived.Conc.Events
namespace Go.Proofs.YtmfjakieahkacaaGreatDoor
open Go.Conc
def JR{α:Type}:Result α->Nat
 | .ok _ w=>w.drawn
 | .halt _ w=>w.drawn
theorem Uu{α:Type}(a:Ask α)(w:World):w.drawn<=(w.ask a).2.drawn:=by
 induction a generalizing w with
 | done a=>exact Nat.le_refl _
 | ask what r k ih =>
  simp only[World.ask];split
  ·exact ih 0 w
  ·have h:=ih ((Question.extern what r).cut (w.tape w.drawn (Question.extern what r))) {w with drawn:=w.drawn+1};exact Nat.le_trans (Nat.le_add_right w.drawn 1) h
theorem Uv(c:Sys)(w:World):w.drawn<=(w.sys c).2.drawn:=by
 have h:=Uu (Kernel.perform c w.os) w;unfold World.sys;split
 ·exact Nat.le_refl _
 ·rename_i r os w' e;rw[e] at h;exact h
theorem KH{p:Program}{w w':World}{a k:Addr}{u:TypeId}{v:Value}{b:Bool}{l:List Addr}(h:w.viewStore p a u k v b=.ok (w',l)):w'.drawn=w.drawn:=by
 simp only[World.viewStore,bind,Except.bind,pure,Except.pure] at h;repeat' split at h
 all_goals first|(cases h;rfl)|cases h
theorem LS{p:Program}{w w':World}{a:Addr}{v:Value}{b:Bool}{l:List Addr}(h:w.farStore p a v b=.ok (w',l)):w'.drawn=w.drawn:=by
 unfold World.farStore at h;split at h
 ·split at h
  ·rename_i r hr;cases h;exact KH hr
  ·cases h
 ·cases h
theorem GR{α:Type}(P:Program)(s:Sem α):∀(w:World)(es:Array Event),w.drawn<=JR (s.runT P w es).1:=by
 induction s with
 | pure a=>intro w es;exact Nat.le_refl _
 | load m a k ih =>
  intro w es;simp only[Sem.runT];split
  ·exact ih _ _ _
  ·split
   ·exact ih _ _ _
   ·exact Nat.le_refl _
 | store m a v k ih =>
  intro w es
  cases v<;>simp only[Sem.runT]<;>first|exact Nat.le_refl _|(
   split
   ·split
    ·exact Nat.le_refl _
    ·exact ih (w.setCell a _) _
   ·split
    ·rename_i w1 l h;have h1:=ih w1 (es++l.toArray.map (⟨.cell ·,true,m==Mode.atomic⟩));rw[LS h] at h1;exact h1
    ·exact Nat.le_refl _)
 | new o k ih=>intro w es;simp only[Sem.runT];exact ih _ {w with heap:=w.heap.push o} es
 | shape r k ih=>intro w es;simp only[Sem.runT];exact ih _ _ _
 | freeze a n k ih =>
  intro w es;simp only[Sem.runT];have h:=ih (w.freeze a n) es;have e:(w.freeze a n).drawn=w.drawn:=by unfold World.freeze;split<;>rfl
  rw[e] at h;exact h
 | frozen a k ih=>intro w es;simp only[Sem.runT];exact ih _ _ _
 | getObj r k ih =>
  intro w es;simp only[Sem.runT];split
  ·exact Nat.le_refl _
  ·exact ih _ _ _
  ·exact Nat.le_refl _
 | setObj r o k ih =>
  intro w es;simp only[Sem.runT];split
  ·exact Nat.le_refl _
  ·exact ih {w with heap:=w.heap.setIfInBounds r o} _
  ·exact Nat.le_refl _
 | choose q k ih =>
  intro w es;simp only[Sem.runT];split
  ·exact ih _ _ _
  ·exact Nat.le_trans (Nat.le_add_right w.drawn 1) (ih _ {w with drawn:=w.drawn+1} es)
 | sys c k ih=>intro w es;simp only[Sem.runT];exact Nat.le_trans (Uv c w) (ih _ _ _)
 | program k ih=>intro w es;simp only[Sem.runT];exact ih _ _ _
 | mark m k ih=>intro w es;simp only[Sem.runT];exact ih _ _
 | halt h=>intro w es;exact Nat.le_refl _
def gN:Nat:=1
structure U7 (X:Nat->Prop) (n:Nat) (w u:World):Prop where
 size:u.heap.size=w.heap.size
 old:∀b,X b->b<w.heap.size
 same:∀b,¬X b->u.heap[b]?=w.heap[b]?
 cov:∀b,X b->∃c e,w.heap[b]?=some (Obj.cells c e (0,0))/\u.heap[b]?=some (Obj.cells #[] e (0,0))
 pend:∀(b:Nat)(c:Array Value)(t:TypeId),w.heap[b]?=some (Obj.pending c t)->gN<=b
 os:u.os=w.os
 output:u.output=w.output
 tape:∀i q,i<n->u.tape (u.drawn+i) q=w.tape (w.drawn+i) q
def Aj(X:Nat->Prop)(e:Event):Prop :=
 match e.loc with
 | .cell a=>¬X a.block
 | .obj r=>¬X r
 | .mark .noRoom=>True
 | .mark (.extern _)=>True
 | .output=>True
 | _=>False
structure On (X:Nat->Prop) (n:Nat) (w u w' u':World):Prop where
 tw:w'.tape=w.tape
 tu:u'.tape=u.tape
 drew:∃k,k<=n/\w'.drawn=w.drawn+k/\u'.drawn=u.drawn+k/\U7 X (n-k) w' u'
theorem On.mk0{X:Nat->Prop}{n:Nat}{w u w' u':World}(h:U7 X n w' u')(tw:w'.tape=w.tape)(tu:u'.tape=u.tape)(dw:w'.drawn=w.drawn)(du:u'.drawn=u.drawn):On X n w u w' u':=⟨tw,tu,0,Nat.zero_le _,dw,du,h⟩
theorem On.refl{X:Nat->Prop}{n:Nat}{w u:World}(h:U7 X n w u):On X n w u w u:=.mk0 h rfl rfl rfl rfl
structure MP (X:Nat->Prop) (n:Nat) (w u w' u':World):Prop where
 sim:U7 X n w' u'
 tw:w'.tape=w.tape
 tu:u'.tape=u.tape
 dw:w'.drawn=w.drawn
 du:u'.drawn=u.drawn
theorem MP.on{X:Nat->Prop}{n:Nat}{w u w' u':World}(h:MP X n w u w' u'):On X n w u w' u':=.mk0 h.sim h.tw h.tu h.dw h.du
def free:Halt->Bool
 | .stuck _=>true
 | .unsupported (.initOrder _)=>false
 | .unsupported _=>true
 | _=>false
def Du:Halt->Bool
 | .unsupported (.initOrder g)=>decide (g<gN)
 | .unsupported _=>false
 | .stuck _=>false
 | .panic _=>false
 | _=>true
def ON(X:Nat->Prop)(n:Nat)(w u:World)(es:Array Event){α:Type}(rw ru:Result α×Array Event):Prop :=
 match ru with
 | (.ok a u',eu)=>(∀e∈eu,e∈es∨Aj X e)/\∃w',rw=(.ok a w',eu)/\On X n w u w' u'
 | (.halt h u',eu)=>Du h=false/\(free h=false->(∀e∈eu,e∈es∨Aj X e)/\∃w',rw=(.halt h w',eu)/\On X n w u w' u')
def AL(X:Nat->Prop)(n:Nat)(w u:World)(es:Array Event){α:Type}(rw ru:Result α×Array Event):Prop :=
 (JR rw.1<=w.drawn+n∨JR ru.1<=u.drawn+n)->ON X n w u es rw ru
def D0(P:Program)(X:Nat->Prop){α:Type}(s:Sem α):Prop:=∀n w u es,U7 X n w u->AL X n w u es (s.runT P w es) (s.runT P u es)
section
variable {P:Program} {X:Nat->Prop} {n:Nat} {α β:Type} {w u w1 u1:World} {es es1:Array Event}
theorem On.trans{k:Nat}{w2 u2:World}(hk:k<=n)(tw:w1.tape=w.tape)(tu:u1.tape=u.tape)(dw:w1.drawn=w.drawn+k)(du:u1.drawn=u.drawn+k)(h:On X (n-k) w1 u1 w2 u2):On X n w u w2 u2:=by
 obtain⟨m,hm,a,b,hs⟩:=h.drew;exact⟨h.tw.trans tw,h.tu.trans tu,k+m,by omega,by omega,by omega,by rw[← Nat.sub_sub];exact hs⟩
theorem AL.after{k:Nat}{rw ru:Result α×Array Event}(hk:k<=n)(tw:w1.tape=w.tape)(tu:u1.tape=u.tape)(dw:w1.drawn=w.drawn+k)(du:u1.drawn=u.drawn+k)(h:AL X (n-k) w1 u1 es1 rw ru)(he:∀e∈es1,e∈es∨Aj X e):AL X n w u es rw ru:=by
 intro hd;have hev:∀{eu:Array Event},(∀e∈eu,e∈es1∨Aj X e)->∀e∈eu,e∈es∨Aj X e:=λh1 e hx=>(h1 e hx).elim (he e) .inr;have h:=h (hd.imp (λh=>by omega) λh=>by omega);match ru,h with
 | (.ok a u',eu),⟨h1,w',h2,h3⟩=>exact⟨hev h1,w',h2,On.trans hk tw tu dw du h3⟩
 | (.halt k u',eu),⟨h0,h⟩=>exact⟨h0,λhf=>by obtain⟨h1,w',h2,h3⟩:=h hf;exact⟨hev h1,w',h2,On.trans hk tw tu dw du h3⟩⟩
theorem AL.on{rw ru:Result α×Array Event}(h:AL X n w1 u1 es1 rw ru)(ho:MP X n w u w1 u1)(he:∀e∈es1,e∈es∨Aj X e):AL X n w u es rw ru :=
 AL.after (k:=0) (Nat.zero_le _) ho.tw ho.tu ho.dw ho.du h he
theorem AL.step{rw ru:Result α×Array Event}(h:AL X n w u es1 rw ru)(he:∀e∈es1,e∈es∨Aj X e):AL X n w u es rw ru :=
 AL.after (k:=0) (Nat.zero_le _) rfl rfl rfl rfl h he
theorem AV{x:Event}(hx:Aj X x):∀e∈es.push x,e∈es∨Aj X e:=λe he=>by
 rcases Array.mem_push.1 he with h|rfl
 ·exact .inl h
 ·exact .inr hx
theorem U7.cell(h:U7 X n w u){a:Addr}(ha:¬X a.block):u.cell? a=w.cell? a:=by simp only[World.cell?,h.same _ ha]
theorem U7.cellX(h:U7 X n w u){a:Addr}(ha:X a.block):u.cell? a=none:=by
 obtain⟨c,e,-,hu⟩:=h.cov _ ha;simp only[World.cell?,hu];split<;>simp
theorem U7.frozen(h:U7 X n w u)(a:Addr):u.frozen? a=w.frozen? a:=by
 by_cases ha:X a.block
 ·obtain⟨c,e,hw,hu⟩:=h.cov _ ha;simp only[World.frozen?,hw,hu]
 ·simp only[World.frozen?,h.same _ ha]
theorem U7.pendU(h:U7 X n w u)(b:Nat)(c:Array Value)(t:TypeId)(hp:u.heap[b]?=some (Obj.pending c t)):gN<=b:=by
 by_cases hb:X b
 ·obtain⟨c,e,hw,hu⟩:=h.cov _ hb;rw[hu] at hp;cases hp
 ·exact h.pend b c t (by rw[← h.same b hb];exact hp)
theorem U7.turn(h:U7 X n w u){hw hu:Array Obj}(sw:hw.size=w.heap.size)(su:hu.size=u.heap.size)(same:∀b,¬X b->hu[b]?=hw[b]?)
  (cov:∀b,X b->∃c e,hw[b]?=some (Obj.cells c e (0,0))/\hu[b]?=some (Obj.cells #[] e (0,0))) (np:∀(b:Nat)(c:Array Value)(t:TypeId),hw[b]?=some (Obj.pending c t)->gN<=b):MP X n w u {w with heap:=hw} {u with heap:=hu} :=
 ⟨⟨by show hu.size=hw.size;rw[su,sw,h.size],λb hb=>by show b<hw.size;rw[sw];exact h.old b hb,same,cov,np,h.os,h.output,h.tape⟩,rfl,rfl,rfl,rfl⟩
end
theorem FA:∀(s n:Nat),(leBytes s n).length=s
 | 0,_=>rfl
 | s+1,n=>by simp[leBytes,FA s]
theorem Uw{v:Value}{bs:List UInt8}(h:v.bytes?=some bs):0<bs.length:=by
 cases v<;>simp only[Value.bytes?] at h<;>first|(cases h;done)|(cases h;simp;done)|skip
 ·rename_i k n;cases h
  rw[FA];cases k<;>simp[IntKind.bits]
 ·rename_i k n;cases h
  rw[FA];cases k<;>simp[FloatKind.bytes]
 ·rename_i k a b;cases h
  rw[List.length_append,FA,FA];cases k<;>simp[FloatKind.bytes]
section
variable {P:Program} {at_ k:Addr} {t:TypeId} {atomic:Bool} {w u:World}
theorem KI(h:u.heap[at_.block]?=w.heap[at_.block]?):u.seen P at_ t k atomic=w.seen P at_ t k atomic:=by
 unfold World.seen;rw[h]
theorem LT(e:TypeId)(f x n:Nat)(hn:0<n)(r:List (Nat×Nat×List UInt8)):seenCells P #[] e (f+1) x (x+n)≠.ok r:=by
 unfold seenCells;intro h;rw[if_neg (by omega)] at h;simp only at h;split at h
 ·cases h
 ·split at h
  ·cases h
  ·simp at h
theorem KJ{e:TypeId}{f:Nat×Nat}(h:u.heap[at_.block]?=some (.cells #[] e f))(r:Array Value×TypeId×(Nat×Nat)×Nat×Value×List (Nat×Nat×List UInt8)):u.seen P at_ t k atomic≠.ok r:=by
 unfold World.seen;rw[h];intro hr;simp only[bind,Except.bind,pure,Except.pure] at hr
 have pos:∀{v:Value} {n:Nat},Option.map (λx=>x.length) v.bytes?=some n->0<n:=λ{v n} h=>by
  cases hb:v.bytes? with
  | none=>rw[hb] at h;cases h
  | some bs=>rw[hb] at h;cases h;exact Uw hb
 repeat' (split at hr)
 all_goals first
  | (cases hr;done)
  | exact absurd ‹seenCells P #[] e _ _ _=Except.ok _› (LT e _ _ _ (pos ‹Option.map (λx:List UInt8=>x.length) (Value.bytes? _)=some _›) _)
theorem LU(h:u.heap[at_.block]?=w.heap[at_.block]?):u.viewLoad P at_ t k atomic=w.viewLoad P at_ t k atomic:=by
 unfold World.viewLoad;rw[KI h]
theorem QC{v:Value}{l:List Addr}(h:u.viewLoad P at_ t k atomic=.ok (v,l)):(∀a∈l,a.block=at_.block)/\∀e f,u.heap[at_.block]?≠some (.cells #[] e f):=by
 unfold World.viewLoad at h;cases hs:u.seen P at_ t k atomic with
 | error m=>rw[hs] at h;cases h
 | ok r =>
  rw[hs] at h;obtain⟨c,e,f,first,like,cells⟩:=r;simp only[bind,Except.bind,pure,Except.pure] at h;refine⟨λa ha=>?_,λe' f' he=>KJ he _ hs⟩;split at h
  ·cases h
   obtain⟨x,_,rfl⟩:=List.mem_map.1 ha;rfl
  ·cases h
theorem OO{v:Value}{u':World}{l:List Addr}(h:u.viewStore P at_ t k v atomic=.ok (u',l)):
  ∃c e f,u'={u with heap:=u.heap.setIfInBounds at_.block (.cells c e f)}/\(∀a∈l,a.block=at_.block)/\(∀e f,u.heap[at_.block]?≠some (.cells #[] e f))/\
   ∀w:World,u.heap[at_.block]?=w.heap[at_.block]?->w.viewStore P at_ t k v atomic=.ok ({w with heap:=w.heap.setIfInBounds at_.block (.cells c e f)},l):=by
 have he:∀w:World,u.heap[at_.block]?=w.heap[at_.block]?->w.seen P at_ t k atomic=u.seen P at_ t k atomic:=λw h=>(KI h).symm;unfold World.viewStore at h ⊢
 cases hs:u.seen P at_ t k atomic with
 | error m =>
  rw[hs] at h;simp only[bind,Except.bind] at h;split at h
  ·cases h
  ·cases h
 | ok r =>
  rw[hs] at h he;obtain⟨c,e,f,first,like,cells⟩:=r;simp only[bind,Except.bind,pure,Except.pure] at h ⊢
  repeat' (split at h)
  all_goals first
   | (cases h;done)
   | (cases h
      refine⟨_,_,_,rfl,λa ha=>?_,λe' f' he=>KJ he _ hs,λw hw=>?_⟩
      ·obtain⟨x,_,rfl⟩:=List.mem_map.1 ha;rfl
      ·rw[he w hw];simp_all)
end
section
variable {P:Program} {X:Nat->Prop} {α β:Type}
theorem D0.pure(a:α):D0 P X (Sem.pure a):=λ_ w _ _ h _=>⟨λ_ he=>.inl he,w,rfl,On.refl h⟩
theorem D0.pure'(a:α):D0 P X (Pure.pure a:Sem α):=D0.pure a
theorem D0.halt(h:Halt)(hh:Du h=false:=by rfl):D0 P X (Sem.halt h:Sem α):=λ_ w _ _ hs _=>⟨hh,λ_=>⟨λ_ he=>.inl he,w,rfl,On.refl hs⟩⟩
theorem OP{u:World}{a:Addr}{e:TypeId}(hu:u.heap[a.block]?=some (.cells #[] e (0,0)))(s:String)(es:Array Event)(n:Nat)(w0 u0:World)(rw:Result α×Array Event):AL X n w0 u0 es rw (.halt (u.noCell a s) u,es):=by
 intro _;unfold World.noCell;rw[hu];exact⟨rfl,λh=>by cases h⟩
theorem JS{n:Nat}{w u:World}(h:U7 X n w u){a:Addr}(ha:¬X a.block)(s:String)(es:Array Event):AL X n w u es ((.halt (w.noCell a s) w,es):Result α×Array Event) (.halt (u.noCell a s) u,es):=by
 intro _;have hp:=h.pend a.block;unfold World.noCell;rw[h.same _ ha];split
 ·rename_i c t ho;exact⟨by simpa [Du] using hp c t ho,λ_=>⟨λ_ he=>.inl he,w,rfl,On.refl h⟩⟩
 ·exact⟨rfl,λh=>by cases h⟩
 ·exact⟨rfl,λh=>by cases h⟩
theorem OQ{es:Array Event}{l:List Addr}{b:Nat}(hl:∀a∈l,a.block=b)(hb:¬X b)(wr at_:Bool):∀e∈es++l.toArray.map (λa=>(⟨.cell a,wr,at_⟩:Event)),e∈es∨Aj X e:=λe he=>by
 rcases Array.mem_append.1 he with h|h
 ·exact .inl h
 ·obtain⟨a,ha,rfl⟩:=Array.mem_map.1 h;refine .inr ?_;show ¬X a.block
  rw[hl a (by simpa using ha)];exact hb
theorem D0.load{m:Mode}{a:Addr}{k:Value->Sem α}(hk:∀v,D0 P X (k v)):D0 P X (Sem.load m a k):=λn w u es h=>by
 simp only[Sem.runT];by_cases ha:X a.block
 ·rw[h.cellX ha];obtain⟨c,e,-,hu⟩:=h.cov _ ha;simp only[World.farLoad,hu];exact OP hu _ _ _ _ _ _
 ·rw[h.cell ha];cases hc:w.cell? a with
  | some v=>exact (hk v n w u _ h).step (AV ha)
  | none =>
   have hn:=JS (α:=α) h ha "load: no such cell" es;simp only[World.farLoad,h.same _ ha];cases ho:w.heap[a.block]? with
   | none=>exact hn
   | some o =>
    cases o with
    | view x t =>
     simp only;cases hv:u.viewLoad P x t a (m == .atomic) with
     | error why=>exact λ_=>⟨rfl,λh=>by cases h⟩
     | ok r =>
      obtain⟨v,l⟩:=r;obtain⟨h1,h2⟩:=QC hv;have hx:¬X x.block:=λhx=>by obtain⟨c,e,-,hu⟩:=h.cov _ hx;exact h2 _ _ hu
      rw[← LU (h.same _ hx),hv];exact (hk v n w u _ h).step (OQ h1 hx _ _)
    | _=>exact hn
theorem CX(w:World)(a:Addr)(v:Value)(b:Nat):(w.setCell a v).heap[b]?=(if a.block=b then (w.heap[b]?).map (fun | .cells c elem frozen=>.cells (if a.spot.isSome then c else c.setIfInBounds a.off v) elem frozen|o=>o) else w.heap[b]?):=by
 simp only[World.setCell,Array.getElem?_modify];rfl
theorem U7.setCell{n:Nat}{w u:World}(h:U7 X n w u)(a:Addr)(v:Value)(ha:¬X a.block):MP X n w u (w.setCell a v) (u.setCell a v):=by
 refine h.turn (by simp) (by simp) (λb hb=>?_) (λb hb=>?_) (λb x t hx=>?_)
 ·show (u.setCell a v).heap[b]?=(w.setCell a v).heap[b]?
  rw[CX,CX,h.same b hb]
 ·show ∃c e,(w.setCell a v).heap[b]?=_/\(u.setCell a v).heap[b]?=_
  have hne:¬a.block=b:=λe=>ha (e ▸ hb);rw[CX,CX,if_neg hne,if_neg hne];exact h.cov b hb
 ·have hx':(w.setCell a v).heap[b]?=_:=hx;rw[CX] at hx';split at hx'
  ·cases ho:w.heap[b]? with
   | none=>rw[ho] at hx';simp at hx'
   | some o =>
    rw[ho] at hx';cases o<;>simp at hx'
    exact h.pend b _ _ (by rw[ho])
  ·exact h.pend b _ _ hx'
theorem U7.setCells{n:Nat}{w u:World}(h:U7 X n w u)(r:Nat)(c:Array Value)(e:TypeId)(f:Nat×Nat)(hr:¬X r):MP X n w u {w with heap:=w.heap.setIfInBounds r (.cells c e f)} {u with heap:=u.heap.setIfInBounds r (.cells c e f)}:=by
 refine h.turn (by simp) (by simp) (λb hb=>?_) (λb hb=>?_) (λb a t hx=>?_)
 ·simp only[Array.getElem?_setIfInBounds,h.size,h.same b hb]
 ·have hne:¬r=b:=λe=>hr (e ▸ hb);simp only[Array.getElem?_setIfInBounds,if_neg hne];exact h.cov b hb
 ·simp only[Array.getElem?_setIfInBounds] at hx;split at hx
  ·split at hx<;>cases hx
  ·exact h.pend b a t hx
theorem D0.store{m:Mode}{a:Addr}{v:Value}{k:Sem α}(hk:D0 P X k):D0 P X (Sem.store m a v k):=λn w u es h=>by
 have main:AL X n w u es (match w.cell? a with
  | some _=>if w.frozen? a then (.halt (.unsupported (.unsafePointer "a write to bytes that a string shares")) w,es) else k.runT P (w.setCell a v) (es.push ⟨.cell a,true,m == .atomic⟩)
  | none=>match w.farStore P a v (m == .atomic) with
   | .ok (w,touched)=>k.runT P w (es++touched.toArray.map (⟨.cell ·,true,m == .atomic⟩))
   | .error h=>(.halt h w,es)) (match u.cell? a with
  | some _=>if u.frozen? a then (.halt (.unsupported (.unsafePointer "a write to bytes that a string shares")) u,es) else k.runT P (u.setCell a v) (es.push ⟨.cell a,true,m == .atomic⟩)
  | none=>match u.farStore P a v (m == .atomic) with
   | .ok (w,touched)=>k.runT P w (es++touched.toArray.map (⟨.cell ·,true,m == .atomic⟩))
   | .error h=>(.halt h u,es)):=by
  by_cases ha:X a.block
  ·rw[h.cellX ha];obtain⟨c,e,-,hu⟩:=h.cov _ ha;simp only[World.farStore,hu];exact OP hu _ _ _ _ _ _
  ·rw[h.cell ha,h.frozen];cases hc:w.cell? a with
   | some x =>
    cases hf:w.frozen? a with
    | true=>exact λ_=>⟨rfl,λh=>by cases h⟩
    | false=>exact (hk _ _ _ _ (h.setCell a v ha).sim).on (h.setCell a v ha) (AV ha)
   | none =>
    have hn:=JS (α:=α) h ha "store: no such cell" es;simp only[World.farStore,h.same _ ha];cases ho:w.heap[a.block]? with
    | none=>exact hn
    | some o =>
     cases o with
     | view x t =>
      simp only;cases hv:u.viewStore P x t a v (m == .atomic) with
      | error why=>exact λ_=>⟨rfl,λh=>by cases h⟩
      | ok r =>
       obtain⟨u',l⟩:=r;obtain⟨c,e,f,rfl,h1,h2,h3⟩:=OO hv;have hx:¬X x.block:=λhx=>by obtain⟨c,e,-,hu⟩:=h.cov _ hx;exact h2 _ _ hu
       rw[h3 w (h.same _ hx)];exact (hk _ _ _ _ (h.setCells _ c e f hx).sim).on (h.setCells _ c e f hx) (OQ h1 hx _ _)
     | _=>exact hn
 cases v<;>first|(simp only[Sem.runT];exact main)|(simp only[Sem.runT];exact λ_=>⟨rfl,λh=>by cases h⟩)
theorem D0.new{o:Obj}{k:Nat->Sem α}(ho:(∀a t,o≠.view a t)/\∀c t,o≠.pending c t)(hk:∀r,D0 P X (k r)):D0 P X (Sem.new o k):=λn w u es h=>by
 have hon:MP X n w u {w with heap:=w.heap.push o} {u with heap:=u.heap.push o}:=by
  have hs:=h.size;refine⟨⟨by simp[hs],λb hb=>by have:=h.old b hb;simp;omega,λb hb=>?_,λb hb=>?_,λb a t hx=>?_,h.os,h.output,h.tape⟩,rfl,rfl,rfl,rfl⟩
  ·simp only[Array.getElem?_push,hs,h.same b hb]
  ·have hne:b≠w.heap.size:=by have:=h.old b hb;omega
   simp only[Array.getElem?_push,hs,if_neg hne];exact h.cov b hb
  ·simp only[Array.getElem?_push] at hx;split at hx
   ·exact absurd (Option.some.inj hx) (ho.2 a t)
   ·exact h.pend b a t hx
 simp only[Sem.runT];rw[h.size];exact (hk w.heap.size _ _ _ es hon.sim).on hon (λe he=>.inl he)
theorem D0.frozen{a:Addr}{k:Bool->Sem α}(hk:∀b,D0 P X (k b)):D0 P X (Sem.frozen a k):=λn w u es h=>by
 simp only[Sem.runT,h.frozen];exact hk _ _ _ _ _ h
theorem D0.shape{r:Nat}{k:Option (TypeId×Nat)->Sem α}(hb:∀t n m,k (some (t,n))=k (some (t,m)))(hk:∀o,D0 P X (k o)):D0 P X (Sem.shape r k):=λn w u es h=>by
 simp only[Sem.runT]
 have e:k (u.shape? r)=k (w.shape? r):=by
  by_cases hr:X r
  ·obtain⟨c,e,hw,hu⟩:=h.cov r hr;simp only[World.shape?,hw,hu];exact hb _ _ _
  ·simp only[World.shape?,h.same r hr]
 rw[e];exact hk _ _ _ _ _ h
theorem D0.getObj{r:Nat}{k:Obj->Sem α}(hk:∀o,D0 P X (k o)):D0 P X (Sem.getObj r k):=λn w u es h=>by
 simp only[Sem.runT];by_cases hr:X r
 ·obtain⟨c,e,hw,hu⟩:=h.cov r hr;rw[hu];exact λ_=>⟨rfl,λh=>by cases h⟩
 ·rw[h.same r hr];cases ho:w.heap[r]? with
  | none=>exact λ_=>⟨rfl,λh=>by cases h⟩
  | some o =>
   cases o with
   | cells=>exact λ_=>⟨rfl,λh=>by cases h⟩
   | _=>exact (hk _ _ _ _ _ h).step (AV hr)
theorem D0.setObj{r:Nat}{o:Obj}{k:Sem α}(hv:(∀a t,o≠.view a t)/\∀c t,o≠.pending c t)(hk:D0 P X k):D0 P X (Sem.setObj r o k):=λn w u es h=>by
 simp only[Sem.runT];by_cases hr:X r
 ·obtain⟨c,e,hw,hu⟩:=h.cov r hr;rw[hu];exact λ_=>⟨rfl,λh=>by cases h⟩
 ·have hon:MP X n w u {w with heap:=w.heap.setIfInBounds r o} {u with heap:=u.heap.setIfInBounds r o}:=by
   refine h.turn (by simp) (by simp) (λb hb=>?_) (λb hb=>?_) (λb a t hx=>?_)
   ·simp only[Array.getElem?_setIfInBounds,h.size,h.same b hb]
   ·have hne:¬r=b:=λe=>hr (e ▸ hb);simp only[Array.getElem?_setIfInBounds,if_neg hne];exact h.cov b hb
   ·simp only[Array.getElem?_setIfInBounds] at hx;split at hx
    ·split at hx
     ·exact absurd (Option.some.inj hx) (hv.2 a t)
     ·cases hx
    ·exact h.pend b a t hx
  rw[h.same r hr];cases ho:w.heap[r]? with
  | none=>exact λ_=>⟨rfl,λh=>by cases h⟩
  | some x =>
   cases x with
   | cells=>exact λ_=>⟨rfl,λh=>by cases h⟩
   | _=>exact (hk _ _ _ _ hon.sim).on hon (AV hr)
theorem U7.draw{n:Nat}{w u:World}(h:U7 X (n+1) w u):U7 X n {w with drawn:=w.drawn+1} {u with drawn:=u.drawn+1} :=
 ⟨h.size,h.old,h.same,h.cov,h.pend,h.os,h.output,λi q hi=>by have:=h.tape (1+i) q (by omega);simp only[← Nat.add_assoc] at this;exact this⟩
theorem D0.choose{q:Question}{k:Nat->Sem α}(hk:∀n,D0 P X (k n)):D0 P X (Sem.choose q k):=λn w u es h=>by
 simp only[Sem.runT];split
 ·exact hk _ _ _ _ _ h
 ·cases n with
  | zero =>
   intro hd;exfalso
   have h1:=GR P (k (q.cut (w.tape w.drawn q))) {w with drawn:=w.drawn+1} es;have h2:=GR P (k (q.cut (u.tape u.drawn q))) {u with drawn:=u.drawn+1} es;simp only at h1 h2;omega
  | succ n =>
   have e:u.tape u.drawn q=w.tape w.drawn q:=h.tape 0 q (by omega);rw[e];exact AL.after (k:=1) (w1:={w with drawn:=w.drawn+1}) (u1:={u with drawn:=u.drawn+1}) (by omega) rfl rfl rfl rfl (hk _ n _ _ es h.draw) (λe he=>.inl he)
theorem D0.program{k:Program->Sem α}(hk:D0 P X (k P)):D0 P X (Sem.program k):=λn w u es h=>by
 simp only[Sem.runT];exact hk _ _ _ _ h
theorem D0.room{k:Sem α}(hk:D0 P X k):D0 P X (Sem.mark .noRoom k):=λn w u es h=>by
 simp only[Sem.runT];exact (hk _ _ _ _ h).step (AV trivial)
theorem D0.extern{f:FuncId}{k:Sem α}(hk:D0 P X k):D0 P X (Sem.mark (.extern f) k):=λn w u es h=>by
 simp only[Sem.runT];exact (hk _ _ _ _ h).step (AV trivial)
theorem WK(os:Os):∃r os',Kernel.perform .env os=.done (r,os'):=⟨_,_,rfl⟩
theorem D0.sysEnv{k:SysRet->Sem α}(hk:∀r,D0 P X (k r)):D0 P X (Sem.sys .env k):=λn w u es h=>by
 simp only[Sem.runT];obtain⟨r,os',e⟩:=WK w.os;have e':Kernel.perform .env u.os=.done (r,os'):=by rw[h.os];exact e
 have key:∀r w1 u1,w.sys .env=(r,w1)->u.sys .env=(r,u1)->U7 X n w1 u1->w1.tape=w.tape->u1.tape=u.tape->w1.drawn=w.drawn->u1.drawn=u.drawn->AL X n w u es ((k (w.sys .env).1).runT P (w.sys .env).2 (es.push ⟨.output,true,false⟩)) ((k (u.sys .env).1).runT P (u.sys .env).2 (es.push ⟨.output,true,false⟩)):=by
  intro r w1 u1 h1 h2 hs a b c d;rw[h1,h2];exact AL.after (k:=0) (Nat.zero_le _) a b c d (hk r _ _ _ _ (by simpa using hs)) (AV trivial)
 by_cases hr:r=.wouldBlock
 ·subst hr;exact key .wouldBlock w u (by simp[World.sys,World.ask,e]) (by simp[World.sys,World.ask,e']) h rfl rfl rfl rfl
 ·exact key r {w with os:=os'} {u with os:=os'} (by cases r<;>first|exact absurd rfl hr|simp[World.sys,World.ask,e]) (by cases r<;>first|exact absurd rfl hr|simp[World.sys,World.ask,e']) ⟨h.size,h.old,h.same,h.cov,h.pend,rfl,h.output,h.tape⟩ rfl rfl rfl rfl
theorem D0.bind{x:Sem α}{f:α->Sem β}(hx:D0 P X x)(hf:∀a,D0 P X (f a)):D0 P X (x >>= f):=λn w u es h hd=>by
 have mono:∀v,JR (x.runT P v es).1<=JR ((x >>= f).runT P v es).1:=λv=>by
  show _<=JR ((x.bind f).runT P v es).1
  rw[Sem.runT_bind'];match x.runT P v es with
  | (.ok a v1,e1)=>exact GR P (f a) v1 e1
  | (.halt k v1,e1)=>exact Nat.le_refl _
 have h1:=hx n w u es h (hd.imp (Nat.le_trans (mono w)) (Nat.le_trans (mono u)));revert hd
 show AL X n w u es ((x.bind f).runT P w es) ((x.bind f).runT P u es)
 rw[Sem.runT_bind',Sem.runT_bind'];generalize x.runT P u es=ru at h1;match ru,h1 with
 | (.ok a u',eu),⟨he,w',e,ho⟩ =>
  rw[e];obtain⟨k,hk,dw,du,hs⟩:=ho.drew;exact AL.after hk ho.tw ho.tu dw du (hf a _ _ _ _ hs) he
 | (.halt k u',eu),⟨h0,hh⟩=>exact λ_=>⟨h0,λhf=>by obtain⟨he,w',e,ho⟩:=hh hf;rw[e];exact⟨he,w',rfl,ho⟩⟩
end
section
variable {P:Program} {X:Nat->Prop} {α β:Type}
theorem D6{f:Program->Sem α}(h:D0 P X (f P)):D0 P X (program >>= f):=D0.program h
theorem Yx{x:Sem α}{f:α->β}(h:D0 P X x):D0 P X (f <$> x):=D0.bind (f:=λa=>Pure.pure (f a)) h (λ_=>D0.pure' _)
theorem E1(q:Question):D0 P X (choose q):=D0.choose (λ_=>D0.pure _)
theorem G6(a:Addr)(m:Mode):D0 P X (load a m):=D0.load (λ_=>D0.pure _)
theorem F1(a:Addr)(v:Value)(m:Mode):D0 P X (store a v m):=D0.store (D0.pure _)
theorem E8(u:Unsupported)(h:Du (.unsupported u)=false):D0 P X (unsupported u:Sem α):=D0.halt _ h
theorem D4(s:String):D0 P X (stuck s:Sem α):=D0.halt _
theorem F8(t:TypeId):D0 P X (typeInfo t):=by
 unfold typeInfo;refine D6 ?_;split<;>first|exact D0.pure' _|exact D0.halt _
theorem H0(t:TypeId):D0 P X (underlying t):=by
 unfold underlying;refine D6 ?_;split<;>first|exact D0.pure' _|exact D0.halt _
theorem F5(t:TypeId):D0 P X (sizeOf t):=D0.bind (F8 t) (λ_=>D0.pure' _)
theorem F9(t:TypeId):D0 P X (zeroValue t):=by
 unfold zeroValue;refine D0.bind (F8 t) (λ_=>?_);split<;>first|exact D0.pure' _|exact D0.halt _
theorem I2(t:TypeId):D0 P X (isAgg t):=by
 unfold isAgg;refine D0.bind (H0 t) (λ_=>?_);split<;>exact D0.pure' _
theorem JT(a:Addr):∀(n i:Nat)(acc:Array Value),D0 P X (loadCellsFrom a i n acc)
 | 0,_,_=>D0.pure' _
 | n+1,i,_=>D0.bind (D0.load (λ_=>D0.pure _)) (λ_=>JT a n (i+1) _)
theorem E7(a:Addr)(n:Nat):D0 P X (loadCells a n):=JT a n 0 _
theorem D9(a:Addr):∀(vs:List Value)(i:Nat),D0 P X (storeCells a vs i)
 | [],_=>D0.pure' _
 | _::vs,i=>D0.bind (D0.store (D0.pure _)) (λ_=>D9 a vs (i+1))
theorem D8(t:TypeId)(a:Addr):D0 P X (loadVar t a):=by
 unfold loadVar;refine D0.bind (I2 t) (λb=>?_);split
 ·exact D0.bind (F5 t) (λn=>D0.bind (E7 a n) (λ_=>D0.pure' _))
 ·exact D0.load (λ_=>D0.pure _)
theorem D5(t:TypeId)(a:Addr)(v:Value):D0 P X (storeVar t a v):=by
 unfold storeVar;refine D0.bind (F5 t) (λn=>?_);split
 ·exact D0.bind (D0.halt _) (λ_=>D9 a _ _)
 ·exact D9 a _ _
theorem I4(t:TypeId)(cs:Array Value):D0 P X (newRow t cs):=D0.bind (D0.new (by simp) (λ_=>D0.pure _)) (λ_=>D0.pure' _)
theorem H7(t:TypeId)(v:Value):D0 P X (newVar t v):=I4 t _
theorem G0(t:TypeId):D0 P X (elemOf t):=by
 unfold elemOf;refine D0.bind (H0 t) (λ_=>?_);split<;>first|exact D0.pure' _|exact D0.halt _
theorem G7(t:TypeId)(cs:Array Value)(off:Nat):D0 P X (part t cs off):=by
 unfold part;refine D0.bind (I2 t) (λb=>?_);split
 ·exact D0.bind (F5 t) (λ_=>D0.pure' _)
 ·split<;>first|exact D0.pure' _|exact D0.halt _
theorem E4(e:RuntimeError):D0 P X (runtimePanic e:Sem α):=by
 unfold runtimePanic;refine D6 ?_;cases e with
 | typeAssertion i c a m=>exact D0.bind (G0 _) (λt=>D0.bind (H7 t _) (λ_=>D0.halt _))
 | panicNil=>exact D0.bind (G0 _) (λt=>D0.bind (H7 t _) (λ_=>D0.halt _))
 | _=>exact D0.halt _
theorem E2(k:IntKind)(x y:Int)(c:BoundsCode):D0 P X (boundsPanic k x y c:Sem α):=by
 unfold boundsPanic;dsimp only
 split
 ·exact D0.bind (Yx (D0.choose (λ_=>D0.pure _))) (λ_=>E4 _)
 ·exact D0.bind (D0.pure' _) (λ_=>E4 _)
theorem E9(v:Value):D0 P X (asIntOf v):=by unfold asIntOf;split<;>first|exact D0.pure' _|exact D0.halt _
theorem I5(v:Value):D0 P X (asInt v):=D0.bind (E9 v) (λ_=>D0.pure' _)
theorem G1(v:Value):D0 P X (asBool v):=by unfold asBool;split<;>first|exact D0.pure' _|exact D0.halt _
theorem I6(v:Value):D0 P X (asString v):=by unfold asString;split<;>first|exact D0.pure' _|exact D0.halt _
theorem F2(v:Value):D0 P X (asAgg v):=by unfold asAgg;split<;>first|exact D0.pure' _|exact D0.halt _
theorem G5(v:Value):D0 P X (asAddr v):=by unfold asAddr;split<;>first|exact D0.pure' _|exact D0.halt _|exact E4 _
theorem G2(v:Value):D0 P X (Instr.sureAddr v):=by unfold Instr.sureAddr;split<;>first|exact D0.pure' _|exact D0.halt _
theorem G8(n:Nat):D0 P X (askRoom n):=by unfold askRoom;split<;>first|exact D0.room (D0.pure _)|exact D0.pure' _
theorem Ux{γ:Type}{f:γ->Sem β}(hf:∀x,D0 P X (f x))(xs:Array γ):D0 P X (xs.mapM f):=by
 rw[Array.mapM_eq_mapM_toList];refine Yx ?_;induction xs.toList with
 | nil=>exact D0.pure' _
 | cons x l ih =>
  rw[List.mapM_cons];exact D0.bind (hf x) (λ_=>D0.bind ih (λ_=>D0.pure' _))
theorem Zb(t:TypeId)(b:Bool)(v:Value):D0 P X (Instr.alloc t b v):=by
 unfold Instr.alloc;refine D0.bind (F9 t) (λz=>?_);split
 ·exact D0.bind (D5 _ _ _) (λ_=>D0.pure' _)
 ·exact D0.bind (H7 _ _) (λ_=>D0.pure' _)
theorem Acz(t:TypeId)(v:Value):D0 P X (Instr.box t v):=D0.bind (H7 t v) (λ_=>D0.pure' _)
theorem WL(t:TypeId)(v:Value):D0 P X (Instr.loadAt t v):=D0.bind (G2 v) (λ_=>D8 t _)
theorem Uy(t:TypeId)(a v:Value):D0 P X (Instr.storeAt t a v):=D0.bind (G2 a) (λ_=>D5 t _ v)
theorem Zc(t:TypeId)(v:Value)(f:Nat):D0 P X (Instr.field t v f):=by
 unfold Instr.field;repeat' first|(with_reducible first|exact D0.pure' _|exact D0.pure _|exact D0.halt _|assumption|exact D4 _|exact F8 _|exact H0 _|exact F5 _|exact F9 _|exact I2 _|exact E7 _ _|exact D9 _ _ _|exact D8 _ _|exact D5 _ _ _|exact I4 _ _|exact H7 _ _|exact G0 _|exact G7 _ _ _|exact E4 _|exact E2 _ _ _ _|exact E9 _|exact I5 _|exact G1 _|exact I6 _|exact F2 _|exact G5 _|exact G2 _|exact G8 _|exact E1 _|exact G6 _ _|exact F1 _ _ _|refine D6 ?_|refine D0.bind ?_ (λ_=>?_))|((with_reducible refine E8 _ ?_)<;>rfl)|(dsimp only)|split
theorem Zd(t:TypeId)(v i:Value):D0 P X (Instr.index t v i):=by
 unfold Instr.index;repeat' first|(with_reducible first|exact D0.pure' _|exact D0.pure _|exact D0.halt _|assumption|exact D4 _|exact F8 _|exact H0 _|exact F5 _|exact F9 _|exact I2 _|exact E7 _ _|exact D9 _ _ _|exact D8 _ _|exact D5 _ _ _|exact I4 _ _|exact H7 _ _|exact G0 _|exact G7 _ _ _|exact E4 _|exact E2 _ _ _ _|exact E9 _|exact I5 _|exact G1 _|exact I6 _|exact F2 _|exact G5 _|exact G2 _|exact G8 _|exact E1 _|exact G6 _ _|exact F1 _ _ _|refine D6 ?_|refine D0.bind ?_ (λ_=>?_))|((with_reducible refine E8 _ ?_)<;>rfl)|(dsimp only)|split
theorem Uz(t:TypeId)(v i:Value):D0 P X (Instr.indexAt t v i):=by
 unfold Instr.indexAt;repeat' first|(with_reducible first|exact D0.pure' _|exact D0.pure _|exact D0.halt _|assumption|exact D4 _|exact F8 _|exact H0 _|exact F5 _|exact F9 _|exact I2 _|exact E7 _ _|exact D9 _ _ _|exact D8 _ _|exact D5 _ _ _|exact I4 _ _|exact H7 _ _|exact G0 _|exact G7 _ _ _|exact E4 _|exact E2 _ _ _ _|exact E9 _|exact I5 _|exact G1 _|exact I6 _|exact F2 _|exact G5 _|exact G2 _|exact G8 _|exact E1 _|exact G6 _ _|exact F1 _ _ _|refine D6 ?_|refine D0.bind ?_ (λ_=>?_))|((with_reducible refine E8 _ ?_)<;>rfl)|(dsimp only)|split
theorem Ze(t:TypeId)(ps:Array (Nat×Value)):D0 P X (Instr.build t ps):=by
 unfold Instr.build;refine D0.bind (F9 t) (λz=>D0.bind (H0 t) (λd=>?_));split
 ·refine D0.bind (Ux (λf=>D0.bind (F5 _) (λ_=>D0.pure' _)) _) (λpl=>?_);repeat' first|(with_reducible first|exact D0.pure' _|exact D0.pure _|exact D0.halt _|assumption|exact D4 _|exact F8 _|exact H0 _|exact F5 _|exact F9 _|exact I2 _|exact E7 _ _|exact D9 _ _ _|exact D8 _ _|exact D5 _ _ _|exact I4 _ _|exact H7 _ _|exact G0 _|exact G7 _ _ _|exact E4 _|exact E2 _ _ _ _|exact E9 _|exact I5 _|exact G1 _|exact I6 _|exact F2 _|exact G5 _|exact G2 _|exact G8 _|exact E1 _|exact G6 _ _|exact F1 _ _ _|refine D6 ?_|refine D0.bind ?_ (λ_=>?_))|((with_reducible refine E8 _ ?_)<;>rfl)|(dsimp only)|split
 ·repeat' first|(with_reducible first|exact D0.pure' _|exact D0.pure _|exact D0.halt _|assumption|exact D4 _|exact F8 _|exact H0 _|exact F5 _|exact F9 _|exact I2 _|exact E7 _ _|exact D9 _ _ _|exact D8 _ _|exact D5 _ _ _|exact I4 _ _|exact H7 _ _|exact G0 _|exact G7 _ _ _|exact E4 _|exact E2 _ _ _ _|exact E9 _|exact I5 _|exact G1 _|exact I6 _|exact F2 _|exact G5 _|exact G2 _|exact G8 _|exact E1 _|exact G6 _ _|exact F1 _ _ _|refine D6 ?_|refine D0.bind ?_ (λ_=>?_))|((with_reducible refine E8 _ ?_)<;>rfl)|(dsimp only)|split
 ·repeat' first|(with_reducible first|exact D0.pure' _|exact D0.pure _|exact D0.halt _|assumption|exact D4 _|exact F8 _|exact H0 _|exact F5 _|exact F9 _|exact I2 _|exact E7 _ _|exact D9 _ _ _|exact D8 _ _|exact D5 _ _ _|exact I4 _ _|exact H7 _ _|exact G0 _|exact G7 _ _ _|exact E4 _|exact E2 _ _ _ _|exact E9 _|exact I5 _|exact G1 _|exact I6 _|exact F2 _|exact G5 _|exact G2 _|exact G8 _|exact E1 _|exact G6 _ _|exact F1 _ _ _|refine D6 ?_|refine D0.bind ?_ (λ_=>?_))|((with_reducible refine E8 _ ?_)<;>rfl)|(dsimp only)|split
theorem OR(t:TypeId)(n:Nat)(ps:Array (Nat×Value)):D0 P X (Instr.buildSlice t n ps):=by
 unfold Instr.buildSlice;repeat' first|(with_reducible first|exact D0.pure' _|exact D0.pure _|exact D0.halt _|assumption|exact D4 _|exact F8 _|exact H0 _|exact F5 _|exact F9 _|exact I2 _|exact E7 _ _|exact D9 _ _ _|exact D8 _ _|exact D5 _ _ _|exact I4 _ _|exact H7 _ _|exact G0 _|exact G7 _ _ _|exact E4 _|exact E2 _ _ _ _|exact E9 _|exact I5 _|exact G1 _|exact I6 _|exact F2 _|exact G5 _|exact G2 _|exact G8 _|exact E1 _|exact G6 _ _|exact F1 _ _ _|refine D6 ?_|refine D0.bind ?_ (λ_=>?_))|((with_reducible refine E8 _ ?_)<;>rfl)|(dsimp only)|split
theorem UA(v:Value)(i:Nat):D0 P X (Instr.extract v i):=by
 unfold Instr.extract;repeat' first|(with_reducible first|exact D0.pure' _|exact D0.pure _|exact D0.halt _|assumption|exact D4 _|exact F8 _|exact H0 _|exact F5 _|exact F9 _|exact I2 _|exact E7 _ _|exact D9 _ _ _|exact D8 _ _|exact D5 _ _ _|exact I4 _ _|exact H7 _ _|exact G0 _|exact G7 _ _ _|exact E4 _|exact E2 _ _ _ _|exact E9 _|exact I5 _|exact G1 _|exact I6 _|exact F2 _|exact G5 _|exact G2 _|exact G8 _|exact E1 _|exact G6 _ _|exact F1 _ _ _|refine D6 ?_|refine D0.bind ?_ (λ_=>?_))|((with_reducible refine E8 _ ?_)<;>rfl)|(dsimp only)|split
theorem SN(fn:Fn)(a b:Array Value):D0 P X (Instr.makeFunc fn a b):=D0.pure' _
theorem KL(t:TypeId)(v:Value):D0 P X (Instr.makeInterface t v):=by
 unfold Instr.makeInterface;repeat' first|(with_reducible first|exact D0.pure' _|exact D0.pure _|exact D0.halt _|assumption|exact D4 _|exact F8 _|exact H0 _|exact F5 _|exact F9 _|exact I2 _|exact E7 _ _|exact D9 _ _ _|exact D8 _ _|exact D5 _ _ _|exact I4 _ _|exact H7 _ _|exact G0 _|exact G7 _ _ _|exact E4 _|exact E2 _ _ _ _|exact E9 _|exact I5 _|exact G1 _|exact I6 _|exact F2 _|exact G5 _|exact G2 _|exact G8 _|exact E1 _|exact G6 _ _|exact F1 _ _ _|refine D6 ?_|refine D0.bind ?_ (λ_=>?_))|((with_reducible refine E8 _ ?_)<;>rfl)|(dsimp only)|split
theorem UB(t:TypeId)(v:Option Value):D0 P X (Instr.makeMap t v):=by
 unfold Instr.makeMap;have hn:D0 P X (do pure (.map (some (← newObj (.map #[] 0)))):Sem Value):=D0.bind (D0.new (by simp) (λ_=>D0.pure _)) (λ_=>D0.pure' _);repeat' first|(with_reducible first|exact D0.pure' _|exact D0.pure _|exact D0.halt _|assumption|exact D4 _|exact F8 _|exact H0 _|exact F5 _|exact F9 _|exact I2 _|exact E7 _ _|exact D9 _ _ _|exact D8 _ _|exact D5 _ _ _|exact I4 _ _|exact H7 _ _|exact G0 _|exact G7 _ _ _|exact E4 _|exact E2 _ _ _ _|exact E9 _|exact I5 _|exact G1 _|exact I6 _|exact F2 _|exact G5 _|exact G2 _|exact G8 _|exact E1 _|exact G6 _ _|exact F1 _ _ _|refine D6 ?_|refine D0.bind ?_ (λ_=>?_))|((with_reducible refine E8 _ ?_)<;>rfl)|(dsimp only)|split
theorem QD(t:TypeId)(a b:Value):D0 P X (Instr.makeSlice t a b):=by
 unfold Instr.makeSlice;repeat' first|(with_reducible first|exact D0.pure' _|exact D0.pure _|exact D0.halt _|assumption|exact D4 _|exact F8 _|exact H0 _|exact F5 _|exact F9 _|exact I2 _|exact E7 _ _|exact D9 _ _ _|exact D8 _ _|exact D5 _ _ _|exact I4 _ _|exact H7 _ _|exact G0 _|exact G7 _ _ _|exact E4 _|exact E2 _ _ _ _|exact E9 _|exact I5 _|exact G1 _|exact I6 _|exact F2 _|exact G5 _|exact G2 _|exact G8 _|exact E1 _|exact G6 _ _|exact F1 _ _ _|refine D6 ?_|refine D0.bind ?_ (λ_=>?_))|((with_reducible refine E8 _ ?_)<;>rfl)|(dsimp only)|split
end
section
variable {P:Program} {X:Nat->Prop} {α β:Type}
theorem F3(r:Nat):D0 P X (getObj r):=D0.getObj (λ_=>D0.pure _)
theorem N1(a:Addr):D0 P X (frozen a):=D0.frozen (λ_=>D0.pure _)
theorem KM(r:Nat){o:Obj}(h:(∀a t,o≠.view a t)/\∀c t,o≠.pending c t):D0 P X (setObj r o):=D0.setObj h (D0.pure _)
def OS(P:Program)(s:Sem α):Prop:=∀w es,∃h u eu,s.runT P w es=(.halt h u,eu)/\free h=true
theorem OS.alike{s:Sem α}(h:OS P s)(n:Nat)(w0 u0 u:World)(es:Array Event)(rw:Result α×Array Event):AL X n w0 u0 es rw (s.runT P u es):=by
 intro _;obtain⟨h,u',eu,e,hp⟩:=h u es;rw[e];refine⟨?_,λhf=>by rw[hp] at hf;cases hf⟩;cases h<;>first|rfl|(cases hp;done)|(rename_i x;cases x<;>first|rfl|cases hp)
theorem D0.shape2{r:Nat}{k:Option (TypeId×Nat)->Sem α}(hb:∀t n,k (some (t,n))=k (some (t,0))∨OS P (k (some (t,0))))(hk:∀o,D0 P X (k o)):D0 P X (Sem.shape r k):=λn w u es h=>by
 simp only[Sem.runT];by_cases hr:X r
 ·obtain⟨c,e,hw,hu⟩:=h.cov r hr;simp only[World.shape?,hw,hu];rcases hb e c.size with h1|h1
  ·rw[h1];exact hk _ _ _ _ _ h
  ·exact h1.alike _ _ _ _ _ _
 ·simp only[World.shape?,h.same r hr];exact hk _ _ _ _ _ h
theorem Fo{r:Nat}{f:Option (TypeId×Nat)->Sem α}(hb:∀t n,f (some (t,n))=f (some (t,0))∨OS P (f (some (t,0))))(hk:∀o,D0 P X (f o)):D0 P X (shape r >>= f):=D0.shape2 hb hk
theorem OT(r:Nat):D0 P X (viewAt r):=by
 unfold viewAt;refine Fo (λt n=>.inl rfl) (λo=>?_);split
 ·exact D0.pure' _
 ·refine D0.bind (F3 r) (λ_=>?_);split<;>exact D0.pure' _
theorem KN(r:Nat):D0 P X (numberAt r):=by
 unfold numberAt;refine Fo (λt n=>.inl rfl) (λo=>?_);split
 ·exact D0.pure' _
 ·refine D0.bind (F3 r) (λ_=>?_);split<;>exact D0.pure' _
theorem M6(a:Addr):D0 P X (noView a):=by
 unfold noView;refine D0.bind (OT _) (λ_=>?_);split<;>first|exact D0.halt _|exact D0.pure' _
theorem Kk(n:Addr):D0 P X (behindNumber n):=D0.bind (KN _) (λ_=>D0.pure' _)
theorem FC(a:Addr):D0 P X (byteOf a):=by
 unfold byteOf;dsimp only
 split
 ·exact D0.pure' _
 ·refine D6 (D0.bind (M6 a) (λ_=>Fo (λt n=>.inl rfl) (λo=>?_)));repeat' first|(with_reducible first|exact D0.pure' _|exact D0.pure _|exact D0.halt _|assumption|exact D4 _|exact F8 _|exact H0 _|exact F5 _|exact F9 _|exact I2 _|exact E7 _ _|exact D9 _ _ _|exact D8 _ _|exact D5 _ _ _|exact I4 _ _|exact H7 _ _|exact G0 _|exact G7 _ _ _|exact E4 _|exact E2 _ _ _ _|exact E9 _|exact I5 _|exact G1 _|exact I6 _|exact F2 _|exact G5 _|exact G2 _|exact G8 _|exact E1 _|exact G6 _ _|exact F1 _ _ _|refine D6 ?_|refine D0.bind ?_ (λ_=>?_))|((with_reducible refine E8 _ ?_)<;>rfl)|(dsimp only)|split
theorem WM(a:Addr)(c b:Nat):D0 P X (partAt a c b):=by
 unfold partAt;exact D0.bind (FC _) (λ_=>D0.bind (FC _) (λ_=>D0.pure' _))
theorem J7(a:Addr)(f:Field):D0 P X (fieldPlace a f):=by
 unfold fieldPlace;refine D0.bind (F5 _) (λ_=>?_);split
 ·exact WM _ _ _
 ·exact D0.pure' _
theorem UC(t:TypeId)(v:Value)(f:Nat):D0 P X (Instr.fieldAt t v f):=by
 unfold Instr.fieldAt;repeat' first|(with_reducible first|exact D0.pure' _|exact D0.pure _|exact D0.halt _|assumption|exact D4 _|exact F8 _|exact H0 _|exact F5 _|exact F9 _|exact I2 _|exact E7 _ _|exact D9 _ _ _|exact D8 _ _|exact D5 _ _ _|exact I4 _ _|exact H7 _ _|exact G0 _|exact G7 _ _ _|exact E4 _|exact E2 _ _ _ _|exact E9 _|exact I5 _|exact G1 _|exact I6 _|exact F2 _|exact G5 _|exact G2 _|exact G8 _|exact E1 _|exact G6 _ _|exact F1 _ _ _|exact J7 _ _|refine D6 ?_|refine D0.bind ?_ (λ_=>?_))|((with_reducible refine E8 _ ?_)<;>rfl)|(dsimp only)|split
theorem OU(x:Value)(y:Nat)(c:BoundsCode):D0 P X (Instr.sliceBound x y c):=by
 unfold Instr.sliceBound;repeat' first|(with_reducible first|exact D0.pure' _|exact D0.pure _|exact D0.halt _|assumption|exact D4 _|exact F8 _|exact H0 _|exact F5 _|exact F9 _|exact I2 _|exact E7 _ _|exact D9 _ _ _|exact D8 _ _|exact D5 _ _ _|exact I4 _ _|exact H7 _ _|exact G0 _|exact G7 _ _ _|exact E4 _|exact E2 _ _ _ _|exact E9 _|exact I5 _|exact G1 _|exact I6 _|exact F2 _|exact G5 _|exact G2 _|exact G8 _|exact E1 _|exact G6 _ _|exact F1 _ _ _|refine D6 ?_|refine D0.bind ?_ (λ_=>?_))|((with_reducible refine E8 _ ?_)<;>rfl)|(dsimp only)|split
theorem Ir(b:Bool)(n c:Nat)(l h m:Option Value):D0 P X (Instr.sliceBounds b n c l h m):=by
 unfold Instr.sliceBounds;repeat' first|(with_reducible first|exact D0.pure' _|exact D0.pure _|exact D0.halt _|assumption|exact D4 _|exact F8 _|exact H0 _|exact F5 _|exact F9 _|exact I2 _|exact E7 _ _|exact D9 _ _ _|exact D8 _ _|exact D5 _ _ _|exact I4 _ _|exact H7 _ _|exact G0 _|exact G7 _ _ _|exact E4 _|exact E2 _ _ _ _|exact E9 _|exact I5 _|exact G1 _|exact I6 _|exact F2 _|exact G5 _|exact G2 _|exact G8 _|exact E1 _|exact G6 _ _|exact F1 _ _ _|exact OU _ _ _|refine D6 ?_|refine D0.bind ?_ (λ_=>?_))|((with_reducible refine E8 _ ?_)<;>rfl)|(dsimp only)|split
theorem Zf(t:TypeId)(x:Value)(l h m:Option Value):D0 P X (Instr.slice t x l h m):=by
 unfold Instr.slice;repeat' first|(with_reducible first|exact D0.pure' _|exact D0.pure _|exact D0.halt _|assumption|exact D4 _|exact F8 _|exact H0 _|exact F5 _|exact F9 _|exact I2 _|exact E7 _ _|exact D9 _ _ _|exact D8 _ _|exact D5 _ _ _|exact I4 _ _|exact H7 _ _|exact G0 _|exact G7 _ _ _|exact E4 _|exact E2 _ _ _ _|exact E9 _|exact I5 _|exact G1 _|exact I6 _|exact F2 _|exact G5 _|exact G2 _|exact G8 _|exact E1 _|exact G6 _ _|exact F1 _ _ _|exact Ir _ _ _ _ _ _|refine D6 ?_|refine D0.bind ?_ (λ_=>?_))|((with_reducible refine E8 _ ?_)<;>rfl)|(dsimp only)|split
theorem UD(t:TypeId)(x:Value)(l h m:Option Value):D0 P X (Instr.sliceAt t x l h m):=by
 unfold Instr.sliceAt;repeat' first|(with_reducible first|exact D0.pure' _|exact D0.pure _|exact D0.halt _|assumption|exact D4 _|exact F8 _|exact H0 _|exact F5 _|exact F9 _|exact I2 _|exact E7 _ _|exact D9 _ _ _|exact D8 _ _|exact D5 _ _ _|exact I4 _ _|exact H7 _ _|exact G0 _|exact G7 _ _ _|exact E4 _|exact E2 _ _ _ _|exact E9 _|exact I5 _|exact G1 _|exact I6 _|exact F2 _|exact G5 _|exact G2 _|exact G8 _|exact E1 _|exact G6 _ _|exact F1 _ _ _|exact Ir _ _ _ _ _ _|exact Zf _ _ _ _ _|refine D6 ?_|refine D0.bind ?_ (λ_=>?_))|((with_reducible refine E8 _ ?_)<;>rfl)|(dsimp only)|split
theorem Zg(t:TypeId)(x:Value):D0 P X (Instr.range t x):=by
 have hn:∀(o:Obj),((∀a t,o≠.view a t)/\∀c t,o≠.pending c t)->D0 P X (do pure (.pointer (some ⟨← newObj o,0,none⟩)):Sem Value):=λo ho=>D0.bind (D0.new ho (λ_=>D0.pure _)) (λ_=>D0.pure' _);unfold Instr.range;refine D0.bind (H0 t) (λd=>?_);dsimp only
 split
 ·exact hn _ (by simp)
 ·exact hn _ (by simp)
 ·refine D0.bind (F3 _) (λo=>?_);split
  ·exact hn _ (by simp)
  ·exact D0.halt _
 ·exact D0.halt _
theorem AaF(v:Value)(b:Bool)(t:TypeId):D0 P X (Instr.next v b t):=by
 unfold Instr.next;repeat' first|(with_reducible first|exact D0.pure' _|exact D0.pure _|exact D0.halt _|assumption|exact D4 _|exact F8 _|exact H0 _|exact F5 _|exact F9 _|exact I2 _|exact E7 _ _|exact D9 _ _ _|exact D8 _ _|exact D5 _ _ _|exact I4 _ _|exact H7 _ _|exact G0 _|exact G7 _ _ _|exact E4 _|exact E2 _ _ _ _|exact E9 _|exact I5 _|exact G1 _|exact I6 _|exact F2 _|exact G5 _|exact G2 _|exact G8 _|exact E1 _|exact G6 _ _|exact F1 _ _ _|exact F3 _|refine D6 ?_|refine D0.bind ?_ (λ_=>?_))|exact KM _ (by simp)|((with_reducible refine E8 _ ?_)<;>rfl)|(dsimp only)|split
theorem Ac0(a:Array TypeId)(t:TypeId)(v:Array Value):D0 P X (Builtin.len_ a t v):=by
 unfold Builtin.len_;repeat' first|(with_reducible first|exact D0.pure' _|exact D0.pure _|exact D0.halt _|assumption|exact D4 _|exact F8 _|exact H0 _|exact F5 _|exact F9 _|exact I2 _|exact E7 _ _|exact D9 _ _ _|exact D8 _ _|exact D5 _ _ _|exact I4 _ _|exact H7 _ _|exact G0 _|exact G7 _ _ _|exact E4 _|exact E2 _ _ _ _|exact E9 _|exact I5 _|exact G1 _|exact I6 _|exact F2 _|exact G5 _|exact G2 _|exact G8 _|exact E1 _|exact G6 _ _|exact F1 _ _ _|exact F3 _|refine D6 ?_|refine D0.bind ?_ (λ_=>?_))|((with_reducible refine E8 _ ?_)<;>rfl)|(dsimp only)|split
theorem Rs(v:Value):D0 P X (Builtin.lenOf v):=by
 unfold Builtin.lenOf;split<;>first|exact D0.pure' _|exact D0.halt _
theorem ID(s n:Nat)(v:Value):D0 P X (Builtin.firstCells s n v):=by
 unfold Builtin.firstCells;split<;>first|exact E7 _ _|exact D0.pure' _|exact D0.halt _
theorem AaG(a:Array TypeId)(t:TypeId)(v:Array Value):D0 P X (Builtin.copy_ a t v):=by
 unfold Builtin.copy_;repeat' first|(with_reducible first|exact D0.pure' _|exact D0.pure _|exact D0.halt _|assumption|exact D4 _|exact F8 _|exact H0 _|exact F5 _|exact F9 _|exact I2 _|exact E7 _ _|exact D9 _ _ _|exact D8 _ _|exact D5 _ _ _|exact I4 _ _|exact H7 _ _|exact G0 _|exact G7 _ _ _|exact E4 _|exact E2 _ _ _ _|exact E9 _|exact I5 _|exact G1 _|exact I6 _|exact F2 _|exact G5 _|exact G2 _|exact G8 _|exact E1 _|exact G6 _ _|exact F1 _ _ _|exact Rs _|exact ID _ _ _|refine D6 ?_|refine D0.bind ?_ (λ_=>?_))|((with_reducible refine E8 _ ?_)<;>rfl)|(dsimp only)|split
end
section
variable {P:Program} {X:Nat->Prop} {α β:Type}
theorem IE{γ σ:Type}{f:γ->σ->Sem (ForInStep σ)}(hf:∀x s,D0 P X (f x s)):∀(l:List γ)(i:σ),D0 P X (forIn l i f)
 | [],i=>by rw[List.forIn_nil];exact D0.pure' _
 | x::l,i=>by
  rw[List.forIn_cons];refine D0.bind (hf x i) (λr=>?_);cases r with
  | done s=>exact D0.pure' _
  | yield s=>exact IE hf l s
theorem GT{γ σ:Type}{f:γ->σ->Sem (ForInStep σ)}(hf:∀x s,D0 P X (f x s))(xs:Array γ)(i:σ):D0 P X (forIn xs i f):=by
 rw[← Array.forIn_toList];exact IE hf _ _
theorem GU{σ:Type}{f:Nat->σ->Sem (ForInStep σ)}(hf:∀x s,D0 P X (f x s))(r:Std.Legacy.Range)(i:σ):D0 P X (forIn r i f):=by
 rw[Std.Legacy.Range.forIn_eq_forIn_range'];exact IE hf _ _
def sg(w:World)(a:Addr):Bool:=w.frozen? a || (match w.shape? a.block with|some (_,n)=>w.frozen? {block:=a.block,off:=n}|none=>false)
def nn(w:World)(a:Addr):Bool:=match w.shape? a.block with|some (_,0)=>true|_=>false
theorem Is(w:World)(a:Addr)(es:Array Event):(stringish a).runT P w es=(.ok (sg w a) w,es):=by
 unfold stringish;show ((frozen a).bind _).runT P w es=_
 rw[Sem.runT_bind'];have e:(frozen a).runT P w es=(.ok (w.frozen? a) w,es):=rfl;rw[e];cases hf:w.frozen? a with
 | true=>simp only[sg,hf,Bool.true_or];rfl
 | false =>
  simp only[sg,hf,Bool.false_or,Bool.false_eq_true,if_false];show ((shape a.block).bind _).runT P w es=_
  rw[Sem.runT_bind'];have e2:(shape a.block).runT P w es=(.ok (w.shape? a.block) w,es):=rfl;rw[e2];cases hs:w.shape? a.block with
  | none=>rfl
  | some o=>rfl
theorem U7.sgX{n:Nat}{w u:World}(h:U7 X n w u){a:Addr}(ha:X a.block):sg u a=false/\sg w a=false:=by
 obtain⟨c,e,hw,hu⟩:=h.cov _ ha;constructor<;>simp[sg,World.frozen?,World.shape?,hw,hu]
theorem U7.sg{n:Nat}{w u:World}(h:U7 X n w u)(a:Addr):sg u a=sg w a:=by
 by_cases ha:X a.block
 ·rw[(h.sgX ha).1,(h.sgX ha).2]
 ·simp only[Go.Proofs.YtmfjakieahkacaaGreatDoor.sg,World.frozen?,World.shape?,h.same _ ha]
theorem IF(w:World)(a b:Addr)(es:Array Event):(mayBeOne a b).runT P w es=(.ok ((sg w a&&sg w b) || (sg w a&&nn w a) || (sg w b&&nn w b)) w,es):=by
 unfold mayBeOne;dsimp only
 show ((stringish a).bind _).runT P w es=_
 rw[Sem.runT_bind',Is];show ((stringish b).bind _).runT P w es=_
 rw[Sem.runT_bind',Is];show ((Sem.bind (shape a.block) _).bind _).runT P w es=_
 simp only[Sem.runT_bind'];have e2:∀r,(shape r).runT P w es=(.ok (w.shape? r) w,es):=λ_=>rfl;rw[e2];show ((Sem.bind (Sem.bind (shape b.block) _) _).runT P w es)=_
 simp only[Sem.runT_bind'];rw[e2];rfl
theorem K6(a b:Addr):D0 P X (mayBeOne a b):=λn w u es h=>by
 rw[IF,IF];refine λ_=>⟨λe he=>.inl he,w,?_,On.refl h⟩
 have hn:∀x,(Go.Proofs.YtmfjakieahkacaaGreatDoor.sg u x&&nn u x)=(Go.Proofs.YtmfjakieahkacaaGreatDoor.sg w x&&nn w x):=λx=>by
  by_cases hx:X x.block
  ·rw[(h.sgX hx).1,(h.sgX hx).2];rfl
  ·rw[h.sg x];simp only[nn,World.shape?,h.same _ hx]
 rw[h.sg a,h.sg b,← h.sg a,← h.sg b,hn a,hn b,h.sg a,h.sg b]
theorem KO(a b:Addr):D0 P X (sameAddr a b):=by
 unfold sameAddr;repeat' first|(with_reducible first|exact D0.pure' _|exact D0.pure _|exact D0.halt _|assumption|exact D4 _|exact F8 _|exact H0 _|exact F5 _|exact F9 _|exact I2 _|exact E7 _ _|exact D9 _ _ _|exact D8 _ _|exact D5 _ _ _|exact I4 _ _|exact H7 _ _|exact G0 _|exact G7 _ _ _|exact E4 _|exact E2 _ _ _ _|exact E9 _|exact I5 _|exact G1 _|exact I6 _|exact F2 _|exact G5 _|exact G2 _|exact G8 _|exact E1 _|exact G6 _ _|exact F1 _ _ _|exact F3 _|exact N1 _|exact M6 _|exact K6 _ _|refine D6 ?_|refine D0.bind ?_ (λ_=>?_))|((with_reducible refine E8 _ ?_)<;>rfl)|(dsimp only)|split
theorem NP(a b:Option Addr):D0 P X (samePointer a b):=by
 unfold samePointer;split<;>first|exact KO _ _|exact D0.pure' _
theorem F4(t:TypeId):D0 P X (typeStr t):=by
 unfold typeStr;repeat' first|(with_reducible first|exact D0.pure' _|exact D0.pure _|exact D0.halt _|assumption|exact D4 _|exact F8 _|exact H0 _|exact F5 _|exact F9 _|exact I2 _|exact E7 _ _|exact D9 _ _ _|exact D8 _ _|exact D5 _ _ _|exact I4 _ _|exact H7 _ _|exact G0 _|exact G7 _ _ _|exact E4 _|exact E2 _ _ _ _|exact E9 _|exact I5 _|exact G1 _|exact I6 _|exact F2 _|exact G5 _|exact G2 _|exact G8 _|exact E1 _|exact G6 _ _|exact F1 _ _ _|exact F3 _|refine D6 ?_|refine D0.bind ?_ (λ_=>?_))|((with_reducible refine E8 _ ?_)<;>rfl)|(dsimp only)|split
theorem MQ:∀(d:Nat)(t:TypeId)(x y:Value),D0 P X (Op.equalIn d t x y)
 | 0,_,_,_=>D0.halt _
 | d+1,t,x,y=>by
  have ih:=λt x y=>MQ d t x y;unfold Op.equalIn;refine D0.bind (H0 t) (λu=>?_);split<;>repeat' first|(with_reducible first|exact D0.pure' _|exact D0.pure _|exact D0.halt _|assumption|exact D4 _|exact F8 _|exact H0 _|exact F5 _|exact F9 _|exact I2 _|exact E7 _ _|exact D9 _ _ _|exact D8 _ _|exact D5 _ _ _|exact I4 _ _|exact H7 _ _|exact G0 _|exact G7 _ _ _|exact E4 _|exact E2 _ _ _ _|exact E9 _|exact I5 _|exact G1 _|exact I6 _|exact F2 _|exact G5 _|exact G2 _|exact G8 _|exact E1 _|exact G6 _ _|exact F1 _ _ _|exact F3 _|exact Kk _|exact FC _|exact KO _ _|exact NP _ _|exact F4 _|exact ih _ _ _|refine GT (λ_ _=>?_) _ _|refine GU (λ_ _=>?_) _ _|refine D6 ?_|refine D0.bind ?_ (λ_=>?_))|((with_reducible refine E8 _ ?_)<;>rfl)|(dsimp only)|split
theorem I0(t:TypeId)(x y:Value):D0 P X (Op.equal t x y):=MQ _ _ _ _
end
section
variable {P:Program} {X:Nat->Prop} {α β:Type}
theorem JU:∀(d:Nat)(t:TypeId)(x y:Value),D0 P X (Op.eqGuardIn d t x y)
 | 0,_,_,_=>D0.halt _
 | d+1,t,x,y=>by
  have ih:=λt x y=>JU d t x y;unfold Op.eqGuardIn;refine D0.bind (H0 t) (λu=>?_);split<;>repeat' first|(with_reducible first|exact D0.pure' _|exact D0.pure _|exact D0.halt _|assumption|exact D4 _|exact F8 _|exact H0 _|exact F5 _|exact F9 _|exact I2 _|exact E7 _ _|exact D9 _ _ _|exact D8 _ _|exact D5 _ _ _|exact I4 _ _|exact H7 _ _|exact G0 _|exact G7 _ _ _|exact E4 _|exact E2 _ _ _ _|exact E9 _|exact I5 _|exact G1 _|exact I6 _|exact F2 _|exact G5 _|exact G2 _|exact G8 _|exact E1 _|exact G6 _ _|exact F1 _ _ _|exact F3 _|exact I0 _ _ _|exact F4 _|exact ih _ _ _|refine GT (λ_ _=>?_) _ _|refine GU (λ_ _=>?_) _ _|refine D6 ?_|refine D0.bind ?_ (λ_=>?_))|((with_reducible refine E8 _ ?_)<;>rfl)|(dsimp only)|split
theorem UE(op:BinOp)(t:TypeId)(x y:Operand)(a b:Value):D0 P X (eqGuard op t x y a b):=by
 unfold eqGuard;repeat' first|(with_reducible first|exact D0.pure' _|exact D0.pure _|exact D0.halt _|assumption|exact D4 _|exact F8 _|exact H0 _|exact F5 _|exact F9 _|exact I2 _|exact E7 _ _|exact D9 _ _ _|exact D8 _ _|exact D5 _ _ _|exact I4 _ _|exact H7 _ _|exact G0 _|exact G7 _ _ _|exact E4 _|exact E2 _ _ _ _|exact E9 _|exact I5 _|exact G1 _|exact I6 _|exact F2 _|exact G5 _|exact G2 _|exact G8 _|exact E1 _|exact G6 _ _|exact F1 _ _ _|exact F3 _|exact I0 _ _ _|exact F4 _|exact JU _ _ _ _|refine D6 ?_|refine D0.bind ?_ (λ_=>?_))|((with_reducible refine E8 _ ?_)<;>rfl)|(dsimp only)|split
theorem EY(e:Bool):∀(d:Nat)(t:TypeId)(v:Value),D0 P X (Instr.checkKey e d t v)
 | 0,_,_=>D0.halt _
 | d+1,t,v=>by
  have ih:=λt v=>EY e d t v;unfold Instr.checkKey;refine D0.bind (H0 t) (λu=>?_);split<;>repeat' first|(with_reducible first|exact D0.pure' _|exact D0.pure _|exact D0.halt _|assumption|exact D4 _|exact F8 _|exact H0 _|exact F5 _|exact F9 _|exact I2 _|exact E7 _ _|exact D9 _ _ _|exact D8 _ _|exact D5 _ _ _|exact I4 _ _|exact H7 _ _|exact G0 _|exact G7 _ _ _|exact E4 _|exact E2 _ _ _ _|exact E9 _|exact I5 _|exact G1 _|exact I6 _|exact F2 _|exact G5 _|exact G2 _|exact G8 _|exact E1 _|exact G6 _ _|exact F1 _ _ _|exact F3 _|exact I0 _ _ _|exact F4 _|exact ih _ _|refine GT (λ_ _=>?_) _ _|refine GU (λ_ _=>?_) _ _|refine D6 ?_|refine D0.bind ?_ (λ_=>?_))|((with_reducible refine E8 _ ?_)<;>rfl)|(dsimp only)|split
theorem IG(t:TypeId)(k:Value):∀(es:List MapEntry)(i:Nat),D0 P X (Instr.findAsking t k es i)
 | [],_=>D0.pure' _
 | e::es,i=>by
  unfold Instr.findAsking;refine D0.bind (I0 _ _ _) (λb=>?_);split
  ·exact D0.pure' _
  ·exact IG t k es (i+1)
theorem IH(t:TypeId)(k:Value)(es:List MapEntry):D0 P X (Instr.findKey t k es):=by
 unfold Instr.findKey;refine D0.bind (H0 t) (λu=>?_);split
 ·exact D0.pure' _
 ·exact IG _ _ _ _
theorem WN(t:TypeId)(x i:Value)(ok:Bool):D0 P X (Instr.lookup t x i ok):=by
 unfold Instr.lookup;repeat' first|(with_reducible first|exact D0.pure' _|exact D0.pure _|exact D0.halt _|assumption|exact D4 _|exact F8 _|exact H0 _|exact F5 _|exact F9 _|exact I2 _|exact E7 _ _|exact D9 _ _ _|exact D8 _ _|exact D5 _ _ _|exact I4 _ _|exact H7 _ _|exact G0 _|exact G7 _ _ _|exact E4 _|exact E2 _ _ _ _|exact E9 _|exact I5 _|exact G1 _|exact I6 _|exact F2 _|exact G5 _|exact G2 _|exact G8 _|exact E1 _|exact G6 _ _|exact F1 _ _ _|exact F3 _|exact I0 _ _ _|exact F4 _|exact EY _ _ _ _|exact IH _ _ _|refine D6 ?_|refine D0.bind ?_ (λ_=>?_))|((with_reducible refine E8 _ ?_)<;>rfl)|(dsimp only)|split
theorem GC(a b:Value):D0 P X (Instr.keyThatStays a b):=by
 unfold Instr.keyThatStays;repeat' first|(with_reducible first|exact D0.pure' _|exact D0.pure _|exact D0.halt _|assumption|exact D4 _|exact F8 _|exact H0 _|exact F5 _|exact F9 _|exact I2 _|exact E7 _ _|exact D9 _ _ _|exact D8 _ _|exact D5 _ _ _|exact I4 _ _|exact H7 _ _|exact G0 _|exact G7 _ _ _|exact E4 _|exact E2 _ _ _ _|exact E9 _|exact I5 _|exact G1 _|exact I6 _|exact F2 _|exact G5 _|exact G2 _|exact G8 _|exact E1 _|exact G6 _ _|exact F1 _ _ _|exact F3 _|exact I0 _ _ _|exact F4 _|refine D6 ?_|refine D0.bind ?_ (λ_=>?_))|((with_reducible refine E8 _ ?_)<;>rfl)|(dsimp only)|split
theorem QH(t:TypeId)(m k v:Value):D0 P X (Instr.mapUpdate t m k v):=by
 unfold Instr.mapUpdate;repeat' first|(with_reducible first|exact D0.pure' _|exact D0.pure _|exact D0.halt _|assumption|exact D4 _|exact F8 _|exact H0 _|exact F5 _|exact F9 _|exact I2 _|exact E7 _ _|exact D9 _ _ _|exact D8 _ _|exact D5 _ _ _|exact I4 _ _|exact H7 _ _|exact G0 _|exact G7 _ _ _|exact E4 _|exact E2 _ _ _ _|exact E9 _|exact I5 _|exact G1 _|exact I6 _|exact F2 _|exact G5 _|exact G2 _|exact G8 _|exact E1 _|exact G6 _ _|exact F1 _ _ _|exact F3 _|exact I0 _ _ _|exact F4 _|exact EY _ _ _ _|exact IH _ _ _|exact GC _ _|refine D6 ?_|refine D0.bind ?_ (λ_=>?_))|exact KM _ (by simp)|((with_reducible refine E8 _ ?_)<;>rfl)|(dsimp only)|split
theorem KP(op:BinOp)(k:IntKind)(x y:Int):D0 P X (Op.intArith op k x y):=by
 unfold Op.intArith;split<;>first|exact D0.pure' _|exact D0.halt _
theorem WO(op:BinOp)(k:IntKind)(x y:Int):D0 P X (Op.intDiv op k x y):=by
 unfold Op.intDiv;split
 ·exact E4 _
 ·split<;>first|exact D0.pure' _|exact D0.halt _
theorem MR(op:BinOp)(k:IntKind)(x y:Int):D0 P X (Op.intBits op k x y):=by
 unfold Op.intBits;dsimp only
 split<;>first|exact D0.pure' _|exact D0.halt _
theorem Zh(op:BinOp)(k:IntKind)(x:Int)(yk:IntKind)(y:Int):D0 P X (Op.shift op k x yk y):=by
 unfold Op.shift;split
 ·exact E4 _
 ·dsimp only
  split<;>first|exact D0.pure' _|exact D0.halt _
theorem WP(op:BinOp)(x y:Int):D0 P X (Op.intCmp op x y):=by
 unfold Op.intCmp;split<;>first|exact D0.pure' _|exact D0.halt _
theorem SO(op:BinOp)(x y:ByteArray):D0 P X (Op.stringOp op x y):=by
 unfold Op.stringOp;dsimp only
 split<;>(try split)<;>first|exact D0.pure' _|exact D0.halt _
theorem II(op:BinOp)(k:FloatKind)(x y:Nat):D0 P X (Op.floatArith op k x y):=by
 unfold Op.floatArith;repeat' first|(with_reducible first|exact D0.pure' _|exact D0.pure _|exact D0.halt _|assumption|exact D4 _|exact F8 _|exact H0 _|exact F5 _|exact F9 _|exact I2 _|exact E7 _ _|exact D9 _ _ _|exact D8 _ _|exact D5 _ _ _|exact I4 _ _|exact H7 _ _|exact G0 _|exact G7 _ _ _|exact E4 _|exact E2 _ _ _ _|exact E9 _|exact I5 _|exact G1 _|exact I6 _|exact F2 _|exact G5 _|exact G2 _|exact G8 _|exact E1 _|exact G6 _ _|exact F1 _ _ _|exact F3 _|exact I0 _ _ _|exact F4 _|refine D6 ?_|refine D0.bind ?_ (λ_=>?_))|((with_reducible refine E8 _ ?_)<;>rfl)|(dsimp only)|split
theorem KQ(op:BinOp)(k:FloatKind)(x y:Nat):D0 P X (Op.floatCmp op k x y):=by
 unfold Op.floatCmp;dsimp only
 split<;>first|exact D0.pure' _|exact D0.halt _
theorem Zi(op:UnOp)(x:Value):D0 P X (Op.unary op x):=by
 unfold Op.unary;split<;>first|exact KP _ _ _ _|exact MR _ _ _ _|exact D0.pure' _|exact D0.halt _
theorem H6(u:Unsupported)(f:α->Sem β)(h:Du (.unsupported u)=false):D0 P X (unsupported u >>= f):=D0.halt _ h
theorem UF(u:Unsupported)(h:free (.unsupported u)=true:=by rfl):OS P (unsupported u:Sem α):=λw es=>⟨_,w,es,rfl,h⟩
theorem AdL(p:Program)(d:Nat)(e:TypeId)(m off:Nat)(n:Int):cellAtBytes p d e (0 / m) off n=none:=by
 unfold cellAtBytes;simp only[Nat.zero_div,Nat.zero_mul];split
 ·rfl
 ·cases byteOfCell p d e (off % p.cellsOf e) with
  | none=>rfl
  | some here =>
   simp only[Option.bind_eq_bind,Option.bind_some];split
   ·rfl
   ·rename_i h;exfalso
    apply h
    simp only[Bool.or_eq_true,decide_eq_true_eq];have h0:Int.ofNat 0=0:=rfl;rw[h0];omega
theorem JV(t:TypeId)(x y:Value):D0 P X (Builtin.unsafeAdd_ #[] t #[x,y]):=by
 cases x with
 | pointer ptr =>
  unfold Builtin.unsafeAdd_;dsimp only
  have hm:∀n:Int,D0 P X (match ptr with
     | some a=>do
      let __x ← shape a.block
      match __x with
       | some (e,cells)=>do
        let p ← program
        match cellAtBytes p p.depth e (cells / p.cellsOf e) a.off n with
         | some off=>pure (Value.pointer (some {block:=a.block,off:=off,spot:=a.spot}))
         | none=>unsupported (Unsupported.unsafePointer "Add")
       | _=>unsupported (Unsupported.unsafePointer "Add")
     | _=>unsupported (Unsupported.unsafePointer "Add")):=λn=>by
   split
   ·refine Fo (λt k=>.inr ?_) (λo=>?_)
    ·show OS P (program >>= λp=>_)
     intro w es;show ∃h u eu,(Sem.runT P (match cellAtBytes P P.depth t (0 / P.cellsOf t) _ n with|some off=>_|none=>_) w es)=_/\_
     rw[AdL];exact UF _ rfl w es
    ·repeat' first|(with_reducible first|exact D0.pure' _|exact D0.pure _|exact D0.halt _|assumption|exact D4 _|exact F8 _|exact H0 _|exact F5 _|exact F9 _|exact I2 _|exact E7 _ _|exact D9 _ _ _|exact D8 _ _|exact D5 _ _ _|exact I4 _ _|exact H7 _ _|exact G0 _|exact G7 _ _ _|exact E4 _|exact E2 _ _ _ _|exact E9 _|exact I5 _|exact G1 _|exact I6 _|exact F2 _|exact G5 _|exact G2 _|exact G8 _|exact E1 _|exact G6 _ _|exact F1 _ _ _|exact F3 _|exact I0 _ _ _|exact F4 _|refine D6 ?_|refine D0.bind ?_ (λ_=>?_))|((with_reducible refine E8 _ ?_)<;>rfl)|((with_reducible refine H6 _ _ ?_)<;>rfl)|(dsimp only)|split
   ·exact D0.halt _
  refine D0.bind (I5 _) (λn=>?_);split
  ·cases ptr with
   | none=>exact H6 _ _ rfl
   | some a =>
    refine D0.bind (OT _) (λ_=>?_);split
    ·exact H6 _ _ rfl
    ·exact D0.pure' _
  ·split
   ·exact D0.bind (D0.halt _) (λ_=>hm n)
   ·exact hm n
 | _=>exact D0.halt _
theorem SP(a:Addr)(l:Bool):D0 P X (asNumber a l):=D0.bind (D0.new (by simp) (λ_=>D0.pure _)) (λ_=>D0.pure' _)
theorem NQ(t:TypeId)(x y:Value):D0 P X (movedNumber t x y):=by
 unfold movedNumber;repeat' first|(with_reducible first|exact D0.pure' _|exact D0.pure _|exact D0.halt _|assumption|exact D4 _|exact F8 _|exact H0 _|exact F5 _|exact F9 _|exact I2 _|exact E7 _ _|exact D9 _ _ _|exact D8 _ _|exact D5 _ _ _|exact I4 _ _|exact H7 _ _|exact G0 _|exact G7 _ _ _|exact E4 _|exact E2 _ _ _ _|exact E9 _|exact I5 _|exact G1 _|exact I6 _|exact F2 _|exact G5 _|exact G2 _|exact G8 _|exact E1 _|exact G6 _ _|exact F1 _ _ _|exact F3 _|exact I0 _ _ _|exact F4 _|exact JV _ _ _|exact Kk _|exact SP _ _|refine D6 ?_|refine D0.bind ?_ (λ_=>?_))|((with_reducible refine E8 _ ?_)<;>rfl)|((with_reducible refine H6 _ _ ?_)<;>rfl)|(dsimp only)|split
theorem LV(t:TypeId)(x y:Value):D0 P X (movedPointer t x y):=by
 unfold movedPointer;repeat' first|(with_reducible first|exact D0.pure' _|exact D0.pure _|exact D0.halt _|assumption|exact D4 _|exact F8 _|exact H0 _|exact F5 _|exact F9 _|exact I2 _|exact E7 _ _|exact D9 _ _ _|exact D8 _ _|exact D5 _ _ _|exact I4 _ _|exact H7 _ _|exact G0 _|exact G7 _ _ _|exact E4 _|exact E2 _ _ _ _|exact E9 _|exact I5 _|exact G1 _|exact I6 _|exact F2 _|exact G5 _|exact G2 _|exact G8 _|exact E1 _|exact G6 _ _|exact F1 _ _ _|exact F3 _|exact I0 _ _ _|exact F4 _|exact JV _ _ _|exact KN _|refine D6 ?_|refine D0.bind ?_ (λ_=>?_))|((with_reducible refine E8 _ ?_)<;>rfl)|((with_reducible refine H6 _ _ ?_)<;>rfl)|(dsimp only)|split
theorem JW(a b:Addr):D0 P X (Op.twoPlaces a b):=by
 unfold Op.twoPlaces;repeat' first|(with_reducible first|exact D0.pure' _|exact D0.pure _|exact D0.halt _|assumption|exact D4 _|exact F8 _|exact H0 _|exact F5 _|exact F9 _|exact I2 _|exact E7 _ _|exact D9 _ _ _|exact D8 _ _|exact D5 _ _ _|exact I4 _ _|exact H7 _ _|exact G0 _|exact G7 _ _ _|exact E4 _|exact E2 _ _ _ _|exact E9 _|exact I5 _|exact G1 _|exact I6 _|exact F2 _|exact G5 _|exact G2 _|exact G8 _|exact E1 _|exact G6 _ _|exact F1 _ _ _|exact F3 _|exact I0 _ _ _|exact F4 _|exact FC _|refine D6 ?_|refine D0.bind ?_ (λ_=>?_))|((with_reducible refine E8 _ ?_)<;>rfl)|((with_reducible refine H6 _ _ ?_)<;>rfl)|(dsimp only)|split
theorem UG(k:IntKind)(a b:Addr):D0 P X (Op.addrSub k a b):=D0.bind (JW a b) (λ_=>D0.pure' _)
theorem UH(op:BinOp)(a b:Addr):D0 P X (Op.addrCmp op a b):=by
 unfold Op.addrCmp;repeat' first|(with_reducible first|exact D0.pure' _|exact D0.pure _|exact D0.halt _|assumption|exact D4 _|exact F8 _|exact H0 _|exact F5 _|exact F9 _|exact I2 _|exact E7 _ _|exact D9 _ _ _|exact D8 _ _|exact D5 _ _ _|exact I4 _ _|exact H7 _ _|exact G0 _|exact G7 _ _ _|exact E4 _|exact E2 _ _ _ _|exact E9 _|exact I5 _|exact G1 _|exact I6 _|exact F2 _|exact G5 _|exact G2 _|exact G8 _|exact E1 _|exact G6 _ _|exact F1 _ _ _|exact F3 _|exact I0 _ _ _|exact F4 _|exact JW _ _|refine D6 ?_|refine D0.bind ?_ (λ_=>?_))|((with_reducible refine E8 _ ?_)<;>rfl)|((with_reducible refine H6 _ _ ?_)<;>rfl)|(dsimp only)|split
theorem UI(k:IntKind)(a:Addr)(n:Int):D0 P X (Op.addrMod k a n):=by
 unfold Op.addrMod;refine Fo (λt k=>.inl rfl) (λo=>?_);repeat' first|(with_reducible first|exact D0.pure' _|exact D0.pure _|exact D0.halt _|assumption|exact D4 _|exact F8 _|exact H0 _|exact F5 _|exact F9 _|exact I2 _|exact E7 _ _|exact D9 _ _ _|exact D8 _ _|exact D5 _ _ _|exact I4 _ _|exact H7 _ _|exact G0 _|exact G7 _ _ _|exact E4 _|exact E2 _ _ _ _|exact E9 _|exact I5 _|exact G1 _|exact I6 _|exact F2 _|exact G5 _|exact G2 _|exact G8 _|exact E1 _|exact G6 _ _|exact F1 _ _ _|exact F3 _|exact I0 _ _ _|exact F4 _|exact FC _|refine D6 ?_|refine D0.bind ?_ (λ_=>?_))|((with_reducible refine E8 _ ?_)<;>rfl)|((with_reducible refine H6 _ _ ?_)<;>rfl)|(dsimp only)|split
theorem LW(s:FloatKind)(b:Nat)(d:FloatKind):D0 P X (Conv.floatToFloat s b d):=by
 unfold Conv.floatToFloat;repeat' first|(with_reducible first|exact D0.pure' _|exact D0.pure _|exact D0.halt _|assumption|exact D4 _|exact F8 _|exact H0 _|exact F5 _|exact F9 _|exact I2 _|exact E7 _ _|exact D9 _ _ _|exact D8 _ _|exact D5 _ _ _|exact I4 _ _|exact H7 _ _|exact G0 _|exact G7 _ _ _|exact E4 _|exact E2 _ _ _ _|exact E9 _|exact I5 _|exact G1 _|exact I6 _|exact F2 _|exact G5 _|exact G2 _|exact G8 _|exact E1 _|exact G6 _ _|exact F1 _ _ _|exact F3 _|exact I0 _ _ _|exact F4 _|refine D6 ?_|refine D0.bind ?_ (λ_=>?_))|((with_reducible refine E8 _ ?_)<;>rfl)|((with_reducible refine H6 _ _ ?_)<;>rfl)|(dsimp only)|split
theorem FD(op:BinOp)(k:FloatKind)(x y:Nat):D0 P X (Op.Complex.arith op k x y):=by
 unfold Op.Complex.arith;repeat' first|(with_reducible first|exact D0.pure' _|exact D0.pure _|exact D0.halt _|assumption|exact D4 _|exact F8 _|exact H0 _|exact F5 _|exact F9 _|exact I2 _|exact E7 _ _|exact D9 _ _ _|exact D8 _ _|exact D5 _ _ _|exact I4 _ _|exact H7 _ _|exact G0 _|exact G7 _ _ _|exact E4 _|exact E2 _ _ _ _|exact E9 _|exact I5 _|exact G1 _|exact I6 _|exact F2 _|exact G5 _|exact G2 _|exact G8 _|exact E1 _|exact G6 _ _|exact F1 _ _ _|exact F3 _|exact I0 _ _ _|exact F4 _|exact II _ _ _ _|refine D6 ?_|refine D0.bind ?_ (λ_=>?_))|((with_reducible refine E8 _ ?_)<;>rfl)|((with_reducible refine H6 _ _ ?_)<;>rfl)|(dsimp only)|split
theorem UJ(op:BinOp)(k:FloatKind)(x y:Nat):D0 P X (Op.Complex.cmp op k x y):=D0.bind (KQ _ _ _ _) (λ_=>G1 _)
theorem Zj(a:FloatKind)(x:Nat)(b:FloatKind):D0 P X (Op.Complex.conv a x b):=by
 unfold Op.Complex.conv;repeat' first|(with_reducible first|exact D0.pure' _|exact D0.pure _|exact D0.halt _|assumption|exact D4 _|exact F8 _|exact H0 _|exact F5 _|exact F9 _|exact I2 _|exact E7 _ _|exact D9 _ _ _|exact D8 _ _|exact D5 _ _ _|exact I4 _ _|exact H7 _ _|exact G0 _|exact G7 _ _ _|exact E4 _|exact E2 _ _ _ _|exact E9 _|exact I5 _|exact G1 _|exact I6 _|exact F2 _|exact G5 _|exact G2 _|exact G8 _|exact E1 _|exact G6 _ _|exact F1 _ _ _|exact F3 _|exact I0 _ _ _|exact F4 _|exact LW _ _ _|refine D6 ?_|refine D0.bind ?_ (λ_=>?_))|((with_reducible refine E8 _ ?_)<;>rfl)|((with_reducible refine H6 _ _ ?_)<;>rfl)|(dsimp only)|split
theorem QI(op:BinOp)(k:FloatKind)(a b c d:Nat):D0 P X (Op.complexOp op k a b c d):=by
 have h1:∀x y,D0 P X (Op.Complex.add x y):=λ_ _=>FD _ _ _ _;have h2:∀x y,D0 P X (Op.Complex.sub x y):=λ_ _=>FD _ _ _ _;have h3:∀x y,D0 P X (Op.Complex.mul x y):=λ_ _=>FD _ _ _ _;have h4:∀x y,D0 P X (Op.Complex.quo x y):=λ_ _=>FD _ _ _ _
 have h5:∀a b c d,D0 P X (Op.Complex.product a b c d):=λa b c d=>by
  unfold Op.Complex.product;repeat' first|(with_reducible first|exact D0.pure' _|exact D0.pure _|exact D0.halt _|assumption|exact D4 _|exact F8 _|exact H0 _|exact F5 _|exact F9 _|exact I2 _|exact E7 _ _|exact D9 _ _ _|exact D8 _ _|exact D5 _ _ _|exact I4 _ _|exact H7 _ _|exact G0 _|exact G7 _ _ _|exact E4 _|exact E2 _ _ _ _|exact E9 _|exact I5 _|exact G1 _|exact I6 _|exact F2 _|exact G5 _|exact G2 _|exact G8 _|exact E1 _|exact G6 _ _|exact F1 _ _ _|exact F3 _|exact I0 _ _ _|exact F4 _|exact h1 _ _|exact h2 _ _|exact h3 _ _|refine D6 ?_|refine D0.bind ?_ (λ_=>?_))|((with_reducible refine E8 _ ?_)<;>rfl)|((with_reducible refine H6 _ _ ?_)<;>rfl)|(dsimp only)|split
 have h6:∀s a b c d,D0 P X (Op.Complex.corrected s a b c d):=λs a b c d=>by
  unfold Op.Complex.corrected;repeat' first|(with_reducible first|exact D0.pure' _|exact D0.pure _|exact D0.halt _|assumption|exact D4 _|exact F8 _|exact H0 _|exact F5 _|exact F9 _|exact I2 _|exact E7 _ _|exact D9 _ _ _|exact D8 _ _|exact D5 _ _ _|exact I4 _ _|exact H7 _ _|exact G0 _|exact G7 _ _ _|exact E4 _|exact E2 _ _ _ _|exact E9 _|exact I5 _|exact G1 _|exact I6 _|exact F2 _|exact G5 _|exact G2 _|exact G8 _|exact E1 _|exact G6 _ _|exact F1 _ _ _|exact F3 _|exact I0 _ _ _|exact F4 _|exact h1 _ _|exact h2 _ _|exact h3 _ _|refine D6 ?_|refine D0.bind ?_ (λ_=>?_))|((with_reducible refine E8 _ ?_)<;>rfl)|((with_reducible refine H6 _ _ ?_)<;>rfl)|(dsimp only)|split
 have h7:∀a b c d,D0 P X (Op.Complex.quotient a b c d):=λa b c d=>by
  unfold Op.Complex.quotient;repeat' first|(with_reducible first|exact D0.pure' _|exact D0.pure _|exact D0.halt _|assumption|exact D4 _|exact F8 _|exact H0 _|exact F5 _|exact F9 _|exact I2 _|exact E7 _ _|exact D9 _ _ _|exact D8 _ _|exact D5 _ _ _|exact I4 _ _|exact H7 _ _|exact G0 _|exact G7 _ _ _|exact E4 _|exact E2 _ _ _ _|exact E9 _|exact I5 _|exact G1 _|exact I6 _|exact F2 _|exact G5 _|exact G2 _|exact G8 _|exact E1 _|exact G6 _ _|exact F1 _ _ _|exact F3 _|exact I0 _ _ _|exact F4 _|exact h1 _ _|exact h2 _ _|exact h3 _ _|exact h4 _ _|exact UJ _ _ _ _|exact h6 _ _ _ _ _|refine D6 ?_|refine D0.bind ?_ (λ_=>?_))|((with_reducible refine E8 _ ?_)<;>rfl)|((with_reducible refine H6 _ _ ?_)<;>rfl)|(dsimp only)|split
 unfold Op.complexOp;repeat' first|(with_reducible first|exact D0.pure' _|exact D0.pure _|exact D0.halt _|assumption|exact D4 _|exact F8 _|exact H0 _|exact F5 _|exact F9 _|exact I2 _|exact E7 _ _|exact D9 _ _ _|exact D8 _ _|exact D5 _ _ _|exact I4 _ _|exact H7 _ _|exact G0 _|exact G7 _ _ _|exact E4 _|exact E2 _ _ _ _|exact E9 _|exact I5 _|exact G1 _|exact I6 _|exact F2 _|exact G5 _|exact G2 _|exact G8 _|exact E1 _|exact G6 _ _|exact F1 _ _ _|exact F3 _|exact I0 _ _ _|exact F4 _|exact FD _ _ _ _|exact Zj _ _ _|exact UJ _ _ _ _|exact h5 _ _ _ _|exact h7 _ _ _ _|refine D6 ?_|refine D0.bind ?_ (λ_=>?_))|((with_reducible refine E8 _ ?_)<;>rfl)|((with_reducible refine H6 _ _ ?_)<;>rfl)|(dsimp only)|split
theorem Zk(op:BinOp)(t:TypeId)(x y:Value):D0 P X (binOp op t x y):=by
 unfold binOp;split<;>repeat' first|(with_reducible first|exact D0.pure' _|exact D0.pure _|exact D0.halt _|assumption|exact D4 _|exact F8 _|exact H0 _|exact F5 _|exact F9 _|exact I2 _|exact E7 _ _|exact D9 _ _ _|exact D8 _ _|exact D5 _ _ _|exact I4 _ _|exact H7 _ _|exact G0 _|exact G7 _ _ _|exact E4 _|exact E2 _ _ _ _|exact E9 _|exact I5 _|exact G1 _|exact I6 _|exact F2 _|exact G5 _|exact G2 _|exact G8 _|exact E1 _|exact G6 _ _|exact F1 _ _ _|exact F3 _|exact I0 _ _ _|exact F4 _|exact Zh _ _ _ _ _|exact KP _ _ _ _|exact WO _ _ _ _|exact MR _ _ _ _|exact WP _ _ _|exact II _ _ _ _|exact KQ _ _ _ _|exact QI _ _ _ _ _ _|exact SO _ _ _|exact LV _ _ _|exact NQ _ _ _|exact UG _ _ _|exact UH _ _ _|exact UI _ _ _|exact Kk _|refine D6 ?_|refine D0.bind ?_ (λ_=>?_))|((with_reducible refine E8 _ ?_)<;>rfl)|((with_reducible refine H6 _ _ ?_)<;>rfl)|(dsimp only)|split
theorem MS(a:Addr)(n:Nat)(w:World)(es:Array Event):∃b,(Builtin.holdsCells a n).runT P w es=(.ok b w,es):=by
 unfold Builtin.holdsCells;show ∃b,((shape a.block).bind _).runT P w es=_
 rw[Sem.runT_bind'];have e2:∀r,(shape r).runT P w es=(.ok (w.shape? r) w,es):=λ_=>rfl;rw[e2];cases w.shape? a.block with
 | none=>exact⟨_,rfl⟩
 | some o=>exact⟨_,rfl⟩
theorem OV(s l n:Nat)(base:Option Addr)(x:Value)(w:World)(es:Array Event):∃b,(Builtin.mayShare s l n base x).runT P w es=(.ok b w,es):=by
 have e2:∀a,(frozen a).runT P w es=(.ok (w.frozen? a) w,es):=λ_=>rfl
 have hx:∀there:Bool,∃b,((if (!there)=true then Pure.pure true else match x with
   | .slice (some b) _ _=>do pure (!(← Builtin.holdsCells b (n*s)) || base.any (·.block==b.block))
   | _=>pure false:Sem Bool)).runT P w es=(.ok b w,es):=λthere=>by
  split
  ·exact⟨_,rfl⟩
  ·split
   ·rename_i q _ _;obtain⟨b,hb⟩:=MS (P:=P) q (n*s) w es;refine⟨(!b || base.any (·.block==q.block)),?_⟩;show ((Builtin.holdsCells _ _).bind _).runT P w es=_
    rw[Sem.runT_bind',hb];rfl
   ·exact⟨_,rfl⟩
 unfold Builtin.mayShare;dsimp only
 cases base with
 | none=>exact hx true
 | some a =>
  obtain⟨b,hb⟩:=MS (P:=P) a (l*s) w es;show ∃b,((Builtin.holdsCells _ _).bind _).runT P w es=_
  rw[Sem.runT_bind',hb];show ∃b,((frozen _).bind _).runT P w es=_
  rw[Sem.runT_bind',e2];exact hx _
theorem OW(s l n:Nat)(base:Option Addr)(x:Value)(u:Unsupported)(hu:free (.unsupported u)=true):D0 P X (Builtin.mayShare s l n base x >>= λb=>if (!b)=true then (mark .noRoom >>= λ_=>(unsupported u:Sem α)) else unsupported u):=by
 have hi:OS P (Builtin.mayShare s l n base x >>= λb=>if (!b)=true then (mark .noRoom >>= λ_=>(unsupported u:Sem α)) else unsupported u):=λw es=>by
  obtain⟨b,hb⟩:=OV (P:=P) s l n base x w es;show ∃h v ev,((Builtin.mayShare s l n base x).bind _).runT P w es=_/\_
  rw[Sem.runT_bind',hb];cases b
  ·exact⟨_,w,_,rfl,hu⟩
  ·exact⟨_,w,_,rfl,hu⟩
 exact λn w u es _=>hi.alike _ _ _ _ _ _
theorem Ac1{c:Prop}[Decidable c]{a b:Sem α}(ha:D0 P X a)(hb:D0 P X b):D0 P X (if c then a else b):=by
 split<;>assumption
theorem WR(a:Array TypeId)(t:TypeId)(v:Array Value):D0 P X (Builtin.append_ a t v):=by
 unfold Builtin.append_;repeat' first|((with_reducible refine OW _ _ _ _ _ _ ?_)<;>rfl)|((with_reducible refine H6 _ _ ?_)<;>rfl)|(with_reducible first|exact D0.pure' _|exact D0.pure _|exact D0.halt _|assumption|exact D4 _|exact F8 _|exact H0 _|exact F5 _|exact F9 _|exact I2 _|exact E7 _ _|exact D9 _ _ _|exact D8 _ _|exact D5 _ _ _|exact I4 _ _|exact H7 _ _|exact G0 _|exact G7 _ _ _|exact E4 _|exact E2 _ _ _ _|exact E9 _|exact I5 _|exact G1 _|exact I6 _|exact F2 _|exact G5 _|exact G2 _|exact G8 _|exact E1 _|exact G6 _ _|exact F1 _ _ _|exact F3 _|exact I0 _ _ _|exact F4 _|exact Rs _|exact ID _ _ _|refine Ac1 ?_ ?_|refine D6 ?_|refine D0.bind ?_ (λ_=>?_))|((with_reducible refine E8 _ ?_)<;>rfl)|((with_reducible refine H6 _ _ ?_)<;>rfl)|((with_reducible refine OW _ _ _ _ _ _ ?_)<;>rfl)|(dsimp only)|split
end
end Go.Proofs.YtmfjakieahkacaaGreatDoor
