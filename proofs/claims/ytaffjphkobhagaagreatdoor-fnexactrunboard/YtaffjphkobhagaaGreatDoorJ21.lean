/- Runs carried over, 20: pieces of a function's text, by what is shown of them alone. -/
import Derived.Test.YtaffjphkobhagaaGreatDoorJ14
import Derived.Conc.CrowdRun
import Derived.Conc.WgGenN3
import Derived.Conc.CompanyDraw
import Derived.Test.YtaffjphkobhagaaGreatDoorJ8
import Derived.Test.YtaffjphkobhagaaGreatDoorGb7
import Derived.Test.YtaffjphkobhagaaGreatDoorJ18
namespace Go.Proofs.YtaffjphkobhagaaGreatDoor
open Proofs.Tryz
variable{k':Addr}{listed:Array Bool}{atomic held wr:Bool}{g:Goroutine}{Stop Stop':Goroutine->World->Prop}{bs:List Ba}{g' gone ss ss':List BA}{ps:List Ph}{m m':Machine}{B0 C N f first fuel id:Nat}{sp:Nat->Bool}{X':Nat->Prop}{o':Obj}{hi hi' lo lo' mx mx':Option Value}{p:Program}{t':Trace}{e t1 t2:TypeId}{like:Value}{W w':World}{I Q:World->Prop}{R R':World->World->Prop}
section
open Go.Conc
def MM:List Code->Code->Code
 | [],B=>B
 | r::l,B=>.seq r (MM l B)
def GU(P:Program):List Code->(Exit->Act->World->Prop)->Act->World->Prop
 | [],Q=>Q .normal
 | r::l,Q=>r.wp P (Exit.then (GU P l Q) Q)
section
variable {P:Program} {X:Nat->Prop} {s:FZs}
theorem Run.bind{w:World}(h:Run P X Stop g w)(hk:∀g w,Stop g w->Run P X Stop' g w):Run P X Stop' g w:=by
 induction h with
 | stop h=>exact hk _ _ (h _)
 | step hr g' w' es hs hf _ ih=>exact .step hr g' w' es hs hf ih
theorem Run.mono{w:World}(h:Run P X Stop g w)(hk:∀g w,Stop g w->Stop' g w):Run P X Stop' g w:=by
 induction h with
 | stop h=>exact .stop λd=>hk _ _ (h d)
 | step hr g' w' es hs hf _ ih=>exact .step hr g' w' es hs hf ih
theorem Run.one{g':Goroutine}{w:World}(hr:g.status=.running)(hs:∀x,stepG P true g x=.go g' x #[])(h:Run P X Stop g' w):Run P X Stop g w :=
 .step hr (λ_=>g') (λd=>w.at d) (λ_=>#[]) (λd=>hs (w.at d)) (λ_ _ he=>by simp at he) (λd=>h.at d)
def Ef(Q:World->Prop)(u:World):Prop:=∃u0,Q u0/\M4 (λ_=>False) u0 u
theorem Ef.full{u v:World}(h:Ef Q u)(hf:M4 (λ_=>False) u v):Ef Q v:=let ⟨u0,h1,h2⟩:=h;⟨u0,h1,h2.trans hf⟩
theorem AdC{w:World}(hb:Aq X w)(τ:Nat->Question->Nat)(d:Nat):M4 (λ_=>False) (F7 X w τ d) (F7 X w τ d):=by
 have hs:J0 X 0 w (F7 X w τ d):=FM hb (λi q hi=>oM);exact λn=>⟨rfl,λ_ h=>h.elim,λ_ _=>rfl,λ_ h=>h.elim,hs.pendU,rfl,rfl,λ_ _ _=>rfl⟩
theorem La{w:World}(hb:Aq X w)(h:∀τ d,Q (F7 X w τ d))(τ:Nat->Question->Nat)(d:Nat):Ef Q (F7 X w τ d):=⟨_,h τ d,AdC hb τ d⟩
structure FrB (P:Program) (b:Frame):Prop where
 kind:b.kind=.normal
 fn:∃fn,P.funcs[b.fn]?=some fn
theorem FrB.ok[NL s]{b:Frame}(h:FrB P b){a:Act}(hd:a.defers=[]){l:List Item}(hl:∀i∈l,O8 P s [] i):M8 P s (b.at a l):=⟨λi hi=>by rw[NL.out];exact hl i hi,hd,h.kind,rfl,h.fn,λx hx=>by rw[NL.out] at hx;cases hx⟩
def MN(X:Nat->Prop)(b:Frame)(k:List Item)(bw:List Frame)(Q:Act->World->Prop)(g:Goroutine)(w:World):Prop :=
 ∃a,g=G (b.at a k) bw/\a.defers=[]/\Aq X w/\∀τ d,Ef (Q a) (F7 X w τ d)
theorem Kk[UX s X][NL s](S:I6 P s){r:Code}(hr:M7 P s [] r=true){b:Frame}(hb:FrB P b){a:Act}(hd:a.defers=[]){w:World}(hw:Aq X w){Q:Act->World->Prop}
  (h:∀τ d,Ef (λu=>r.wp P (λe a' u'=>e=.normal/\Q a' u') a u) (F7 X w τ d)) (k:List Item) (bw:List Frame) :
  Run P X (MN X b k bw Q) (G (b.at a (.code r::k)) bw) w:=by
 have a1:M8 P s (b.at a [.code r]):=hb.ok hd (by intro i hi;simp at hi;subst hi;exact hr)
 have a2:St P X s GT (λfe u=>∃a',fe=b.at a' []/\Ef (Q a') u) (b.at a [.code r]) [] w:=by
  refine⟨a1,dC,hw,λτ d=>?_⟩;obtain⟨u0,h1,h2⟩:=h τ d;obtain⟨e,a',u',⟨rfl,hq⟩,⟨N,hN⟩⟩:=h1 b [] [c0 P];obtain⟨ve,q1,q2⟩:=shift S N a1 (seg:=[]) dC h2 hN;exact⟨N,b.at a' [],ve,q1,⟨rfl,rfl⟩,a',rfl,_,hq,q2⟩
 refine (ML S (λfe u v hf ⟨a',h1,h3⟩=>⟨a',h1,h3.full hf⟩) k bw a2).mono λg w' ⟨fe,h1,h2,h3,h4,h5⟩=>?_;obtain⟨a',e,_⟩:=h5 (λ_ _=>0) 0;subst e;refine⟨a',h1,h2.defers,h3,λτ d=>?_⟩;obtain⟨a0,e,hq⟩:=h5 τ d;have e1:a'.tmps=a0.tmps:=congrArg Frame.tmps e;have e2:a'.defers=a0.defers:=congrArg Frame.defers e;obtain rfl:a'=a0:=by cases a';cases a0;simp_all
 exact hq
theorem Rp[NL s][UX s X](S:I6 P s){b:Frame}(hb:FrB P b){Q:Act->World->Prop}(B:Code)(k:List Item)(bw:List Frame):∀(l:List Code),(∀r∈l,M7 P s [] r=true)->∀{a:Act} {w:World},a.defers=[]->Aq X w->
  (∀τ d,Ef (GU P l (λe a' u'=>e=.normal/\Q a' u') a) (F7 X w τ d))->
  Run P X (MN X b (.code B::k) bw Q) (G (b.at a (.code (MM l B)::k)) bw) w
 | [],_,a,w,hd,hw,h=>.stop λd=>⟨a,rfl,hd,hw.at d,λτ d=>let ⟨u0,h1,h2⟩:=h τ d;⟨u0,h1.2,h2⟩⟩
 | r::l,hl,a,w,hd,hw,h=>by
  refine .one rfl (λx=>stepG_seq) ?_;refine (Kk S (hl r dC) hb hd hw (Q:=λa' u=>GU P l (λe a' u'=>e=.normal/\Q a' u') a' u) (λτ d=>?_) _ bw).bind λg w' ⟨a',h1,h2,h3,h4⟩=>?_
  .obtain⟨u0,h1,h2⟩:=h τ d
   exact⟨u0,wp_mono h1 (λe a' u' hq=>by
    cases e with
    | normal=>exact⟨rfl,hq⟩
    | _=>exact absurd hq.1 dC),h2⟩
  .subst h1;exact Rp S hb B k bw l (λr hr=>hl r (by simp[hr])) h2 h3 h4
end
end
section
open Go.Conc
open Go.ConcN (sumTo)
def D9(P:Program)(Post:Value->World->Prop)(m:Machine)(t:Trace):Prop :=
 ∃N last o w' t',runNT P (N+1) m t=(.ended o w',t')/\runN P N m=.next last/\step P last=.ended o w'/\Go.Conc.Good P Post last o w' t'
section
variable {P:Program} {X:Nat->Prop} {Shun:Loc->Prop} {Post:Value->World->Prop}
theorem D9.of_run{t:Trace}(h:runNT P N m t=(.next m',t'))(k:D9 P Post m' t'):D9 P Post m t:=by
 obtain⟨K,a0,o,w',a1,e1,e2,e3,e4⟩:=k;refine⟨N+K,a0,o,w',a1,?_,?_,e3,e4⟩
 .rw[Nat.add_assoc,runNT_add,h];exact e1
 .rw[runN_add,← runNT_fst P _ _ #[]];have:=runNT_fst P N m t;rw[h] at this;rw[runNT_fst,← this];exact e2
structure F0 (P:Program) (Shun:Loc->Prop) (gs:Array Goroutine) (a:Goroutine) (t:Trace):Prop where
 zero:gs[0]?=some a
 leave:∃q,Leavers P t gs q
 fr:∃B,Fr Shun B t
theorem ends_run(hX:∀l,Shun l->∃a,l=.cell a/\X a.block){gs:Array Goroutine}{a:Goroutine}{w:World}{sl:Option (Nat×Nat)}{t:Trace}(hh:F0 P Shun gs a t)(h:Run P X Stop a w)
  (k:∀gs' a' w' sl' t',F0 P Shun gs' a' t'->Stop a' w'->D9 P Post (crowd gs' w' sl') t'):D9 P Post (crowd gs w sl) t:=by
 obtain⟨q,hL⟩:=hh.leave;obtain⟨B,hF⟩:=hh.fr;obtain⟨N,gs',a',w',sl',t',q',B',hr,_,h0,hS,a0,a1,_⟩:=WB hX h _ gs w.drawn sl t q B (A3 _) hh.zero hL hF;exact D9.of_run hr (k gs' a' w' sl' t' ⟨h0,⟨q',a0⟩,⟨B',a1⟩⟩ hS)
theorem Zg{D:World->World->Array Event->Prop}(hD:∀w w' es,D w w' es->∀e∈es,EvL Shun B0 e):
  ∀(n M:Nat) {gs:Array Goroutine} {a:Goroutine} {w:World} {sl:Option (Nat×Nat)} {t:Trace} {q:Nat->Nat} {B:Nat},sumTo gs.size q<=M->gs[0]?=some a->Leavers P t gs q->Fr Shun B t->B0<=B->Goes P true AtRel D Stop n a w->
   (∀gs' a' w' sl' t',F0 P Shun gs' a' t'->Stop a' w'->D9 P Post (crowd gs' w' sl') t')->D9 P Post (crowd gs w sl) t:=by
 intro n;induction n with
 | zero=>exact λM gs a w sl t q B _ h0 hL hF _ hG k=>k gs a w sl t ⟨h0,⟨q,hL⟩,⟨B,hF⟩⟩ (hG w (atRel_refl w))
 | succ n ihn =>
  intro M;induction M with
  | zero =>
   intro gs a w sl t q B hM h0 hL hF hB hG k;rcases hG with hstop|⟨hrun,hstep⟩
   .exact k gs a w sl t ⟨h0,⟨q,hL⟩,⟨B,hF⟩⟩ (hstop w (atRel_refl w))
   obtain⟨d,sl',h1|⟨a0,t1,q1,_,_,_,_,_,a2⟩⟩:=Fe h0 hrun hL hF w sl
   .have hs:=hstep (w.at d) ⟨d,rfl⟩;cases hgo:stepG P true a (w.at d) with
    | go a' w' es =>
     rw[hgo,goes_go] at hs;obtain⟨a0,t1,r1,z1,a1,L1,P1⟩:=h1 _ _ _ B hgo (λe he=>by have:=hD _ _ _ hs.1 e he;exact⟨this.1,this.2.1,this.2.2.1,MemAct.low_mono hB this.2.2.2⟩) (A3 _);exact D9.of_run r1 (ihn _ (A3 _) a1 L1 P1 hB hs.2 k)
    | _=>rw[hgo] at hs;exact hs.elim
   .omega
  | succ M ihM =>
   intro gs a w sl t q B hM h0 hL hF hB hG k;rcases hG with hstop|⟨hrun,hstep⟩
   .exact k gs a w sl t ⟨h0,⟨q,hL⟩,⟨B,hF⟩⟩ (hstop w (atRel_refl w))
   obtain⟨d,sl',h1|⟨a0,t1,q1,r1,z1,a1,L1,P1,a2⟩⟩:=Fe h0 hrun hL hF w sl
   .have hs:=hstep (w.at d) ⟨d,rfl⟩;cases hgo:stepG P true a (w.at d) with
    | go a' w' es =>
     rw[hgo,goes_go] at hs;obtain⟨a0,t1,r1,z1,a1,L1,P1⟩:=h1 _ _ _ B hgo (λe he=>by have:=hD _ _ _ hs.1 e he;exact⟨this.1,this.2.1,this.2.2.1,MemAct.low_mono hB this.2.2.2⟩) (A3 _);exact D9.of_run r1 (ihn _ (A3 _) a1 L1 P1 hB hs.2 k)
    | _=>rw[hgo] at hs;exact hs.elim
   .exact D9.of_run r1 (ihM (by rw[z1];omega) a1 L1 P1 hB (Goes.rely atRel_trans (.inr ⟨hrun,hstep⟩) ⟨d,rfl⟩) k)
theorem OZ{D:World->World->Array Event->Prop}(hD:∀w w' es,D w w' es->∀e∈es,EvL Shun B0 e){n:Nat}{gs:Array Goroutine}{a:Goroutine}{w:World}{sl:Option (Nat×Nat)}{t:Trace}(hh:F0 P Shun gs a t)(hG:Goes P true AtRel D Stop n a w)
  (k:∀gs' a' w' sl' t',F0 P Shun gs' a' t'->Stop a' w'->D9 P Post (crowd gs' w' sl') t'):D9 P Post (crowd gs w sl) t:=by
 obtain⟨q,hL⟩:=hh.leave;obtain⟨B,hF⟩:=hh.fr;exact Zg hD n _ (A3 _) hh.zero hL (hF.mono (Nat.le_max_left B B0)) (Nat.le_max_right B B0) hG k
theorem Zh{gs:Array Goroutine}{a:Goroutine}{w:World}{sl:Option (Nat×Nat)}{t:Trace}(hh:F0 P Shun gs a t)(hr:a.status=.running){v:Value}(hs:∀x:World,stepG P true a x=.ended (.done v) x #[])(hp:∀d,Post v (w.at d)):D9 P Post (crowd gs w sl) t:=by
 obtain⟨q,hL⟩:=hh.leave;obtain⟨B,hF⟩:=hh.fr;exact beside_ends (P:=P) (sl:=sl) (D:=λ_ _ _=>False) (λ_ _ _ h=>h.elim) hh.zero hL hF.past (n:=0) (λw₁ ⟨d,hd⟩=>by subst hd;exact⟨hr,v,#[],hs _,dC,hp d⟩)
end
end
section
open Go.Conc
section
variable {P:Program} {X:Nat->Prop} {s:FZs}
def Back(X:Nat->Prop)(c:Frame)(cs:List Frame)(R:Value->World->Prop)(g:Goroutine)(w:World):Prop :=
 ∃v,g=G (c.finish v) cs/\Aq X w/\∀τ d,Ef (R v) (F7 X w τ d)
end
end
section
open Go.Conc Go.RowKit
section
variable {P:Program} {X:Nat->Prop}
theorem AdD{u v:World}(h:M4 (λ_=>False) u v):v={u with tape:=v.tape,drawn:=v.drawn}:=by
 have h1:=(h 0).eq_pz
 have h2:(pz (λ_=>False) u).heap=u.heap:=by
  apply Array.ext_getElem?
  intro b;rw[Iq];cases u.heap[b]? with
  | none=>rfl
  | some o=>simp[Ay]
 rw[h1];simp only[F7];rw[World.mk.injEq];exact⟨h2,rfl,rfl,rfl,rfl⟩
theorem Ct(W)(τ)(d):(F7 X W τ d).heap.size=W.heap.size:=by simp[F7,pz]
theorem AdE{τ:Nat->Question->Nat}{d:Nat}{a:Addr}{v:Value}(h:(F7 X W τ d).cell? a=some v):W.cell? a=some v/\¬X a.block:=by
 unfold World.cell? at h ⊢
 have e:(F7 X W τ d).heap[a.block]?=(W.heap[a.block]?).map (Ay X a.block):=Iq W a.block;rw[e] at h;by_cases hx:X a.block
 .cases ho:W.heap[a.block]? with
  | none=>rw[ho] at h;simp at h
  | some o=>rw[ho] at h;cases o<;>simp[Ay,hx] at h
 .refine⟨?_,hx⟩;cases ho:W.heap[a.block]? with
  | none=>rw[ho] at h;simp at h
  | some o=>rw[ho] at h;simpa [Ay,hx] using h
def X9(Q:World->Prop):Prop:=∀u τ d,Q u->Q {u with tape:=τ,drawn:=d}
theorem Jm{B:Nat}(hQ:X9 Q){τ:Nat->Question->Nat}{d:Nat}(h:Ef (λu=>∃τ d,Q u/\Below B (F7 X W τ d) u) (F7 X' w' τ d)):Q (F7 X' w' τ d)/\Below B (F7 X W τ d) (F7 X' w' τ d):=by
 obtain⟨u0,⟨τ0,d0,h1,h2⟩,h3⟩:=h;have e:=AdD h3;refine⟨by rw[e];exact hQ _ _ _ h1,?_⟩;have e1:(F7 X' w' τ d).heap=u0.heap:=by rw[e]
 have e2:(F7 X' w' τ d).os=u0.os:=by rw[e]
 have e3:(F7 X' w' τ d).output=u0.output:=by rw[e]
 exact⟨e2.trans h2.os,rfl,e3.trans h2.output,by rw[e1];exact h2.size,λk hk=>by rw[e1];exact h2.block k hk⟩
theorem Rq{r:Code}{l:List Code}{Q:Exit->Act->World->Prop}{a:Act}{w:World}(h:∀K:Act->World->Prop,(∀a w,GU P l Q a w->K a w)->r.wp P (Exit.then K Q) a w):GU P (r::l) Q a w:=h _ λ_ _ h=>h
def Afp(Shun:Loc->Prop)(X:Nat->Prop):Prop:=∀l,Shun l->∃a,l=.cell a/\X a.block
def Rr(P:Program)(f:FuncId)(args:Array Value)(X:Nat->Prop)(Shun:Loc->Prop)(W:World)(R:Value->World->Prop):Prop :=
 ∀(Post:Value->World->Prop)(c:Frame)(cs:List Frame)(gs:Array Goroutine)(sl:Option (Nat×Nat)) (t:Trace),F0 P Shun gs (G (Frame.enter P f args .normal) (c::cs)) t->
  (∀X' Shun' gs' w' sl' t' v,Afp Shun' X'->(∀b,X' b->X b\/W.heap.size<=b)->F0 P Shun' gs' (G (c.finish v) cs) t'->Aq X' w'->(∀τ d,R v (F7 X' w' τ d)/\Below W.heap.size (F7 X W τ d) (F7 X' w' τ d))->D9 P Post (crowd gs' w' sl') t')->
  D9 P Post (crowd gs W sl) t
end
end
section
open Go.Conc
section
variable {P:Program} {main:Bool} {b:Frame} {a:Act} {k:List Item} {cs:List Frame} {w:World}
end
end
section
open Go.Conc Go.RowKit
theorem Aet(u:World)(base:Nat):F9 u base (Nz) []:=⟨dC,.inl ⟨rfl,rfl⟩⟩
end
section
open Go.Conc Go.Conc.Lib
abbrev Ng:WgLink:={add:=52,done:=54,wait:=57,relMerge:=95,disable:=96,enable:=97,inBubble:=98,associate:=99,fatal:=100,uOr:=101,uAdd:=102,raceRead:=103,uLoad:=104,uStore:=105,disassociate:=106,semrelease:=107,acquire:=109,isAssociated:=110,uCas:=111,raceWrite:=112,semacquire:=113,orU64:=148,addU64:=149,loadU64:=150,storeU64:=151,casU64:=153,tWgP:=142,tUP:=144,tAssoc:=146,tWg:=97,tAU:=94,tU64:=92,tUint:=150,tU32:=95,tPU32:=151,tPAU:=198,tPU64:=200,tNoCopy:=89,tANoCopy:=90,tAlign64:=91}
theorem wgl:WgLib prog Ng :=
 ⟨func52,func54,func57,func95,func96,func97,func98,func99,func100,func101,func102,func103,func104,func105,func106,func107,func109,func110,func111,func112,func113,func148,func149,func150,func151,func153,underlying142,Tryz.runUnderlying142,Tryz.sizeOf142,Tryz.isAgg142,Tryz.zeroValue142,underlying144,Tryz.runUnderlying144,Tryz.sizeOf144,Tryz.isAgg144,Tryz.zeroValue144,underlying146,Tryz.runUnderlying146,Tryz.sizeOf146,Tryz.isAgg146,Tryz.zeroValue146,underlying97,Tryz.runUnderlying97,Tryz.sizeOf97,Tryz.isAgg97,Tryz.zeroValue97,underlying94,Tryz.runUnderlying94,Tryz.sizeOf94,Tryz.isAgg94,Tryz.zeroValue94,underlying92,Tryz.runUnderlying92,Tryz.sizeOf92,Tryz.isAgg92,Tryz.zeroValue92,underlying150,Tryz.runUnderlying150,Tryz.sizeOf150,Tryz.isAgg150,Tryz.zeroValue150,underlying95,Tryz.runUnderlying95,Tryz.sizeOf95,Tryz.isAgg95,Tryz.zeroValue95,underlying151,Tryz.runUnderlying151,Tryz.sizeOf151,Tryz.isAgg151,Tryz.zeroValue151,underlying198,Tryz.runUnderlying198,Tryz.sizeOf198,Tryz.isAgg198,Tryz.zeroValue198,underlying200,Tryz.runUnderlying200,Tryz.sizeOf200,Tryz.isAgg200,Tryz.zeroValue200,underlying0,Tryz.runUnderlying0,Tryz.sizeOf0,Tryz.isAgg0,Tryz.zeroValue0,underlying3,Tryz.runUnderlying3,Tryz.sizeOf3,Tryz.isAgg3,Tryz.zeroValue3,underlying4,Tryz.runUnderlying4,Tryz.sizeOf4,Tryz.isAgg4,Tryz.zeroValue4,underlying9,Tryz.runUnderlying9,Tryz.sizeOf9,Tryz.isAgg9,Tryz.zeroValue9,underlying20,Tryz.runUnderlying20,Tryz.sizeOf20,Tryz.isAgg20,Tryz.zeroValue20,underlying21,Tryz.runUnderlying21,Tryz.sizeOf21,Tryz.isAgg21,Tryz.zeroValue21,sI,sI⟩
end
section
open Go.Conc Go.RowKit
def Has(n:Nat)(T:Array Value)(l:List (Nat×Value)):Prop:=T.size=n/\∀p∈l,T[p.1]?=some p.2
theorem AgZ{o:Oper}(h:o.guard=none)(f:Nat->Option Bool):Region.wanted o f=true:=by simp[Region.wanted,h]
section
variable {P:Program} {Shun:Loc->Prop} {Post:Value->World->Prop} {b:Frame} {a:Act} {k:List Item} {cs:List Frame} {gs:Array Goroutine} {sl:Option (Nat×Nat)} {t:Trace} {V:World}
theorem AfN{ops:Array Oper}(hh:F0 P Shun gs (G (b.at a (.code (.region id ops true)::k)) cs) t)(kk:∀gs' sl' t' d x,F0 P Shun gs' (G (b.at a (.inRegion ops (Region.schedule (P.follows .mixedOrders) ops x)::k)) cs) t'->D9 P Post (crowd gs' (V.at d) sl') t'):D9 P Post (crowd gs V sl) t:=by
 have hG:Go.Conc.Goes P true AtRel (DE λ_=>False) (λg w'=>(∃x,g=G (b.at a (.inRegion ops (Region.schedule (P.follows .mixedOrders) ops x)::k)) cs)/\AtRel V w') 1 (G (b.at a (.code (.region id ops true)::k)) cs) V:=Go.Conc.Goes.step rfl λw₁ qb=>by
  rw[stepG_region_draw];simp only[goes_go];refine⟨λe he=>by simp at he,Go.Conc.Goes.stop λqc qh=>⟨⟨_,rfl⟩,?_⟩⟩;obtain⟨d,rfl⟩:=qb;obtain⟨d',rfl⟩:=qh;exact⟨d',rfl⟩
 refine OZ (D:=DE λ_=>False) (B0:=0) (λ_ _ _ h e he=>(h e he).elim) hh hG λgs' g'' w' sl' t' hh' hst=>?_;obtain⟨⟨x,rfl⟩,d,rfl⟩:=hst;exact kk _ _ _ _ _ hh'
end
end
namespace Bd
open Go.Conc
structure Rn where
 V:Nat->Prop
 Low:Nat
 N:Nat
 ρ:Nat->Nat
def Rn.B(r:Rn)(b b':Nat):Prop:=(r.V b/\b'=b)\/(r.Low<=b/\b<r.N/\b'=r.ρ b)
structure Rn.A (r:Rn) (a a':Addr):Prop where
 b:r.B a.block a'.block
 off:a'.off=a.off
 s:a.spot=none
 s':a'.spot=none
structure Rn.le (r r':Rn):Prop where
 V:r'.V=r.V
 Low:r'.Low=r.Low
 N:r.N<=r'.N
 ρ:∀b,b<r.N->r'.ρ b=r.ρ b
theorem Rn.le.refl(r:Rn):r.le r:=⟨rfl,rfl,A3 _,λ_ _=>rfl⟩
theorem Rn.le.trans{r r' r'':Rn}(h:r.le r')(k:r'.le r''):r.le r'':=⟨k.V.trans h.V,k.Low.trans h.Low,B4 h.N k.N,λb hb=>(k.ρ b (A1 hb h.N)).trans (h.ρ b hb)⟩
theorem Rn.B.mono{r r':Rn}{b b':Nat}(h:r.B b b')(k:r.le r'):r'.B b b':=by
 rcases h with⟨h1,h2⟩|⟨h1,h2,h3⟩
 .exact .inl ⟨by rw[k.V];exact h1,h2⟩
 .exact .inr ⟨by rw[k.Low];exact h1,A1 h2 k.N,by rw[k.ρ b h2];exact h3⟩
theorem Rn.A.mono{r r':Rn}{a a':Addr}(h:r.A a a')(k:r.le r'):r'.A a a':=⟨h.b.mono k,h.off,h.s,h.s'⟩
theorem Rn.A.add{r:Rn}{a a':Addr}(h:r.A a a')(n:Nat):r.A (a.add n) (a'.add n):=by
 unfold Addr.add;split
 .exact h
 .exact⟨h.b,by simp[h.off],rfl,rfl⟩
inductive VR (r:Rn):Value->Value->Prop
 | bool (b:Bool):VR r (.bool b) (.bool b)
 | int (k:IntKind) (n:Int):VR r (.int k n) (.int k n)
 | string (s:BA):VR r (.string s) (.string s)
 | ptr0:VR r (.pointer none) (.pointer none)
 | ptr {a a':Addr} (h:r.A a a'):VR r (.pointer (some a)) (.pointer (some a'))
 | sl0 (n c:Nat):VR r (.slice none n c) (.slice none n c)
 | sl (n c:Nat) {a a':Addr} (h:r.A a a'):VR r (.slice (some a) n c) (.slice (some a') n c)
 | map0:VR r (.map none) (.map none)
 | chan0:VR r (.chan none) (.chan none)
 | fn (f:FuncId):VR r (.func (.func f) #[] #[]) (.func (.func f) #[] #[])
 | nilFunc:VR r .nilFunc .nilFunc
 | nilIface:VR r .nilIface .nilIface
 | iface (t:TypeId) {v v':Value} (h:VR r v v'):VR r (.iface t v) (.iface t v')
 | agg {c c':Array Value} (hs:c.size=c'.size) (h:∀(i:Nat)(v v':Value),c[i]?=some v->c'[i]?=some v'->VR r v v'):VR r (.agg c) (.agg c')
 | tuple {c c':Array Value} (hs:c.size=c'.size) (h:∀(i:Nat)(v v':Value),c[i]?=some v->c'[i]?=some v'->VR r v v'):VR r (.tuple c) (.tuple c')
structure F1 (r:Rn) (c c':Array Value):Prop where
 size:c.size=c'.size
 get:∀(i:Nat)(v v':Value),c[i]?=some v->c'[i]?=some v'->VR r v v'
theorem VR.mono{r r':Rn}(k:r.le r'){v v':Value}(h:VR r v v'):VR r' v v':=by
 induction h with
 | ptr h=>exact .ptr (h.mono k)
 | sl n c h=>exact .sl n c (h.mono k)
 | iface t _ ih=>exact .iface t ih
 | agg hs _ ih=>exact .agg hs ih
 | tuple hs _ ih=>exact .tuple hs ih
 | _=>constructor
section
variable {r r':Rn} {c c' d d':Array Value} {v v':Value}
theorem F1.mono(k:r.le r')(h:F1 r c c'):F1 r' c c':=⟨h.size,λi v v' a b=>(h.get i v v' a b).mono k⟩
theorem VR.agg'(h:F1 r c c'):VR r (.agg c) (.agg c'):=.agg h.size h.get
theorem VR.tuple'(h:F1 r c c'):VR r (.tuple c) (.tuple c'):=.tuple h.size h.get
theorem F1.some(h:F1 r c c'){i:Nat}(hv:c[i]?=some v):∃v',c'[i]?=some v'/\VR r v v':=by
 have a1:=(D1.1 hv).1;have a0:i<c'.size:=by rw[← h.size];exact a1
 exact⟨c'[i],Array.getElem?_eq_getElem a0,h.get i _ _ hv (Array.getElem?_eq_getElem a0)⟩
theorem F1.none(h:F1 r c c'){i:Nat}(hv:c[i]?=none):c'[i]?=none:=by
 rw[Array.getElem?_eq_none_iff] at hv ⊢
 rw[← h.size];exact hv
theorem F1.nil:F1 r #[] #[]:=⟨rfl,λi v v' h=>by simp at h⟩
theorem F1.one(h:VR r v v'):F1 r #[v] #[v']:=⟨rfl,λi x x' a b=>by
 rcases i with _|i
 .simp_all
 .simp at a⟩
theorem F1.push(h:F1 r c c')(hv:VR r v v'):F1 r (c.push v) (c'.push v'):=by
 refine⟨by simp[h.size],λi x x' a b=>?_⟩;rw[Array.getElem?_push] at a b;rw[← h.size] at b;split at a
 .simp_all
 .rename_i e;rw[if_neg e] at b;exact h.get i x x' a b
theorem F1.append(h:F1 r c c')(k:F1 r d d'):F1 r (c++d) (c'++d'):=by
 refine⟨by simp[h.size,k.size],λi x x' a b=>?_⟩;rw[Array.getElem?_append] at a b;rw[← h.size] at b;split at a
 .rename_i e;rw[if_pos e] at b;exact h.get i x x' a b
 .rename_i e;rw[if_neg e] at b;exact k.get _ x x' a b
theorem F1.set(h:F1 r c c')(i:Nat)(hv:VR r v v'):F1 r (c.setIfInBounds i v) (c'.setIfInBounds i v'):=by
 refine⟨by simp[h.size],λk x x' a b=>?_⟩;by_cases e:i=k
 .grind
 .rw[Array.getElem?_setIfInBounds_ne e] at a b;exact h.get k x x' a b
theorem F1.extract(h:F1 r c c')(i j:Nat):F1 r (c.extract i j) (c'.extract i j):=by
 refine⟨by simp[h.size],λk x x' a b=>?_⟩;rw[Array.getElem?_extract] at a b;rw[← h.size] at b;split at a
 .rename_i e;rw[if_pos e] at b;exact h.get _ x x' a b
 .cases a
theorem F1.refl(h:∀v∈c,VR r v v):F1 r c c:=⟨rfl,λi v v' a b=>by rw[a] at b;cases b;exact h v (Array.mem_of_getElem? a)⟩
theorem VR.cells(h:VR r v v'):F1 r v.cells v'.cells:=by
 cases h with
 | agg hs h=>exact⟨hs,h⟩
 | ptr h=>exact .one (.ptr h)
 | sl n c h=>exact .one (.sl n c h)
 | iface t h=>exact .one (.iface t h)
 | tuple hs h=>exact .one (.tuple hs h)
 | _=>exact .one (by constructor)
theorem VR.bytes(h:VR r v v'):v'.bytes?=v.bytes?:=by cases h<;>rfl
def EE:Nat->Value->Bool
 | _,.bool _|_,.int _ _|_,.string _|_,.pointer none|_,.slice none _ _|_,.map none|_,.chan none|_,.nilFunc|_,.nilIface=>true
 | d+1,.iface _ v=>EE d v
 | d+1,.agg c=>c.toList.all (EE d)
 | d+1,.tuple c=>c.toList.all (EE d)
 | _,_=>false
theorem Eg:∀(d:Nat)(v:Value),EE d v=true->VR r v v
 | 0,v,h=>by
  match v,h with
  | .bool _,_=>exact .bool _
  | .int _ _,_=>exact .int _ _
  | .string _,_=>exact .string _
  | .pointer none,_=>exact .ptr0
  | .slice none _ _,_=>exact .sl0 _ _
  | .map none,_=>exact .map0
  | .chan none,_=>exact .chan0
  | .nilFunc,_=>exact .nilFunc
  | .nilIface,_=>exact .nilIface
 | d+1,v,h=>by
  have all:∀c:Array Value,c.toList.all (EE d)=true->∀v∈c,VR r v v:=λc hc v hv=>Eg d v (by rw[List.all_eq_true] at hc;exact hc v (by simpa using hv));match v,h with
  | .bool _,_=>exact .bool _
  | .int _ _,_=>exact .int _ _
  | .string _,_=>exact .string _
  | .pointer none,_=>exact .ptr0
  | .slice none _ _,_=>exact .sl0 _ _
  | .map none,_=>exact .map0
  | .chan none,_=>exact .chan0
  | .nilFunc,_=>exact .nilFunc
  | .nilIface,_=>exact .nilIface
  | .iface _ v,h=>exact .iface _ (Eg d v h)
  | .agg c,h=>exact VR.agg' (.refl (all c h))
  | .tuple c,h=>exact VR.tuple' (.refl (all c h))
end
def EW(P:Program)(t:TypeId):Prop:=∀off v,plainCell P P.depth t off=some v->(∃b,v=.bool b)\/∃k n,v=.int k n
inductive OR (P:Program) (r:Rn):Obj->Obj->Prop
 | cells {c c':Array Value} {e:TypeId} {f:Nat×Nat} (h:F1 r c c') (hf:f.2<=c.size):OR P r (.cells c e f) (.cells c' e f)
 | view {a a':Addr} {t:TypeId} (h:r.A a a') (hf:EW P t):OR P r (.view a t) (.view a' t)
 | num {a a':Addr} {l:Bool} (h:r.A a a'):OR P r (.number a l) (.number a' l)
theorem OR.mono{P:Program}{r r':Rn}(k:r.le r'){o:Obj}(h:OR P r o o'):OR P r' o o':=by
 cases h with
 | cells h hf=>exact .cells (h.mono k) hf
 | view h hf=>exact .view (h.mono k) hf
 | num h=>exact .num (h.mono k)
def Rn.O(r:Rn)(b:Nat):Prop:=r.Low<=b/\b<r.N
def Rn.M(r:Rn)(b':Nat):Prop:=∃b,r.O b/\b'=r.ρ b
structure WR (P:Program) (r:Rn) (u w:World):Prop where
 tape:u.tape=w.tape
 drawn:u.drawn=w.drawn
 size:u.heap.size=r.N
 low:r.Low<=r.N
 lowW:r.Low<=w.heap.size
 img:∀b,r.O b->r.Low<=r.ρ b/\r.ρ b<w.heap.size
 inj:∀b c,r.O b->r.O c->r.ρ b=r.ρ c->b=c
 vis:∀b,r.V b->b<r.Low/\∃c e f,u.heap[b]?=some (.cells c e (0,c.size))/\w.heap[b]?=some (.cells c e f)/\F1 r c c/\∀(i:Nat)(n:Int),c[i]?≠some (.int .u8 n)
 own:∀b,r.O b->∃o o',u.heap[b]?=some o/\w.heap[r.ρ b]?=some o'/\OR P r o o'
 dead:∀b,b<r.Low->¬r.V b->∃e,u.heap[b]?=some (.cells #[] e (0,0))
structure EI (r r':Rn) (w w':World):Prop where
 tape:w'.tape=w.tape
 os:w'.os=w.os
 output:w'.output=w.output
 nv:NV w->NV w'
 size:w.heap.size<=w'.heap.size
 block:∀b,b<w.heap.size->¬r.M b->w'.heap[b]?=w.heap[b]?
 new:∀b,r'.M b->r.M b\/(w.heap.size<=b/\b<w'.heap.size)
theorem EI.refl(r:Rn)(w:World):EI r r w w:=⟨rfl,rfl,rfl,id,A3 _,λ_ _ _=>rfl,λ_ h=>.inl h⟩
theorem EI.trans{r r' r'':Rn}{w w'':World}(h:EI r r' w w')(k:EI r' r'' w' w''):EI r r'' w w'' :=
 ⟨k.tape.trans h.tape,k.os.trans h.os,k.output.trans h.output,k.nv ∘ h.nv,B4 h.size k.size,λb hb hm=>by
  refine (k.block b (A1 hb h.size) λhm'=>?_).trans (h.block b hb hm);rcases h.new b hm' with h1|h1
  .grind
  .omega,λb hb=>by
  rcases k.new b hb with h1|h1
  .rcases h.new b h1 with h2|h2
   .grind
   .exact .inr ⟨h2.1,A1 h2.2 k.size⟩
  .exact .inr ⟨B4 h.size h1.1,h1.2⟩⟩
def DZ(r:Rn)(e:Event):Prop :=
 match e.loc with
 | .cell a=>e.sync=false/\((r.V a.block/\e.write=false)\/r.M a.block)
 | .obj b=>e.sync=false/\e.write=false/\r.M b
 | .mark .noRoom=>True
 | .mark (.extern _)=>True
 | _=>False
theorem Rn.M.mono{r r':Rn}(k:r.le r'){b:Nat}(h:r.M b):r'.M b:=by
 obtain⟨c,⟨h1,h2⟩,rfl⟩:=h;exact⟨c,⟨by rw[k.Low];exact h1,A1 h2 k.N⟩,(k.ρ c h2).symm⟩
theorem DZ.mono{r r':Rn}(k:r.le r'){e:Event}(h:DZ r e):DZ r' e:=by
 unfold DZ at *;split<;>simp_all only
 .rw[k.V];exact⟨trivial,h.2.imp id λh=>h.mono k⟩
 .exact⟨trivial,trivial,h.2.2.mono k⟩
section
variable {P:Program} {r:Rn} {u w:World} {b b':Nat} {a a':Addr}
inductive At (P:Program) (r:Rn) (u w:World) (b b':Nat):Prop
 | low (c:Array Value) (e:TypeId) (f:Nat×Nat) (hv:r.V b) (hb:b'=b) (hl:b<r.Low) (hu:u.heap[b]?=some (.cells c e (0,c.size))) (hw:w.heap[b]?=some (.cells c e f)) (h:F1 r c c) (nb:∀(i:Nat)(n:Int),c[i]?≠some (.int .u8 n)):At P r u w b b'
 | cells (c c':Array Value) (e:TypeId) (f:Nat×Nat) (ho:r.O b) (hb:b'=r.ρ b) (hu:u.heap[b]?=some (.cells c e f)) (hw:w.heap[b']?=some (.cells c' e f)) (hf:f.2<=c.size) (h:F1 r c c'):At P r u w b b'
 | view (x x':Addr) (t:TypeId) (ho:r.O b) (hb:b'=r.ρ b) (hu:u.heap[b]?=some (.view x t)) (hw:w.heap[b']?=some (.view x' t)) (h:r.A x x') (hfl:EW P t):At P r u w b b'
 | num (x x':Addr) (l:Bool) (ho:r.O b) (hb:b'=r.ρ b) (hu:u.heap[b]?=some (.number x l)) (hw:w.heap[b']?=some (.number x' l)) (h:r.A x x'):At P r u w b b'
theorem WR.at(h:WR P r u w)(hb:r.B b b'):At P r u w b b':=by
 rcases hb with⟨hv,rfl⟩|⟨h1,h2,rfl⟩
 .obtain⟨hl,c,e,f,hu,hw,hc,nb⟩:=h.vis _ hv;exact .low c e f hv rfl hl hu hw hc nb
 .obtain⟨o,o',hu,hw,ho⟩:=h.own b ⟨h1,h2⟩;cases ho with
  | cells hc hf=>exact .cells _ _ _ _ ⟨h1,h2⟩ rfl hu hw hf hc
  | view hx hf=>exact .view _ _ _ ⟨h1,h2⟩ rfl hu hw hx hf
  | num hx=>exact .num _ _ _ ⟨h1,h2⟩ rfl hu hw hx
theorem WR.set(h:WR P r u w)(ho:r.O b){o:Obj}(hoo:OR P r o o')(np:∀c t,o'≠.pending c t):
  WR P r {u with heap:=u.heap.setIfInBounds b o} {w with heap:=w.heap.setIfInBounds (r.ρ b) o'}/\EI r r w {w with heap:=w.heap.setIfInBounds (r.ρ b) o'}:=by
 have a0:b<u.heap.size:=by rw[h.size];exact ho.2
 have a1:=(h.img b ho).2;have gu:∀k,k≠b->(u.heap.setIfInBounds b o)[k]?=u.heap[k]?:=λk hk=>Array.getElem?_setIfInBounds_ne (λe=>hk e.symm);have gw:∀k,k≠r.ρ b->(w.heap.setIfInBounds _ o')[k]?=w.heap[k]?:=λk hk=>Array.getElem?_setIfInBounds_ne (λe=>hk e.symm);refine⟨⟨h.tape,h.drawn,by simp[h.size],h.low,by simpa using h.lowW,λk hk=>by simpa using h.img k hk,h.inj,λk hk=>?_,λk hk=>?_,λk hk hv=>by rw[gu k (λe=>by have:=ho.1;omega)];exact h.dead k hk hv⟩,rfl,rfl,rfl,λhn k c t hx=>?_,dC,λk hk hm=>gw k λe=>hm ⟨b,ho,e⟩,λ_ h=>.inl h⟩
 .obtain⟨h1,h2⟩:=h.vis k hk;refine⟨h1,?_⟩;have e1:k≠b:=λe=>by have:=ho.1;omega
  have e2:k≠r.ρ b:=λe=>by have:=(h.img b ho).1;omega
  rwa[gu k e1,gw k e2]
 .by_cases e:k=b
  .simp_all
  .rw[gu k e,gw _ (λe'=>e (h.inj k b hk ho e'))];exact h.own k hk
 .by_cases e:k=r.ρ b
  .simp_all
  .rw[gw k e] at hx;exact hn k c t hx
def Rn.more(r:Rn)(w:World):Rn:={r with N:=r.N+1,ρ:=λb=>if b=r.N then w.heap.size else r.ρ b}
theorem Rn.le_more(r:Rn)(w:World):r.le (r.more w):=⟨rfl,rfl,Nat.le_succ _,λ_b hb=>if_neg (Nat.ne_of_lt hb)⟩
theorem WR.new(h:WR P r u w){o:Obj}(hoo:OR P r o o')(np:∀c t,o'≠.pending c t):
  WR P (r.more w) {u with heap:=u.heap.push o} {w with heap:=w.heap.push o'}/\EI r (r.more w) w {w with heap:=w.heap.push o'}/\(r.more w).B u.heap.size w.heap.size:=by
 have k:=r.le_more w;have hN:r.Low<=r.N:=h.low;have ρN:(r.more w).ρ r.N=w.heap.size:=if_pos rfl;have ρo:=k.ρ
 have a0:∀b,(r.more w).O b->b=r.N\/r.O b:=λb hb=>by
  have h1:r.Low<=b:=hb.1;have h2:b<r.N+1:=hb.2;rcases Nat.lt_or_ge b r.N with h3|h3
  .exact .inr ⟨h1,h3⟩
  .exact .inl oM
 refine⟨⟨h.tape,h.drawn,by simp[h.size,Rn.more],Nat.le_succ_of_le hN,by have:=h.lowW;simp;show r.Low<=_;omega,λb hb=>?_,λb c hb hc e=>?_,λb hb=>?_,λb hb=>?_,λb hb hv=>?_⟩,⟨rfl,rfl,rfl,λhn b c t hx=>?_,dC,λb hb _=>?_,λb hb=>?_⟩,.inr ⟨by rw[h.size];exact hN,by rw[h.size];exact Nat.lt_succ_self _,by rw[h.size,ρN]⟩⟩
 .rcases a0 b hb with rfl|hb
  .rw[ρN];exact⟨h.lowW,dC⟩
  .rw[ρo b hb.2];exact⟨(h.img b hb).1,by have:=(h.img b hb).2;simp;omega⟩
 .rcases a0 b hb with rfl|hb<;>rcases a0 c hc with rfl|hc
  .rfl
  .rw[ρN,ρo c hc.2] at e;have:=(h.img c hc).2;omega
  .rw[ρN,ρo b hb.2] at e;have:=(h.img b hb).2;omega
  .rw[ρo b hb.2,ρo c hc.2] at e;exact h.inj b c hb hc e
 .obtain⟨h1,c,e,f,h2,h3,h5,h6⟩:=h.vis b hb;have l1:b<u.heap.size:=(D1.1 h2).1;have l2:b<w.heap.size:=(D1.1 h3).1;exact⟨h1,c,e,f,by rw[Array.getElem?_push_lt l1,← Array.getElem?_eq_getElem];exact h2,by rw[Array.getElem?_push_lt l2,← Array.getElem?_eq_getElem];exact h3,h5.mono k,h6⟩
 .rcases a0 b hb with rfl|hb
  .rw[ρN];exact⟨o,o',by rw[← h.size];exact Array.getElem?_push_size,Array.getElem?_push_size,hoo.mono k⟩
  .obtain⟨x,x',h1,h2,h3⟩:=h.own b hb;have l1:b<u.heap.size:=(D1.1 h1).1;have l2:r.ρ b<w.heap.size:=(D1.1 h2).1;rw[ρo b hb.2];exact⟨x,x',by rw[Array.getElem?_push_lt l1,← Array.getElem?_eq_getElem];exact h1,by rw[Array.getElem?_push_lt l2,← Array.getElem?_eq_getElem];exact h2,h3.mono k⟩
 .obtain⟨e,h1⟩:=h.dead b hb hv;have l1:b<u.heap.size:=(D1.1 h1).1;exact⟨e,by rw[Array.getElem?_push_lt l1,← Array.getElem?_eq_getElem];exact h1⟩
 .have hx:(w.heap.push o')[b]?=_:=hx;rw[Array.getElem?_push] at hx;split at hx
  .simp_all
  .exact hn b c t hx
 .grind
 .obtain⟨c,hc,rfl⟩:=hb;rcases a0 c hc with rfl|hc
  .simp_all
  .rw[ρo c hc.2];exact .inl ⟨c,hc,rfl⟩
theorem WR.shape(h:WR P r u w)(hb:r.B b b'):w.shape? b'=u.shape? b:=by
 cases h.at hb with
 | low c e f hv hb hl hu hw hc=>subst hb;simp[World.shape?,hu,hw]
 | cells c c' e f ho hb hu hw hf hc=>simp[World.shape?,hu,hw,hc.size]
 | view x x' t ho hb hu hw hx hfl=>simp[World.shape?,hu,hw]
 | num x x' t ho hb hu hw hx=>simp[World.shape?,hu,hw]
theorem WR.at'(h:WR P r u w):WR P r {u with drawn:=u.drawn+1} {w with drawn:=w.drawn+1}:=⟨h.tape,by show u.drawn+1=w.drawn+1;rw[h.drawn],h.size,h.low,h.lowW,h.img,h.inj,h.vis,h.own,h.dead⟩
end
def RS(P:Program)(r:Rn){α β:Type}(A:Rn->α->β->Prop)(s:Sem α)(s':Sem β):Prop :=
 ∀u w es es',WR P r u w->∀a u' eu,s.runT P u es=(.ok a u',eu)->
  ∃r' a' w' ew,s'.runT P w es'=(.ok a' w',ew)/\r.le r'/\WR P r' u' w'/\A r' a a'/\EI r r' w w'/\∀e∈ew,e∈es'\/DZ r' e
abbrev Qe {α:Type}:Rn->α->α->Prop:=λ_ a a'=>a'=a
abbrev Qv:Rn->Value->Value->Prop:=λr v v'=>VR r v v'
abbrev Qa:Rn->Addr->Addr->Prop:=λr a a'=>r.A a a'
abbrev Qc:Rn->Array Value->Array Value->Prop:=λr c c'=>F1 r c c'
abbrev Qt {α β:Type}:Rn->α->β->Prop:=λ_ _ _=>True
section
variable {P:Program} {r:Rn} {α β γ δ:Type} {A:Rn->α->β->Prop} {B:Rn->γ->δ->Prop}
theorem RS.pure{a:α}{a':β}(h:A r a a'):RS P r A (Pure.pure a) (Pure.pure a'):=λu w es es' hr x u' eu he=>by
 cases he
 exact⟨r,a',w,es',rfl,.refl r,hr,h,.refl r w,λe he=>.inl he⟩
theorem RS.halt{k:Halt}{s':Sem β}:RS P r A (Sem.halt k:Sem α) s':=λu w es es' hr x u' eu he=>by cases he
theorem RS.mono{A':Rn->α->β->Prop}{s:Sem α}{s':Sem β}(h:RS P r A s s')(hA:∀r a a',A r a a'->A' r a a'):RS P r A' s s':=λu w es es' hr a u' eu he=>by
 obtain⟨r',a',w',ew,h1,h2,h3,h4,h5,h6⟩:=h u w es es' hr a u' eu he;grind
theorem RS.bind{s:Sem α}{s':Sem β}{f:α->Sem γ}{f':β->Sem δ}(h:RS P r A s s')(k:∀r' a a',r.le r'->A r' a a'->RS P r' B (f a) (f' a')):RS P r B (s >>= f) (s' >>= f'):=λu w es es' hr x u' eu he=>by
 have he:(s.bind f).runT P u es=_:=he;rw[Sem.runT_bind'] at he;match hs:s.runT P u es,he with
 | (.ok a u1,e1),he =>
  obtain⟨r1,a',w1,ew1,h1,h2,h3,h4,h5,h6⟩:=h u w es es' hr a u1 e1 hs;obtain⟨r2,x',w2,ew2,k1,k2,k3,k4,k5,k6⟩:=k r1 a a' h2 h4 u1 w1 e1 ew1 h3 x u' eu he;refine⟨r2,x',w2,ew2,?_,h2.trans k2,k3,k4,h5.trans k5,λe he=>?_⟩
  .simp_all
  .rcases k6 e he with h|h
   .exact (h6 e h).imp id λh=>h.mono k2
   .exact .inr h
 | (.halt a u1,e1),he=>cases he
theorem RS.program{f f':Program->Sem α}{A:Rn->α->α->Prop}(h:RS P r A (f P) (f' P)):RS P r A (program >>= f) (program >>= f'):=λu w es es' hr x u' eu he=>h u w es es' hr x u' eu he
theorem RS.und(t:TypeId):RS P r Qe (underlying t) (underlying t):=by
 unfold underlying;refine RS.program ?_;split
 .exact .pure rfl
 .exact .halt
theorem RS.info(t:TypeId):RS P r (λ_ a a'=>a'=a/\P.info? t=some a) (typeInfo t) (typeInfo t):=by
 unfold typeInfo;refine RS.program ?_;split
 .rename_i i hi;exact .pure ⟨rfl,hi⟩
 .exact .halt
theorem RS.size(t:TypeId):RS P r Qe (sizeOf t) (sizeOf t):=by
 unfold sizeOf;exact RS.bind (RS.info t) λ_ _ _ _ h=>by obtain⟨rfl,_⟩:=h;exact .pure rfl
theorem RS.isAgg(t:TypeId):RS P r Qe (isAgg t) (isAgg t):=by
 unfold Go.isAgg;refine RS.bind (RS.und t) λ_ _ _ _ h=>?_;cases h
 split<;>exact .pure rfl
def JQ(P:Program)(t:TypeId):Bool:=match P.info? t with|some i=>(match i.zero with|some v=>EE 6 v|none=>true)|none=>true
theorem RS.zero{t:TypeId}(h:JQ P t=true):RS P r Qv (zeroValue t) (zeroValue t):=by
 unfold zeroValue;refine RS.bind (RS.info t) λ_ _ _ _ hh=>?_;obtain⟨rfl,hi⟩:=hh;unfold JQ at h;rw[hi] at h;simp only at h;split
 .rename_i v hv;rw[hv] at h;exact .pure (Eg 6 v h)
 .exact .halt
theorem RS.choose(q:Question):RS P r Qe (choose q) (choose q):=λu w es es' hr x u' eu he=>by
 simp only[Go.choose,Sem.runT] at he ⊢
 split at he
 .rename_i hq;cases he
  exact⟨r,0,w,es',by rw[if_pos hq],.refl r,hr,rfl,.refl r w,λe he=>.inl he⟩
 .rename_i hq;cases he
  refine⟨r,_,{w with drawn:=w.drawn+1},es',by rw[if_neg hq],.refl r,hr.at',by rw[hr.tape,hr.drawn],⟨rfl,rfl,rfl,id,A3 _,λ_ _ _=>rfl,λ_ h=>.inl h⟩,λe he=>.inl he⟩
theorem RS.markOk{m:Mark}(h:m=.noRoom\/∃f,m=.extern f):RS P r Qt (mark m) (mark m):=λu w es es' hr x u' eu he=>by
 simp only[mark,Sem.runT] at he ⊢
 cases he
 refine⟨r,(),w,_,rfl,.refl r,hr,trivial,.refl r w,λe he=>?_⟩;rcases Array.mem_push.1 he with h1|rfl
 .grind
 .rcases h with rfl|⟨f,rfl⟩<;>exact .inr trivial
theorem RS.room(n:Nat):RS P r Qt (askRoom n) (askRoom n):=by
 unfold askRoom;split
 .exact .markOk (.inl rfl)
 .exact .pure trivial
theorem RS.shape{b b':Nat}(h:r.B b b'):RS P r Qe (shape b) (shape b'):=λu w es es' hr x u' eu he=>by
 simp only[Go.shape,Sem.runT] at he ⊢
 cases he
 exact⟨r,_,w,es',rfl,.refl r,hr,hr.shape h,.refl r w,λe he=>.inl he⟩
theorem evM{a:Addr}(h:r.M a.block):DZ r ⟨.cell a,wr,false⟩:=⟨rfl,.inr h⟩
theorem evB{b b':Nat}(h:r.B b b'){a:Addr}(ha:a.block=b'):DZ r ⟨.cell a,false,false⟩:=by
 rcases h with⟨h1,rfl⟩|⟨h1,h2,rfl⟩
 .exact⟨rfl,.inl ⟨by rw[ha];exact h1,rfl⟩⟩
 .exact⟨rfl,.inr ⟨b,⟨h1,h2⟩,ha⟩⟩
inductive QO (r:Rn):Obj->Obj->Prop
 | view {a a':Addr} {t:TypeId} (h:r.A a a'):QO r (.view a t) (.view a' t)
 | num {a a':Addr} {l:Bool} (h:r.A a a'):QO r (.number a l) (.number a' l)
theorem RS.getObj{b b':Nat}(h:r.B b b'):RS P r QO (getObj b) (getObj b'):=λu w es es' hr x u' eu he=>by
 simp only[Go.getObj,Sem.runT] at he ⊢
 have fin:∀{o o':Obj},o.isChan=false->o'.isChan=false->r.O b->b'=r.ρ b->w.heap[b']?=some o'->(∀c e f,o'≠.cells c e f)->QO r o o'->(Result.ok o u,es.push ⟨.obj b,false,o.isChan⟩)=(Result.ok x u',eu)->∃r' a' w' ew,(match w.heap[b']? with
   | some (.cells ..)=>(.halt (.stuck "getObj: a row of cells") w,es')
   | some o=>(Sem.pure o).runT P w (es'.push ⟨.obj b',false,o.isChan⟩)
   | none=>(.halt (.stuck "getObj: no such block") w,es'))=(.ok a' w',ew)/\r.le r'/\WR P r' u' w'/\QO r' x a'/\EI r r' w w'/\∀e∈ew,e∈es'\/DZ r' e:=λ{o o'} h1 h2 ho hb hw hn hq he=>by
  cases he
  refine⟨r,o',w,es'.push ⟨.obj b',false,false⟩,?_,.refl r,hr,hq,.refl r w,λe he=>?_⟩
  .simp_all
  .rcases Array.mem_push.1 he with h1|rfl
   .exact .inl h1
   .exact .inr ⟨rfl,rfl,b,ho,hb⟩
 cases hr.at h with
 | low c e f hv hb hl hu hw hc=>rw[hu] at he;cases he
 | cells c c' e f ho hb hu hw hf hc=>rw[hu] at he;cases he
 | view x1 x2 t ho hb hu hw hx hfl=>rw[hu] at he;exact fin rfl rfl ho hb hw dC (.view hx) he
 | num x1 x2 t ho hb hu hw hx=>rw[hu] at he;exact fin rfl rfl ho hb hw dC (.num hx) he
theorem RS.newC{c c':Array Value}(h:F1 r c c'):RS P r (λr b b'=>r.B b b') (newObj (.cells c e)) (newObj (.cells c' e)):=λu w es es' hr x u' eu he=>by
 simp only[newObj,Sem.runT] at he ⊢
 cases he
 obtain⟨h1,h2,h3⟩:=hr.new (o:=.cells c e) (.cells h (Nat.zero_le _)) dC;exact⟨r.more w,w.heap.size,_,es',rfl,r.le_more w,h1,h3,h2,λe he=>.inl he⟩
theorem RS.newV{a a':Addr}{t:TypeId}(h:r.A a a')(hf:EW P t):RS P r (λr b b'=>r.B b b') (newObj (.view a t)) (newObj (.view a' t)):=λu w es es' hr x u' eu he=>by
 simp only[newObj,Sem.runT] at he ⊢
 cases he
 obtain⟨h1,h2,h3⟩:=hr.new (.view h hf) dC;exact⟨r.more w,w.heap.size,_,es',rfl,r.le_more w,h1,h3,h2,λe he=>.inl he⟩
theorem RS.newN{a a':Addr}{l:Bool}(h:r.A a a'):RS P r (λr b b'=>r.B b b') (newObj (.number a l)) (newObj (.number a' l)):=λu w es es' hr x u' eu he=>by
 simp only[newObj,Sem.runT] at he ⊢
 cases he
 obtain⟨h1,h2,h3⟩:=hr.new (.num h) dC;exact⟨r.more w,w.heap.size,_,es',rfl,r.le_more w,h1,h3,h2,λe he=>.inl he⟩
theorem RS.newRow{c c':Array Value}(h:F1 r c c'):RS P r Qa (newRow e c) (newRow e c'):=by
 unfold Go.newRow;exact RS.bind (RS.newC h) λr' b b' _ hb=>.pure ⟨hb,rfl,rfl,rfl⟩
theorem RS.newVar{v v':Value}(h:VR r v v'):RS P r Qa (newVar e v) (newVar e v'):=RS.newRow h.cells
theorem Kn{p:Program}{c c':Array Value}(h:F1 r c c')(e:TypeId):∀f x stop,seenCells p c' e f x stop=seenCells p c e f x stop
 | 0,_,_=>rfl
 | f+1,x,stop=>by
  unfold seenCells;split
  .rfl
  .simp only;split
   .rfl
   .split
    .rfl
    .rename_i i s _;cases hc:c[i]? with
     | none=>rw[h.none hc]
     | some v =>
      obtain⟨v',hv',hv⟩:=h.some hc;rw[hv'];simp[hv.bytes];split
      .rfl
      .rfl
      .rw[Kn h e f]
theorem RX{u w:World}{x x' k:Addr}{t:TypeId}(hr:WR P r u w)(hx:r.A x x')(hk:k'.off=k.off)(hks:k'.spot=k.spot){c:Array Value}{fr:Nat×Nat}{cells:List (Nat×Nat×List UInt8)}
  (h:u.seen p x t k atomic=.ok (c,e,fr,first,like,cells)):u.heap[x.block]?=some (.cells c e fr)/\plainCell p p.depth t k.off=some like/\∃c' fr',w.heap[x'.block]?=some (.cells c' e fr')/\w.seen p x' t k' atomic=.ok (c',e,fr',first,like,cells):=by
 unfold World.seen at h ⊢
 simp only[hk,hks,hx.off,hx.s,hx.s',bind,Except.bind,pure,Except.pure] at h ⊢
 cases hr.at hx.b with
 | view y y' t' ho hb hu hw hy hfl =>
  rw[hu] at h;simp only at h;repeat' (split at h)
  all_goals cases h
 | num y y' t' ho hb hu hw hy =>
  rw[hu] at h;simp only at h;repeat' (split at h)
  all_goals cases h
 | low c1 e1 f1 hv hb hl hu hw hc =>
  rw[← hb] at hw;rw[hu] at h;rw[hw];simp only at h ⊢
  repeat' (split at h)
  all_goals first
   | (cases h;done)
   | (cases h;refine⟨hu,sO,_,_,rfl,?_⟩;simp_all)
 | cells c1 c2 e1 f1 ho hb hu hw hf hc =>
  rw[hu] at h;rw[hw];simp only[Kn hc] at h ⊢
  repeat' (split at h)
  all_goals first
   | (cases h;done)
   | (cases h;refine⟨hu,sO,_,_,rfl,?_⟩;simp_all)
end
section
variable {P:Program} {r:Rn} {α β:Type}
theorem Jt{v:Value}{bs:List UInt8}(hl:(∃b,like=.bool b)\/∃k n,like=.int k n)(h:like.ofBytes bs=some v):VR r v v:=by
 unfold Value.ofBytes at h;rcases hl with⟨b,rfl⟩|⟨k,n,rfl⟩
 .simp only at h;split at h<;>first|(cases h;exact .bool _)|cases h
 .simp only at h;split at h<;>first|(cases h;exact .int _ _)|cases h
theorem VR.ofBytes{old old' v:Value}{bs:List UInt8}(hv:VR r old old')(h:old.ofBytes bs=some v):VR r v v:=by
 cases hv with
 | bool b=>exact Jt (.inl ⟨b,rfl⟩) h
 | int k n=>exact Jt (.inr ⟨k,n,rfl⟩) h
 | _=>cases h
theorem RY{u w:World}{x x' k:Addr}{t:TypeId}{v:Value}{l:List Addr}(hr:WR P r u w)(hx:r.A x x')(hk:k'.off=k.off)(hks:k'.spot=k.spot)(hfl:EW P t)(h:u.viewLoad P x t k false=.ok (v,l)):
  ∃l',w.viewLoad P x' t k' false=.ok (v,l')/\VR r v v/\∀a∈l',a.block=x'.block:=by
 unfold World.viewLoad at h ⊢
 cases hs:u.seen P x t k false with
 | error m=>rw[hs] at h;cases h
 | ok q =>
  obtain⟨c,e,fr,first,a1,a0⟩:=q;obtain⟨_,a2,c',a3,_,hw⟩:=RX hr hx hk hks hs;rw[hs] at h;rw[hw];simp only[bind,Except.bind,pure,Except.pure] at h ⊢
  split at h
  .rename_i v1 hv1;cases h
   refine⟨_,rfl,Jt (hfl _ _ a2) hv1,λa ha=>?_⟩;obtain⟨y,_,rfl⟩:=List.mem_map.1 ha;rfl
  .cases h
theorem RS.load{a a':Addr}(h:r.A a a'):RS P r Qv (load a) (load a'):=λu w es es' hr x u' eu he=>by
 simp only[Go.load,Sem.runT] at he ⊢
 have ev:∀{y:Event} {ew:Array Event},DZ r y->∀e∈ew.push y,e∈ew\/DZ r e:=λhy e he=>by
  grind
 have dir:∀{c c':Array Value} {e:TypeId} {f f':Nat×Nat},u.heap[a.block]?=some (.cells c e f)->w.heap[a'.block]?=some (.cells c' e f')->F1 r c c'->∃r' v' w' ew,(match w.cell? a' with
   | some v=>(Sem.pure v:Sem Value).runT P w _
   | none=>match w.farLoad P a' (Mode.plain == .atomic) with
    | .ok (v,touched)=>(Sem.pure v:Sem Value).runT P w (es'++touched.toArray.map (⟨.cell ·,false,Mode.plain == .atomic⟩))
    | .error h=>(.halt h w,es'))=(.ok v' w',ew)/\r.le r'/\WR P r' u' w'/\VR r' x v'/\EI r r' w w'/\∀e∈ew,e∈es'\/DZ r' e:=λ{c c' e f f'} hu hw hc=>by
  have cu:u.cell? a=c[a.off]?:=by simp[World.cell?,hu,h.s]
  have cw:w.cell? a'=c'[a.off]?:=by simp[World.cell?,hw,h.s',h.off]
  rw[cu] at he;rw[cw];cases hv:c[a.off]? with
  | none =>
   rw[hv] at he;simp only[World.farLoad,hu] at he;cases he
  | some v =>
   rw[hv] at he;cases he
   obtain⟨v',hv',hvv⟩:=hc.some hv;rw[hv'];exact⟨r,v',w,_,rfl,.refl r,hr,hvv,.refl r w,ev (evB h.b rfl)⟩
 cases hr.at h.b with
 | low c e f hv hb hl hu hw hc=>exact dir hu (by rw[hb];exact hw) hc
 | cells c c' e f ho hb hu hw hf hc=>exact dir hu hw hc
 | num y y' t ho hb hu hw hy =>
  have cu:u.cell? a=none:=by simp[World.cell?,hu]
  rw[cu] at he;simp only[World.farLoad,hu] at he;cases he
 | view y y' t ho hb hu hw hy hfl =>
  have cu:u.cell? a=none:=by simp[World.cell?,hu]
  have cw:w.cell? a'=none:=by simp[World.cell?,hw]
  rw[cu] at he;rw[cw];simp only[World.farLoad,hu,hw] at he ⊢
  cases hl:u.viewLoad P y t a _ with
  | error m=>rw[hl] at he;cases he
  | ok q =>
   obtain⟨vv,l⟩:=q;rw[hl] at he;simp only[Prod.mk.injEq,Result.ok.injEq] at he;obtain⟨⟨rfl,rfl⟩,-⟩:=he;obtain⟨l',h1,h2,h3⟩:=RY hr hy h.off (by rw[h.s,h.s']) hfl hl;have h1:w.viewLoad P y' t a' (Mode.plain == .atomic)=.ok (vv,l'):=h1;rw[h1];refine⟨r,vv,w,_,rfl,.refl r,hr,h2,.refl r w,λe he=>?_⟩;rcases Array.mem_append.1 he with h4|h4
   .exact .inl h4
   .simp only[List.map_toArray,List.mem_toArray,List.mem_map] at h4;obtain⟨z,hz,rfl⟩:=h4;exact .inr (evB hy.b (h3 z hz))
theorem RZ{τ:Type}{F:Array Value->τ->Except String (Array Value)}(hF:∀c c' x c1,F1 r c c'->F c x=.ok c1->∃c1',F c' x=.ok c1'/\F1 r c1 c1'/\c1.size=c.size):
  ∀(l:List τ) {c c' c1:Array Value},F1 r c c'->l.foldlM F c=.ok c1->∃c1',l.foldlM F c'=.ok c1'/\F1 r c1 c1'/\c1.size=c.size
 | [],c,c',c1,h,e=>by cases e;exact⟨c',rfl,h,rfl⟩
 | x::l,c,c',c1,h,e=>by
  rw[List.foldlM_cons] at e ⊢
  cases hx:F c x with
  | error m=>rw[hx] at e;cases e
  | ok c2 =>
   rw[hx] at e;obtain⟨c2',h1,h2,h3⟩:=hF c c' x c2 h hx;obtain⟨c1',h4,h5,h6⟩:=RZ hF l h2 e;exact⟨c1',by rw[h1];exact h4,h5,h6.trans h3⟩
def LA(fr:Nat×Nat)(first:Nat)(bytes:List UInt8)(c:Array Value)(x:Nat×Nat×List UInt8):Except String (Array Value):=do
 if x.2.1<first || x.2.1+x.2.2.length > first+bytes.length then Except.error "memory seen as another type: a part of a cell written"
 if fr.1<=x.1&&x.1<fr.2 then Except.error "a write to bytes that a string shares"
 let some old:=c[x.1]?|Except.error "memory seen as another type: no such cell"
 let some new:=old.ofBytes ((bytes.drop (x.2.1-first)).take x.2.2.length)|Except.error "memory seen as another type: a bool from a byte other than 0 or 1"
 pure (c.setIfInBounds x.1 new)
theorem AdO{fr:Nat×Nat}{bytes:List UInt8}(c c':Array Value)(x:Nat×Nat×List UInt8)(c1:Array Value)(h:F1 r c c')(e:LA fr first bytes c x=.ok c1):∃c1',LA fr first bytes c' x=.ok c1'/\F1 r c1 c1'/\c1.size=c.size:=by
 unfold LA at e ⊢
 simp only[bind,Except.bind,pure,Except.pure] at e ⊢
 split at e
 .cases e
 .rename_i h1;split at e
  .cases e
  .rename_i h2;rw[if_neg h1];simp only[h2];cases hc:c[x.1]? with
   | none=>rw[hc] at e;cases e
   | some old =>
    obtain⟨a0,ho,hv⟩:=h.some hc;rw[hc] at e;rw[ho];simp only at e ⊢
    have a1:∀bs,a0.ofBytes bs=old.ofBytes bs:=λbs=>by cases hv<;>rfl
    rw[a1];split at e
    .rename_i nw hn;cases e
     exact⟨_,rfl,h.set _ (hv.ofBytes hn),dC⟩
    .cases e
theorem Sa(w:World)(x:Addr)(t:TypeId)(k:Addr)(v:Value):w.viewStore P x t k v false=(do
  if !tight P P.depth t then Except.error "memory seen as another type: a store through a type with padding"
  let (c,e,frozen,first,like,cells) ← w.seen P x t k false
  let some bytes:=v.bytes?|Except.error "memory seen as another type: a value that is no plain data"
  if some bytes.length≠like.bytes?.map (·.length) then Except.error "memory seen as another type: a value of another size"
  let c ← cells.foldlM (LA frozen first bytes) c
  pure ({w with heap:=w.heap.setIfInBounds x.block (.cells c e frozen)},cells.map λ(i,_,_)=>{block:=x.block,off:=i})):=rfl
theorem PY{u w u':World}{x x' k:Addr}{t:TypeId}{v v':Value}{l:List Addr}(hr:WR P r u w)(hx:r.A x x')(hk:k'.off=k.off)(hks:k'.spot=k.spot)(hv:VR r v v')(h:u.viewStore P x t k v false=.ok (u',l)):
  ∃w' l',w.viewStore P x' t k' v' false=.ok (w',l')/\WR P r u' w'/\EI r r w w'/\∀a∈l',a.block=x'.block/\r.M x'.block:=by
 rw[Sa] at h ⊢
 simp only[bind,Except.bind,pure,Except.pure] at h ⊢
 split at h
 .cases h
 .rename_i ht;rw[if_neg ht];cases hs:u.seen P x t k false with
  | error m=>rw[hs] at h;cases h
  | ok q =>
   obtain⟨c,e,fr,first,a2,cells⟩:=q;obtain⟨hu,_,c',a3,a0,hw⟩:=RX hr hx hk hks hs;rw[hs] at h;rw[hw,hv.bytes];simp only at h ⊢
   cases hb:v.bytes? with
   | none=>rw[hb] at h;cases h
   | some bytes =>
    rw[hb] at h;simp only at h ⊢
    split at h
    .cases h
    .rename_i hl;rw[if_neg hl];cases hf:cells.foldlM (LA fr first bytes) c with
     | error m=>rw[hf] at h;cases h
     | ok c1 =>
      rw[hf] at h;cases h
      cases hr.at hx.b with
      | view y y' t' ho hb' hu' hw' hy _=>rw[hu] at hu';cases hu'
      | num y y' t' ho hb' hu' hw' hy=>rw[hu] at hu';cases hu'
      | cells d d' e' f' ho hb' hu' hw' hff hc =>
       rw[hu] at hu';cases hu'
       rw[a0] at hw';cases hw'
       obtain⟨a4,h1,h2,h3⟩:=RZ AdO cells hc hf;rw[h1];obtain⟨k1,k2⟩:=hr.set ho (o:=.cells c1 e fr) (o':=.cells a4 e fr) (.cells h2 (by rw[h3];exact hff)) dC;rw[hb'];refine⟨_,_,rfl,k1,k2,λa ha=>?_⟩;obtain⟨z,_,rfl⟩:=List.mem_map.1 ha;exact⟨rfl,x.block,ho,rfl⟩
      | low d e' f' hvv hb' hl' hu' hw' hc =>
       rw[hu] at hu';cases hu'
       cases cells with
       | cons z zs =>
        exfalso
        rw[List.foldlM_cons] at hf
        have:LA (0,c.size) first bytes c z≠.ok c1/\∀q,LA (0,c.size) first bytes c z≠.ok q:=by
         have a1:∀q,LA (0,c.size) first bytes c z≠.ok q:=λq e=>by
          unfold LA at e;simp only[bind,Except.bind,pure,Except.pure] at e;split at e
          .cases e
          .grind
         exact⟨a1 _,a1⟩
        cases hz:LA (0,c.size) first bytes c z with
        | error m=>rw[hz] at hf;cases hf
        | ok q=>exact this.2 q hz
       | nil =>
        cases hf
        rw[hb'] at a0 ⊢
        rw[a0] at hw';cases hw'
        have eu:u.heap.setIfInBounds x.block (.cells c e (0,c.size))=u.heap:=by
         grind
        have ew:w.heap.setIfInBounds x.block (.cells c e a3)=w.heap:=by
         grind
        refine⟨_,_,rfl,by rw[eu,ew];exact hr,by rw[ew];exact .refl r w,λa ha=>by simp at ha⟩
theorem LB(w:World)(a:Addr)(v:Value){c:Array Value}{f:Nat×Nat}(hs:a.spot=none)(h:w.heap[a.block]?=some (.cells c e f)):w.setCell a v={w with heap:=w.heap.setIfInBounds a.block (.cells (c.setIfInBounds a.off v) e f)}:=by
 unfold World.setCell;rw[modify_eq_set w.heap a.block _ _ h];simp[hs]
theorem RS.store{a a':Addr}{v v':Value}(h:r.A a a')(hv:VR r v v'):RS P r Qt (store a v) (store a' v'):=by
 have a0:(∀w es,(Go.store a v).runT P w es=match w.cell? a with
   | some _=>if w.frozen? a then (.halt (.unsupported (.unsafePointer "a write to bytes that a string shares")) w,es) else (Sem.pure ():Sem Unit).runT P (w.setCell a v) (es.push ⟨.cell a,true,Mode.plain == .atomic⟩)
   | none=>match w.farStore P a v (Mode.plain == .atomic) with
    | .ok (w,touched)=>(Sem.pure ():Sem Unit).runT P w (es++touched.toArray.map (⟨.cell ·,true,Mode.plain == .atomic⟩))
    | .error h=>(.halt h w,es))->(∀w es,(Go.store a' v').runT P w es=match w.cell? a' with
   | some _=>if w.frozen? a' then (.halt (.unsupported (.unsafePointer "a write to bytes that a string shares")) w,es) else (Sem.pure ():Sem Unit).runT P (w.setCell a' v') (es.push ⟨.cell a',true,Mode.plain == .atomic⟩)
   | none=>match w.farStore P a' v' (Mode.plain == .atomic) with
    | .ok (w,touched)=>(Sem.pure ():Sem Unit).runT P w (es++touched.toArray.map (⟨.cell ·,true,Mode.plain == .atomic⟩))
    | .error h=>(.halt h w,es))->RS P r Qt (Go.store a v) (Go.store a' v'):=λhu0 hw0 u w es es' hr x u' eu he=>by
  rw[hu0] at he;rw[hw0];cases hr.at h.b with
  | low c e f hvv hb hl hu hw hc =>
   exfalso
   have cu:u.cell? a=c[a.off]?:=by simp[World.cell?,hu,h.s]
   rw[cu] at he;cases hx:c[a.off]? with
   | none=>rw[hx] at he;simp only[World.farStore,hu] at he;cases he
   | some y =>
    rw[hx] at he;have a2:u.frozen? a=true:=by have:=(D1.1 hx).1;simp[World.frozen?,hu,this]
    simp only[a2,if_true] at he;cases he
  | cells c c' e f ho hb hu hw hf hc =>
   have cu:u.cell? a=c[a.off]?:=by simp[World.cell?,hu,h.s]
   have cw:w.cell? a'=c'[a.off]?:=by simp[World.cell?,hw,h.s',h.off]
   have fu:w.frozen? a'=u.frozen? a:=by simp[World.frozen?,hu,hw,h.off]
   rw[cu] at he;rw[cw,fu];cases hx:c[a.off]? with
   | none=>rw[hx] at he;simp only[World.farStore,hu] at he;cases he
   | some y =>
    rw[hx] at he;obtain⟨y',a1,_⟩:=hc.some hx;rw[a1];simp only at he ⊢
    split at he
    .cases he
    .rename_i hfz;rw[if_neg hfz];cases he
     obtain⟨k1,k2⟩:=hr.set ho (o:=.cells (c.setIfInBounds a.off v) e f) (o':=.cells (c'.setIfInBounds a.off v') e f) (.cells (hc.set a.off hv) (by simpa using hf)) dC;have e1:=LB u a v h.s hu;have e2:=LB w a' v' h.s' hw;rw[h.off,hb] at e2;refine⟨r,(),w.setCell a' v',_,rfl,.refl r,by rw[e1,e2];exact k1,trivial,by rw[e2];exact k2,λe he=>?_⟩;rcases Array.mem_push.1 he with h1|rfl
     .exact .inl h1
     .exact .inr (evM ⟨a.block,ho,hb⟩)
  | num y y' t ho hb hu hw hy =>
   have cu:u.cell? a=none:=by simp[World.cell?,hu]
   rw[cu] at he;simp only[World.farStore,hu] at he;cases he
  | view y y' t ho hb hu hw hy _ =>
   have cu:u.cell? a=none:=by simp[World.cell?,hu]
   have cw:w.cell? a'=none:=by simp[World.cell?,hw]
   rw[cu] at he;rw[cw];simp only[World.farStore,hu,hw] at he ⊢
   cases hl:u.viewStore P y t a v (Mode.plain == .atomic) with
   | error m=>rw[hl] at he;cases he
   | ok q =>
    obtain⟨u1,l⟩:=q;rw[hl] at he;cases he
    obtain⟨w',l',h1,h2,h3,h4⟩:=PY hr hy h.off (by rw[h.s,h.s']) hv hl;have h1:w.viewStore P y' t a' v' (Mode.plain == .atomic)=.ok (w',l'):=h1;rw[h1];refine⟨r,(),w',_,rfl,.refl r,h2,trivial,h3,λe he=>?_⟩;rcases Array.mem_append.1 he with h5|h5
    .exact .inl h5
    .simp only[List.map_toArray,List.mem_toArray,List.mem_map] at h5;obtain⟨z,hz,rfl⟩:=h5;exact .inr (evM (by rw[(h4 z hz).1];exact (h4 z hz).2))
 cases hv with
 | agg=>exact λu w es es' hr x u' eu he=>by cases he
 | tuple=>exact λu w es es' hr x u' eu he=>by cases he
 | _=>exact a0 (λ_ _=>rfl) (λ_ _=>rfl)
end
section
variable {P:Program} {α β:Type}
def E7(P:Program)(s:Sem α):Prop:=∀w es a w' es',s.runT P w es≠(.ok a w',es')
theorem E7.halt(k:Halt):E7 P (Sem.halt k:Sem α):=λw es a w' es' h=>by cases h
theorem E7.bind{s:Sem α}{f:α->Sem β}(h:∀a,E7 P (f a)):E7 P (s >>= f):=λw es a w' es' he=>by
 have he:(s.bind f).runT P w es=_:=he;rw[Sem.runT_bind'] at he;match hs:s.runT P w es,he with
 | (.ok b w1,e1),he=>exact h b _ _ _ _ _ he
 | (.halt b w1,e1),he=>cases he
theorem E7.program{f:Program->Sem α}(h:E7 P (f P)):E7 P (program >>= f):=λw es a w' es' he=>h w es a w' es' he
theorem J7(e:RuntimeError):E7 P (runtimePanic e:Sem α):=by
 unfold runtimePanic;refine E7.program ?_;dsimp only
 split<;>first|exact E7.halt _|exact E7.bind λ_=>E7.halt _|exact E7.bind λ_=>E7.bind λ_=>E7.halt _
theorem AZ(k:IntKind)(x y:Int)(c:BoundsCode):E7 P (boundsPanic k x y c:Sem α):=by
 unfold boundsPanic;dsimp only
 split
 iterate 2 .exact E7.bind λ_=>J7 _
variable {r:Rn} {A:Rn->α->β->Prop}
theorem RS.never{s s'}(h:E7 P s):RS P r A s s':=λ_u _w _es _es' _hr _a _u' _eu he=>absurd he (h _ _ _ _ _)
end
section
variable {P:Program} {r:Rn} {v v' x x':Value} {a a':Addr} {c c':Array Value}
theorem RS.asIntOf(h:VR r v v'):RS P r Qe (asIntOf v) (asIntOf v'):=by cases h<;>first|exact .pure rfl|exact .halt
theorem RS.asInt(h:VR r v v'):RS P r Qe (asInt v) (asInt v'):=RS.bind (RS.asIntOf h) λ_ _ _ _ h=>by cases h;exact .pure rfl
theorem RS.asBool(h:VR r v v'):RS P r Qe (asBool v) (asBool v'):=by cases h<;>first|exact .pure rfl|exact .halt
theorem RS.sure(h:VR r v v'):RS P r Qa (Instr.sureAddr v) (Instr.sureAddr v'):=by
 cases h with
 | ptr h=>exact .pure h
 | _=>exact .halt
theorem RS.asAddr(h:VR r v v'):RS P r Qa (asAddr v) (asAddr v'):=by
 cases h with
 | ptr h=>exact .pure h
 | ptr0=>exact RS.never (s:=runtimePanic .nilDeref) (J7 _)
 | _=>exact .halt
theorem RS.loads:∀(n i:Nat) {r:Rn} {a a':Addr} {c c':Array Value},r.A a a'->F1 r c c'->RS P r Qc (loadCellsFrom a i n c) (loadCellsFrom a' i n c')
 | 0,_,_,_,_,_,_,_,hc=>.pure hc
 | n+1,i,_,_,_,_,_,ha,hc=>RS.bind (RS.load (ha.add i)) λ_ _ _ k hv=>RS.loads n _ (ha.mono k) ((hc.mono k).push hv)
theorem RS.loadCells(ha:r.A a a')(n:Nat):RS P r Qc (loadCells a n) (loadCells a' n):=RS.loads n 0 ha .nil
theorem RS.stores:∀(l l':List Value)(i:Nat) {r:Rn} {a a':Addr},r.A a a'->l.length=l'.length->(∀(i:Nat)(v v':Value),l[i]?=some v->l'[i]?=some v'->VR r v v')->RS P r Qt (storeCells a l i) (storeCells a' l' i)
 | [],[],_,_,_,_,_,_,_=>.pure trivial
 | [],_::_,_,_,_,_,_,hl,_=>by simp at hl
 | _::_,[],_,_,_,_,_,hl,_=>by simp at hl
 | v::l,v'::l',i,_,_,_,ha,hl,h=>RS.bind (RS.store (ha.add i) (h 0 v v' rfl rfl)) λ_ _ _ k _=>RS.stores l l' _ (ha.mono k) (by grind) λj x x' h1 h2=>(h (j+1) x x' sO sO).mono k
theorem RS.storeCells(ha:r.A a a')(h:F1 r c c'):RS P r Qt (storeCells a c.toList) (storeCells a' c'.toList) :=
 RS.stores _ _ 0 ha (by simpa using h.size) λi x x' h1 h2=>h.get i x x' (by simpa using h1) (by grind)
theorem RS.loadVar(t:TypeId)(ha:r.A a a'):RS P r Qv (loadVar t a) (loadVar t a'):=by
 unfold Go.loadVar;refine RS.bind (RS.isAgg t) λr1 b b' k1 h=>?_;cases h
 by_cases hb:b=true
 .rw[if_pos hb,if_pos hb];refine RS.bind (RS.size t) λr2 n n' k2 h=>?_;cases h
  exact RS.bind (RS.loadCells ((ha.mono k1).mono k2) n) λr3 c c' k3 hc=>.pure (VR.agg' hc)
 .rw[if_neg hb,if_neg hb];exact RS.load (ha.mono k1)
theorem RS.storeVar(t:TypeId)(ha:r.A a a')(hv:VR r v v'):RS P r Qt (storeVar t a v) (storeVar t a' v'):=by
 unfold Go.storeVar;refine RS.bind (RS.size t) λr1 n n' k1 h=>?_;cases h
 rw[hv.cells.size];by_cases hb:v'.cells.size≠n
 .rw[if_pos hb,if_pos hb];exact RS.bind (A:=Qt) RS.halt λr2 _ _ k2 _=>RS.storeCells ((ha.mono k1).mono k2) ((hv.cells.mono k1).mono k2)
 .rw[if_neg hb,if_neg hb];exact RS.storeCells (ha.mono k1) (hv.cells.mono k1)
theorem RS.loadAt(t:TypeId)(h:VR r x x'):RS P r Qv (Instr.loadAt t x) (Instr.loadAt t x'):=RS.bind (RS.sure h) λ_ _ _ _ ha=>RS.loadVar t ha
theorem RS.storeAt(t:TypeId)(h:VR r x x')(hv:VR r v v'):RS P r Qt (Instr.storeAt t x v) (Instr.storeAt t x' v'):=RS.bind (RS.sure h) λ_ _ _ k ha=>RS.storeVar t ha (hv.mono k)
theorem RS.box(t:TypeId)(h:VR r x x'):RS P r Qv (Instr.box t x) (Instr.box t x'):=RS.bind (RS.newVar h) λ_ _ _ _ ha=>.pure (.ptr ha)
theorem RS.alloc{t:TypeId}(h:JQ P t=true):RS P r Qv (Instr.alloc t true (.tuple #[])) (Instr.alloc t true (.tuple #[])) :=
 RS.bind (RS.zero h) λ_ _ _ _ hz=>RS.bind (RS.newVar hz) λ_ _ _ _ ha=>.pure (.ptr ha)
def fOk(P:Program)(s:TypeId)(f:Nat):Bool:=match P.underlying s with
 | some (.struct fs)=>(match fs[f]? with|some x=>(match P.info? x.type with|some i=>i.size != 0|none=>true)|none=>true)
 | _=>true
theorem RS.undK(t:TypeId):RS P r (λ_ d d'=>d'=d/\P.underlying t=some d) (underlying t) (underlying t):=by
 unfold underlying;refine RS.program ?_;split
 .rename_i d hd;exact .pure ⟨rfl,hd⟩
 .exact .halt
theorem RS.fieldAt{s:TypeId}(hf:fOk P s f=true)(h:VR r x x'):RS P r Qv (Instr.fieldAt s x f) (Instr.fieldAt s x' f):=by
 unfold Instr.fieldAt;refine RS.bind (RS.undK s) λr1 d d' k1 hd=>?_;obtain⟨rfl,hd⟩:=hd;unfold fOk at hf;rw[hd] at hf;split
 .rename_i fields;simp only at hf;split
  .rename_i fl hfl;rw[hfl] at hf;refine RS.bind (RS.sure (h.mono k1)) λr2 a a' k2 ha=>?_;unfold fieldPlace sizeOf;refine RS.bind (A:=Qa) ?_ λr3 a a' _ ha=>.pure (.ptr ha);refine RS.bind (A:=λ_ n n'=>n'=n/\n≠0) (RS.bind (RS.info fl.type) λr3 i i' _ hi=>?_) λr3 n n' k3 hn=>?_
   .obtain⟨rfl,hi⟩:=hi;simp only[hi] at hf;exact .pure ⟨rfl,by simpa using hf⟩
   .obtain⟨rfl,hn⟩:=hn;rw[if_neg hn,if_neg hn];exact .pure ((ha.mono k3).add _)
  .exact .halt
 .exact .halt
theorem RS.indexAt(t:TypeId)(h:VR r x x')(hi:VR r v v'):RS P r Qv (Instr.indexAt t x v) (Instr.indexAt t x' v'):=by
 unfold Instr.indexAt;refine RS.bind (RS.asIntOf hi) λr1 q q' k1 hq=>?_;cases hq
 obtain⟨kk,i⟩:=q;dsimp only
 refine RS.bind (RS.und t) λr2 d d' k2 hd=>?_;cases hd
 have a0:∀{r2:Rn} (base base':Option Addr) (len:Nat) (elem:TypeId),(base=none/\base'=none\/∃a a',base=some a/\base'=some a'/\r2.A a a')->RS P r2 Qv (do
   let tiny:=len<=1&&(match ← underlying t with | .array ..=>true|_=>false)
   match base with
   | some a =>
    if 0<=i/\i<len then Pure.pure (Value.pointer (some (a.add (i.toNat*(← sizeOf elem)))))
    else if tiny then unsupported (.noEntry "op/indexAddr.an index out of range at an array of length 0 or 1 (ledger 616)")
    else boundsPanic kk i len .index
   | none=>boundsPanic kk i 0 .index) (do
   let tiny:=len<=1&&(match ← underlying t with | .array ..=>true|_=>false)
   match base' with
   | some a =>
    if 0<=i/\i<len then Pure.pure (Value.pointer (some (a.add (i.toNat*(← sizeOf elem)))))
    else if tiny then unsupported (.noEntry "op/indexAddr.an index out of range at an array of length 0 or 1 (ledger 616)")
    else boundsPanic kk i len .index
   | none=>boundsPanic kk i 0 .index):=λbase base' len elem hb=>by
  refine RS.bind (RS.und t) λr3 d d' k3 hd=>?_;cases hd
  rcases hb with⟨rfl,rfl⟩|⟨a,a',rfl,rfl,ha⟩
  .exact RS.never (AZ _ _ _ _)
  .dsimp only
   by_cases hc:0<=i/\i<(len:Int)
   .rw[if_pos hc,if_pos hc];refine RS.bind (RS.size elem) λr4 n n' k4 hn=>?_;cases hn
    exact .pure (.ptr (((ha.mono k3).mono k4).add _))
   .rw[if_neg hc];repeat' split
    all_goals first|exact .halt|exact RS.never (AZ _ _ _ _)
 have hx:=(h.mono k1).mono k2;cases d with
 | array len elem =>
  dsimp only
  exact RS.bind (RS.sure hx) λr3 a a' k3 ha=>a0 (some a) (some a') len elem (.inr ⟨a,a',rfl,rfl,ha⟩)
 | slice elem =>
  cases hx with
  | sl n c ha=>exact a0 _ _ n elem (.inr ⟨_,_,rfl,rfl,ha⟩)
  | sl0 n c=>exact a0 none none n elem (.inl ⟨rfl,rfl⟩)
  | _=>exact .halt
 | _=>exact .halt
end
section
variable {P:Program} {r:Rn} {v v' x x':Value} {a a':Addr} {c c':Array Value}
theorem RS.sliceBound(h:VR r x x')(y:Nat)(k:BoundsCode):RS P r Qe (Instr.sliceBound x y k) (Instr.sliceBound x' y k):=by
 unfold Instr.sliceBound;refine RS.bind (RS.asIntOf h) λr1 q q' k1 hq=>?_;cases hq
 obtain⟨kk,i⟩:=q;dsimp only
 split
 .exact .pure rfl
 .exact RS.never (AZ _ _ _ _)
inductive OV (r:Rn):Option Value->Option Value->Prop
 | none:OV r none none
 | some {v v':Value} (h:VR r v v'):OV r (some v) (some v')
theorem OV.mono{r r':Rn}(k:r.le r'){o o':Option Value}(h:OV r o o'):OV r' o o':=by
 cases h with
 | none=>exact .none
 | some h=>exact .some (h.mono k)
theorem RS.sliceBounds(is:Bool)(n m:Nat)(h1:OV r lo lo')(h2:OV r hi hi')(h3:OV r mx mx'):RS P r Qe (Instr.sliceBounds is n m lo hi mx) (Instr.sliceBounds is n m lo' hi' mx'):=by
 unfold Instr.sliceBounds;rcases h1 with _|⟨hl⟩<;>rcases h2 with _|⟨hh⟩<;>rcases h3 with _|⟨hm⟩<;>dsimp only
 all_goals (refine RS.bind (A:=Qe) (by first|exact RS.sliceBound sO _ _|exact .pure rfl) (λr1 q q' k1 hq=>?_);cases hq;(try replace hl:=hl.mono k1);(try replace hh:=hh.mono k1);try dsimp only)
 all_goals first|(refine RS.bind (A:=Qe) (by first|exact RS.sliceBound sO _ _|exact .pure rfl) (λr1 q q' k1 hq=>?_);cases hq;(try replace hl:=hl.mono k1);try dsimp only)|exact RS.halt
 all_goals (refine RS.bind (A:=Qe) (by first|exact RS.sliceBound sO _ _|exact .pure rfl) (λr1 q q' k1 hq=>?_);cases hq;try dsimp only)
 all_goals exact .pure rfl
theorem RS.slice(t:TypeId)(h:VR r x x')(h1:OV r lo lo')(h2:OV r hi hi')(h3:OV r mx mx'):RS P r Qv (Instr.slice t x lo hi mx) (Instr.slice t x' lo' hi' mx'):=by
 unfold Instr.slice;refine RS.bind (RS.und t) λr1 d d' k1 hd=>?_;cases hd
 have hx:=h.mono k1;cases d with
 | string =>
  cases hx with
  | string s =>
   cases h3 with
   | none =>
    refine RS.bind (RS.sliceBounds _ _ _ (h1.mono k1) (h2.mono k1) .none) λr2 q q' k2 hq=>?_;cases hq
    exact .pure (.string _)
   | some _=>exact .halt
  | _=>exact .halt
 | slice elem =>
  cases hx with
  | sl n c ha =>
   refine RS.bind (RS.sliceBounds _ _ _ (h1.mono k1) (h2.mono k1) (h3.mono k1)) λr2 q q' k2 hq=>?_;cases hq
   obtain⟨l,hh,m⟩:=q;dsimp only
   refine RS.bind (RS.size elem) λr3 s s' k3 hs=>?_;cases hs
   refine .pure ?_;have a0:=(ha.mono k2).mono k3;by_cases e:m=l
   .rw[if_pos e,if_pos e];exact .sl _ _ a0
   .rw[if_neg e,if_neg e];exact .sl _ _ (a0.add _)
  | sl0 n c =>
   refine RS.bind (RS.sliceBounds _ _ _ (h1.mono k1) (h2.mono k1) (h3.mono k1)) λr2 q q' k2 hq=>?_;cases hq
   obtain⟨l,hh,m⟩:=q;dsimp only
   refine RS.bind (RS.size elem) λr3 s s' k3 hs=>?_;cases hs
   refine .pure ?_;by_cases e:m=l
   .rw[if_pos e];exact .sl0 _ _
   .rw[if_neg e];exact .sl0 _ _
  | _=>exact .halt
 | pointer arr =>
  dsimp only
  refine RS.bind (RS.asAddr hx) λr2 a a' k2 ha=>?_;refine RS.bind (RS.und arr) λr3 d d' k3 hd=>?_;cases hd
  cases d with
  | array n elem =>
   dsimp only
   refine RS.bind (RS.sliceBounds _ _ _ (((h1.mono k1).mono k2).mono k3) (((h2.mono k1).mono k2).mono k3) (((h3.mono k1).mono k2).mono k3)) λr4 q q' k4 hq=>?_;cases hq
   obtain⟨l,hh,m⟩:=q;dsimp only
   refine RS.bind (RS.size elem) λr5 s s' k5 hs=>?_;cases hs
   refine .pure ?_;have a0:=((ha.mono k3).mono k4).mono k5;by_cases e:m=l
   .rw[if_pos e,if_pos e];exact .sl _ _ a0
   .rw[if_neg e,if_neg e];exact .sl _ _ (a0.add _)
  | _=>exact .halt
 | _=>exact .halt
theorem RS.sliceAt(t:TypeId)(h:VR r x x')(h1:OV r lo lo')(h2:OV r hi hi')(h3:OV r mx mx'):RS P r Qv (Instr.sliceAt t x lo hi mx) (Instr.sliceAt t x' lo' hi' mx'):=by
 unfold Instr.sliceAt;refine RS.bind (RS.und t) λr1 d d' k1 hd=>?_;cases hd
 cases d with
 | array n elem =>
  refine RS.bind (RS.sure (h.mono k1)) λr2 a a' k2 ha=>?_;refine RS.bind (RS.sliceBounds _ _ _ ((h1.mono k1).mono k2) ((h2.mono k1).mono k2) ((h3.mono k1).mono k2)) λr4 q q' k4 hq=>?_;cases hq
  obtain⟨l,hh,m⟩:=q
  refine RS.bind (RS.size elem) λr5 s s' k5 hs=>?_;cases hs
  refine .pure ?_;have a0:=(ha.mono k4).mono k5;by_cases e:m=l
  .rw[if_pos e,if_pos e];exact .sl _ _ a0
  .rw[if_neg e,if_neg e];exact .sl _ _ (a0.add _)
 | _=>exact RS.slice t (h.mono k1) (h1.mono k1) (h2.mono k1) (h3.mono k1)
theorem RS.part(t:TypeId)(h:F1 r c c')(off:Nat):RS P r Qv (part t c off) (part t c' off):=by
 unfold Go.part;refine RS.bind (RS.isAgg t) λr1 b b' k1 hb=>?_;cases hb
 by_cases e:b=true
 .rw[if_pos e,if_pos e];refine RS.bind (RS.size t) λr2 n n' k2 hn=>?_;cases hn
  exact .pure (VR.agg' (((h.mono k1).mono k2).extract _ _))
 .rw[if_neg e,if_neg e];cases hc:c[off]? with
  | none=>exact .halt
  | some v =>
   obtain⟨v',a0,hv⟩:=h.some hc;rw[a0];exact .pure (hv.mono k1)
theorem RS.index(t:TypeId)(h:VR r x x')(hi:VR r v v'):RS P r Qv (Instr.index t x v) (Instr.index t x' v'):=by
 unfold Instr.index;refine RS.bind (RS.asIntOf hi) λr1 q q' k1 hq=>?_;cases hq
 obtain⟨kk,i⟩:=q;dsimp only
 refine RS.bind (RS.und t) λr2 d d' k2 hd=>?_;cases hd
 have hx:=(h.mono k1).mono k2;cases d with
 | string =>
  cases hx with
  | string s =>
   dsimp only
   split
   .exact .pure (.int _ _)
   .exact RS.never (AZ _ _ _ _)
  | _=>exact .halt
 | array n elem =>
  cases hx with
  | agg hs hh =>
   dsimp only
   by_cases e:0<=i/\i<n
   .rw[if_pos e,if_pos e];refine RS.bind (RS.size elem) λr3 s s' k3 hs'=>?_;cases hs'
    exact RS.part elem (F1.mono k3 ⟨hs,hh⟩) _
   .rw[if_neg e];exact RS.never (AZ _ _ _ _)
  | _=>exact .halt
 | _=>exact .halt
theorem RS.extract(h:VR r x x')(i:Nat):RS P r Qv (Instr.extract x i) (Instr.extract x' i):=by
 unfold Instr.extract;cases h with
 | tuple hs hh =>
  rename_i c c';have h:F1 r c c':=⟨hs,hh⟩;dsimp only
  cases hc:c[i]? with
  | none=>exact .halt
  | some v =>
   obtain⟨v',a0,hv⟩:=h.some hc;rw[a0];exact .pure hv
 | _=>exact .halt
theorem RS.makeInterface(t:TypeId)(h:VR r x x'):RS P r Qv (Instr.makeInterface t x) (Instr.makeInterface t x'):=by
 unfold Instr.makeInterface;refine RS.bind (RS.und t) λr1 d d' k1 hd=>?_;cases hd
 split
 .exact .halt
 .exact .pure (.iface t (h.mono k1))
theorem RS.typeAssert(hz:JQ P t2=true)(h:VR r x x')(ok:Bool):RS P r Qv (Instr.typeAssert x t1 t2 ok) (Instr.typeAssert x' t1 t2 ok):=by
 unfold Instr.typeAssert;refine RS.bind (RS.und t2) λr1 d d' k1 hd=>?_;cases hd
 have hx:=h.mono k1
 have a1:∀{r:Rn} {v v':Value},VR r v v'->RS P r Qv (Pure.pure (if ok=true then .tuple #[v,.bool true] else v)) (Pure.pure (if ok=true then .tuple #[v',.bool true] else v')):=λhv=>by
  refine .pure ?_;by_cases e:ok=true
  .rw[if_pos e,if_pos e];exact VR.tuple' ((F1.one hv).push (.bool true))
  .simp_all
 have a0:∀{r:Rn} (a b:Option TypeId) (s:String),RS P r Qv (if ok=true then (do Pure.pure (.tuple #[← zeroValue t2,.bool false])) else runtimePanic (.typeAssertion a b t2 s)) (if ok=true then (do Pure.pure (.tuple #[← zeroValue t2,.bool false])) else runtimePanic (.typeAssertion a b t2 s)):=λa b s=>by
  by_cases e:ok=true
  .rw[if_pos e];exact RS.bind (RS.zero hz) λ_ _ _ _ hv=>.pure (VR.tuple' ((F1.one hv).push (.bool false)))
  .rw[if_neg e];exact RS.never (J7 _)
 dsimp only
 cases hx with
 | nilIface=>cases d<;>exact a0 _ _ _
 | iface t hv =>
  cases d
  case interface want =>
   dsimp only
   refine RS.bind (RS.info t) λr2 i i' k2 hi=>?_;obtain⟨rfl,_⟩:=hi;split
   .exact a1 (.iface t (hv.mono k2))
   .exact a0 _ _ _
  all_goals
   dsimp only
   by_cases e:t=t2
   iterate 2 .simp_all
 | _=>cases d<;>exact .halt
end
section
variable {P:Program} {r:Rn} {v v' x x' y y':Value} {a a' b b':Addr} {c c':Array Value}
theorem E7.seq{α β:Type}{s:Sem α}{f:α->Sem β}(h:E7 P s):E7 P (s >>= f):=λw es a w' es' he=>by
 have he:(s.bind f).runT P w es=_:=he;rw[Sem.runT_bind'] at he;match hs:s.runT P w es,he with
 | (.ok b w1,e1),he=>exact h _ _ _ _ _ hs
 | (.halt b w1,e1),he=>cases he
theorem RS.viewAt{b b':Nat}(h:r.B b b'):RS P r (λr o o'=>(o=none/\o'=none)\/∃a a' t,o=some (a,t)/\o'=some (a',t)/\r.A a a') (viewAt b) (viewAt b'):=by
 unfold Go.viewAt;refine RS.bind (RS.shape h) λr1 s s' k1 hs=>?_;cases hs
 by_cases e:s.isSome=true
 .rw[if_pos e,if_pos e];exact .pure (.inl ⟨rfl,rfl⟩)
 .rw[if_neg e,if_neg e];refine RS.bind (RS.getObj (h.mono k1)) λr2 o o' k2 ho=>?_;cases ho with
  | view h=>exact .pure (.inr ⟨_,_,_,rfl,rfl,h⟩)
  | num h=>exact .pure (.inl ⟨rfl,rfl⟩)
theorem RS.numberAt{b b':Nat}(h:r.B b b'):RS P r (λr o o'=>(o=none/\o'=none)\/∃a a' l,o=some (a,l)/\o'=some (a',l)/\r.A a a') (numberAt b) (numberAt b'):=by
 unfold Go.numberAt;refine RS.bind (RS.shape h) λr1 s s' k1 hs=>?_;cases hs
 by_cases e:s.isSome=true
 .rw[if_pos e,if_pos e];exact .pure (.inl ⟨rfl,rfl⟩)
 .rw[if_neg e,if_neg e];refine RS.bind (RS.getObj (h.mono k1)) λr2 o o' k2 ho=>?_;cases ho with
  | view h=>exact .pure (.inl ⟨rfl,rfl⟩)
  | num h=>exact .pure (.inr ⟨_,_,_,rfl,rfl,h⟩)
theorem RS.behind(h:r.A a a'):RS P r (λr q q'=>r.A q.1 q'.1/\q'.2=q.2) (behindNumber a) (behindNumber a'):=by
 unfold Go.behindNumber;refine RS.bind (RS.numberAt h.b) λr1 o o' k1 ho=>?_;rcases ho with⟨rfl,rfl⟩|⟨x,x',l,rfl,rfl,hx⟩
 .exact .pure ⟨h.mono k1,rfl⟩
 .exact .pure ⟨hx,rfl⟩
theorem RS.asNumber(h:r.A a a')(l:Bool):RS P r Qv (asNumber a l) (asNumber a' l):=RS.bind (RS.newN h) λ_ _ _ _ hb=>.pure (.ptr ⟨hb,rfl,rfl,rfl⟩)
theorem RS.noView(h:r.A a a'):RS P r Qt (noView a) (noView a'):=by
 unfold Go.noView;refine RS.bind (RS.viewAt h.b) λr1 o o' k1 ho=>?_;rcases ho with⟨rfl,rfl⟩|⟨x,x',l,rfl,rfl,hx⟩
 .exact .pure trivial
 .exact .halt
theorem RS.byteOf(h:r.A a a'):RS P r Qe (byteOf a) (byteOf a'):=by
 unfold Go.byteOf;rw[h.s,h.s'];dsimp only
 refine RS.program ?_;refine RS.bind (RS.noView h) λr1 _ _ k1 _=>?_;refine RS.bind (RS.shape (h.mono k1).b) λr2 o o' k2 ho=>?_;cases ho
 rw[h.off];split
 .try dsimp only
  split
  .exact .pure rfl
  .split
   .exact .pure rfl
   .exact .halt
 .exact .halt
theorem RS.unsafeAdd(t:TypeId)(h:VR r x x')(hy:VR r y y'):RS P r Qv (Builtin.unsafeAdd_ #[] t #[x,y]) (Builtin.unsafeAdd_ #[] t #[x',y']):=by
 unfold Builtin.unsafeAdd_;cases h with
 | ptr0 =>
  dsimp only
  refine RS.bind (RS.asInt hy) λr1 n n' k1 hn=>?_;refine RS.never ?_;split
  .exact E7.halt _
  .split<;>exact E7.halt _
 | ptr ha =>
  dsimp only
  refine RS.bind (RS.asInt hy) λr1 n n' k1 hn=>?_;cases hn
  by_cases e:n=0
  .rw[if_pos e,if_pos e];refine RS.bind (RS.viewAt (ha.mono k1).b) λr2 o o' k2 ho=>?_;rcases ho with⟨rfl,rfl⟩|⟨x,x',l,rfl,rfl,hx⟩
   .exact .pure (.ptr ((ha.mono k1).mono k2))
   .exact .halt
  .rw[if_neg e];split
   .exact .halt
   .refine RS.bind (RS.shape (ha.mono k1).b) λr2 o o' k2 ho=>?_;cases ho
    split
    .refine RS.program ?_;rw[ha.off];split
     .exact .pure (.ptr ⟨((ha.mono k1).mono k2).b,rfl,ha.s,ha.s'⟩)
     .exact .halt
    .exact .halt
 | _=>exact .halt
theorem RS.movedNumber(t:TypeId)(h:VR r x x')(hy:VR r y y'):RS P r Qv (movedNumber t x y) (movedNumber t x' y'):=by
 unfold Go.movedNumber;refine RS.bind (RS.und t) λr1 d d' k1 hd=>?_;cases hd
 have hx:=h.mono k1;have hy:=hy.mono k1;have a2:∀{x x':Value},VR r1 x x'->RS P r1 Qv (Builtin.unsafeAdd_ #[] t #[x,y]) (Builtin.unsafeAdd_ #[] t #[x',y']):=λh=>RS.unsafeAdd t h hy;cases hx with
 | ptr ha =>
  rename_i a0 a0'
  have a1:RS P r1 Qv (behindNumber a0 >>= λq=>Builtin.unsafeAdd_ #[] t #[.pointer (some q.1),y] >>= λz=>match z with | .pointer (some b)=>Go.asNumber b q.2|v=>Pure.pure v)
    (behindNumber a0' >>= λq=>Builtin.unsafeAdd_ #[] t #[.pointer (some q.1),y'] >>= λz=>match z with | .pointer (some b)=>Go.asNumber b q.2|v=>Pure.pure v):=by
   refine RS.bind (RS.behind ha) λr2 q q' k2 hq=>?_;obtain⟨q1,q2⟩:=q;obtain⟨a3,a4⟩:=q';obtain⟨h1,h2⟩:=hq;cases h2
   dsimp only
   refine RS.bind (RS.unsafeAdd t (.ptr h1) (hy.mono k2)) λr3 z z' k3 hz=>?_;cases hz with
   | ptr hz=>exact RS.asNumber hz _
   | agg hs hh=>exact .pure (.agg hs hh)
   | tuple hs hh=>exact .pure (.tuple hs hh)
   | sl n c hz=>exact .pure (.sl n c hz)
   | iface t hz=>exact .pure (.iface t hz)
   | _=>exact .pure (by constructor)
  cases d<;>first|exact a1|exact RS.never (E7.seq (E7.halt _))
 | ptr0=>have a1:=a2 .ptr0;cases d<;>first|exact a1|exact RS.never (E7.seq (E7.halt _))
 | agg hs hh=>have a1:=a2 (.agg hs hh);cases d<;>first|exact a1|exact RS.never (E7.seq (E7.halt _))
 | tuple hs hh=>have a1:=a2 (.tuple hs hh);cases d<;>first|exact a1|exact RS.never (E7.seq (E7.halt _))
 | sl n c hz=>have a1:=a2 (.sl n c hz);cases d<;>first|exact a1|exact RS.never (E7.seq (E7.halt _))
 | iface t' hz=>have a1:=a2 (.iface t' hz);cases d<;>first|exact a1|exact RS.never (E7.seq (E7.halt _))
 | bool b=>have a1:=a2 (.bool b);cases d<;>first|exact a1|exact RS.never (E7.seq (E7.halt _))
 | int k n=>have a1:=a2 (.int k n);cases d<;>first|exact a1|exact RS.never (E7.seq (E7.halt _))
 | string s=>have a1:=a2 (.string s);cases d<;>first|exact a1|exact RS.never (E7.seq (E7.halt _))
 | sl0 n c=>have a1:=a2 (.sl0 n c);cases d<;>first|exact a1|exact RS.never (E7.seq (E7.halt _))
 | map0=>have a1:=a2 .map0;cases d<;>first|exact a1|exact RS.never (E7.seq (E7.halt _))
 | chan0=>have a1:=a2 .chan0;cases d<;>first|exact a1|exact RS.never (E7.seq (E7.halt _))
 | fn f=>have a1:=a2 (.fn f);cases d<;>first|exact a1|exact RS.never (E7.seq (E7.halt _))
 | nilFunc=>have a1:=a2 .nilFunc;cases d<;>first|exact a1|exact RS.never (E7.seq (E7.halt _))
 | nilIface=>have a1:=a2 .nilIface;cases d<;>first|exact a1|exact RS.never (E7.seq (E7.halt _))
theorem RS.movedPointer(t:TypeId)(h:VR r x x')(hy:VR r y y'):RS P r Qv (movedPointer t x y) (movedPointer t x' y'):=by
 unfold Go.movedPointer;cases h with
 | ptr ha =>
  dsimp only
  refine RS.bind (RS.numberAt ha.b) λr1 o o' k1 ho=>?_;rcases ho with⟨rfl,rfl⟩|⟨x,x',l,rfl,rfl,hx⟩
  .exact RS.unsafeAdd t (.ptr (ha.mono k1)) (hy.mono k1)
  .exact .halt
 | agg hs hh=>exact RS.unsafeAdd t (.agg hs hh) hy
 | tuple hs hh=>exact RS.unsafeAdd t (.tuple hs hh) hy
 | sl n c hz=>exact RS.unsafeAdd t (.sl n c hz) hy
 | iface t' hz=>exact RS.unsafeAdd t (.iface t' hz) hy
 | _=>exact RS.unsafeAdd t (by constructor) hy
theorem Xa{u w:World}(hr:WR P r u w){b c b' c':Nat}(h:r.B b b')(k:r.B c c'):(b'==c')=(b==c):=by
 have a0:b'=c'↔b=c:=by
  rcases h with⟨h1,rfl⟩|⟨h1,h2,rfl⟩<;>rcases k with⟨k1,rfl⟩|⟨k1,k2,rfl⟩
  .exact Iff.rfl
  .have:=(hr.vis _ h1).1;have:=(hr.img c ⟨k1,k2⟩).1;exact⟨λe=>oM,λe=>oM⟩
  .have:=(hr.vis _ k1).1;have:=(hr.img b ⟨h1,h2⟩).1;exact⟨λe=>oM,λe=>oM⟩
  .exact⟨hr.inj b c ⟨h1,h2⟩ ⟨k1,k2⟩,λe=>by rw[e]⟩
 grind
theorem RS.look{α β:Type}{A:Rn->α->β->Prop}{s:Sem α}{s':Sem β}(h:∀u w,WR P r u w->RS P r A s s'):RS P r A s s':=λu w es es' hr=>h u w hr u w es es' hr
theorem Af1{u w:World}(hr:WR P r u w){n:Nat}(hn:n<=r.Low){b b':Nat}(h:r.B b b'):(b'<n↔b<n):=by
 rcases h with⟨h1,rfl⟩|⟨h1,h2,rfl⟩
 .exact Iff.rfl
 .have:=(hr.img b ⟨h1,h2⟩).1;exact⟨λe=>oM,λe=>oM⟩
theorem RS.twoPlaces(hg:P.globals.size<=r.Low)(h:r.A a a')(k:r.A b b'):RS P r Qe (Op.twoPlaces a b) (Op.twoPlaces a' b'):=by
 unfold Op.twoPlaces;refine RS.look λu w hr=>?_;refine RS.program ?_;have e1:(a'.block != b'.block)=(a.block != b.block):=by unfold bne;rw[Xa hr h.b k.b]
 have e2:decide (a'.block≥P.globals.size)=decide (a.block≥P.globals.size):=by have:=Af1 hr hg h.b;by_cases e:a.block<P.globals.size<;>simp<;>omega
 rw[e1,e2];split
 .exact .halt
 .refine RS.bind (RS.byteOf h) λr1 n n' k1 hn=>?_;cases hn
  refine RS.bind (RS.byteOf (k.mono k1)) λr2 n n' k1 hn=>?_;cases hn
  exact .pure rfl
theorem RS.addrSub(hg:P.globals.size<=r.Low)(k:IntKind)(h:r.A a a')(h2:r.A b b'):RS P r Qv (Op.addrSub k a b) (Op.addrSub k a' b'):=RS.bind (RS.twoPlaces hg h h2) λ_ _ _ _ h=>by cases h;exact .pure (.int _ _)
theorem RS.addrCmp(hg:P.globals.size<=r.Low)(op:BinOp)(h:r.A a a')(h2:r.A b b'):RS P r Qv (Op.addrCmp op a b) (Op.addrCmp op a' b'):=RS.bind (RS.twoPlaces hg h h2) λ_ _ _ _ h=>by cases h;cases op<;>first|exact .pure (.bool _)|exact .halt
theorem RS.addrMod(k:IntKind)(h:r.A a a')(n:Int):RS P r Qv (Op.addrMod k a n) (Op.addrMod k a' n):=by
 unfold Op.addrMod;refine RS.bind (RS.shape h.b) λr1 o o' k1 ho=>?_;cases ho
 split
 .refine RS.bind (RS.info _) λr2 i i' k2 hi=>?_;obtain⟨rfl,_⟩:=hi;dsimp only
  split
  .exact .halt
  .refine RS.bind (RS.byteOf ((h.mono k1).mono k2)) λr3 n n' k1 hn=>?_;cases hn
   exact .pure (.int _ _)
 .exact .halt
end
end Bd
namespace Bd
open Go.Conc Go.ConcN Go.RowKit Go.Conc.Lib Go.ConcR.Gen Go.ConcN.Gen
open Go.ConcR (KK wgBlock WgAt stA smA rd wr mk Payload DC0)
theorem AbL{P:Program}{main:Bool}{D D':World->World->Array Event->Prop}
  (hR:∀w w',I w->R' w w'->R w w'/\I w') (hD:∀w w' es,I w->D w w' es->D' w w' es/\I w') (hS:∀g w,I w->Stop g w->Stop' g w) {n:Nat} :
  ∀{g:Goroutine} {w:World},I w->Goes P main R D Stop n g w->Goes P main R' D' Stop' n g w:=by
 induction n with
 | zero=>exact λhi h w₁ qb=>hS _ _ (hR _ _ hi qb).2 (h w₁ (hR _ _ hi qb).1)
 | succ n ih =>
  intro g w hi h;rcases h with h|⟨hs,h⟩
  .exact .inl λw₁ qb=>hS _ _ (hR _ _ hi qb).2 (h w₁ (hR _ _ hi qb).1)
  .refine .inr ⟨hs,λw₁ qb=>?_⟩;have h2:=h w₁ (hR _ _ hi qb).1;have h3:=(hR _ _ hi qb).2;revert h2
   cases stepG P main g w₁<;>simp only[GStep.goes,imp_self]
   exact λ⟨d,x⟩=>⟨(hD _ _ _ h3 d).1,ih (hD _ _ _ h3 d).2 x⟩
theorem Xv{p:F5}{M:Nat->Prop}{e:Event}(h:EvW p.Wg No No 1 e):FP p M e:=by
 refine⟨λx hx=>?_,h.2⟩;rcases (h.1 0 "").2 x hx with h1|h1|h1
 .exact .inl h1
 .exact h1.elim
 .exact h1.1.elim
theorem ZJ{w}{v}(h:w.heap[C]?=some (Kz [v] 3)):PayAt C 1 w:=⟨#[v],h,rfl⟩
theorem AgW{L:WgLink}{p:F5}(H:WgLib p.P L)(hty:p.ty=L.tWg){v:Value}{M:Nat->Prop}(hC:M C){c:Frame}{cs:List Frame}{qt:Nat}(hcm:c.mode=.returning)(hT:QuitsD p.P qt 0 (G c cs))
  (w:World) (hl:WgLive p.ty p.Wg w) (hv:w.heap[C]?=some (Kz [v] 3)) :
  Goes p.P false (RK p M) (DK p M) (AtR0 p.P p.ty p.Wg C 1 0 1 v) 23 (G ((baseD L.done).at ⟨#[Pz p.Wg 0,undef,undef,undef],[]⟩ [.code (body_done L)]) (c::cs)) w:=by
 have hd:=doneN (P:=p.P) H (Own:=No) (Rd:=No) (Wg:=p.Wg) (C:=C) (n:=1) (Low:=0) (k:=1) (val:=v) hcm hT w ⟨by rw[← hty];exact hl,by show AS w C 0 v;simp[World.cell?,hv]⟩;rw[← hty] at hd;refine AbL (I:=PayAt C 1) (λw w' hi hr=>?_) (λw w' es hi hD=>?_) (λg w _ h=>h) (ZJ hv) hd
 .obtain⟨cs,h1,h2⟩:=hi;exact⟨hr.rw hC,cs,(hr.own C hC).trans h1,h2⟩
 .obtain⟨ha,he⟩:=hD;have hp:=ha.pay hi;obtain⟨cs,h1,h2⟩:=hp;exact⟨⟨⟨ha.tape,ha.os,ha.output,λk=>k.one ha.block h1 dC,ha.size,λb hb=>ha.block b (λe=>hb (e ▸ hC))⟩,λe hx=>Xv (he e hx)⟩,cs,h1,h2⟩
end Bd
section
theorem Od:∀(l m:List Nat),l.Nodup->(∀x∈l,x∈m)->l.length<=m.length
 | [],_,_,_=>Nat.zero_le _
 | a::l,m,hd,hs=>by
  have ha:a∈m:=hs a dC;have h1:=Od l (m.erase a) (List.nodup_cons.1 hd).2 λx hx=>(List.mem_erase_of_ne (λe=>(List.nodup_cons.1 hd).1 (by rw[← e];exact hx))).2 (hs x (by simp[hx]));have h2:=List.length_erase_of_mem ha;have h3:0<m.length:=List.length_pos_of_mem ha;rw[List.length_cons];omega
def AL(ops:Array Oper):List Nat->List Nat->Prop
 | done,[]=>∀i,i<ops.size->i∈done
 | done,i::l=>i<ops.size/\i∉done/\(∀o,ops[i]?=some o->∀e∈o.after,Region.binds .any e=true->e.on∈done)/\AL ops (i::done) l
def MQ(ops:Array Oper):Bool:=(List.range ops.size).all λi=>((ops[i]?).map λo=>o.after.all λe=>!Region.binds .any e || decide (e.on<i)).getD true
theorem Aft{ops:Array Oper}(h:MQ ops=true){i:Nat}{o:Oper}(ho:ops[i]?=some o){e:Edge}(he:e∈o.after)(hb:Region.binds .any e=true):e.on<i:=by
 have hi:i<ops.size:=(D1.1 ho).1;have h1:=List.all_eq_true.1 h i (List.mem_range.2 hi);rw[ho,Option.map_some,Option.getD_some,Array.all_eq_true_iff_forall_mem] at h1;have h2:=h1 e he;rw[hb] at h2;simpa using h2
theorem Pc{ops:Array Oper}{i:Nat}:i∈Region.ready .any ops listed↔i<ops.size/\listed.getD i true=false/\∀o,ops[i]?=some o->∀e∈o.after,Region.binds .any e=true->listed.getD e.on false=true:=by
 unfold Region.ready;rw[List.mem_filter,List.mem_range,Bool.and_eq_true,Bool.not_eq_true'];constructor
 .rintro⟨h1,h2,h3⟩;refine⟨h1,h2,λo ho e he hb=>?_⟩;rw[ho,Option.map_some,Option.getD_some,Array.all_eq_true_iff_forall_mem] at h3;have:=h3 e he;rw[hb] at this;simpa using this
 .grind
theorem Vq{ops:Array Oper}(hlow:MQ ops=true):∀(fuel t:Nat)(listed:Array Bool)(done:List Nat),listed.size=ops.size->(∀i,i<ops.size->(listed.getD i true=true↔i∈done))->done.Nodup->(∀i∈done,i<ops.size)->done.length+fuel=ops.size->
  AL ops done (Region.linearise.go .any ops fuel t listed [])
 | 0,t,listed,done,hs,hl,hn,hd,hf=>by
  have e:Region.linearise.go .any ops 0 t listed []=[]:=by simp[Region.linearise.go]
  rw[e];intro i hi;refine Decidable.byContradiction λhx=>?_
  have:=Od (i::done) (List.range ops.size) (List.nodup_cons.2 ⟨hx,hn⟩) λx hx=>List.mem_range.2 (by
   rcases List.mem_cons.1 hx with rfl|hx
   .exact hi
   .exact hd x hx)
  rw[List.length_cons,List.length_range] at this;omega
 | fuel+1,t,listed,done,hs,hl,hn,hd,hf=>by
  have dflt:∀i,i<ops.size->listed.getD i false=listed.getD i true:=λi hi=>by
   simp_all
  have key:∀k,k<=ops.size->(∀j,j<k->j∈done)\/∃j,j∈Region.ready .any ops listed:=λk=>by
   induction k with
   | zero=>exact λ_=>.inl λj hj=>by omega
   | succ k ih =>
    intro hk;rcases ih oM with h|h
    .by_cases hx:k∈done
     .grind
     .refine .inr ⟨k,Pc.2 ⟨oM,?_,λo ho e he hbi=>?_⟩⟩
      .grind
      .have h1:=Aft hlow ho he hbi;rw[dflt _ oM];exact (hl _ oM).2 (h _ h1)
    .exact .inr h
  have some':∃j,j∈Region.ready .any ops listed:=by
   rcases key ops.size (A3 _) with h|h
   .have:=Od (List.range ops.size) done List.nodup_range λx hx=>h x (List.mem_range.1 hx);rw[List.length_range] at this;omega
   .exact h
  simp only[Region.linearise.go]
  change AL ops done (match (Region.ready .any ops listed)[t % (Region.ready .any ops listed).length]? with
   | some i=>Region.linearise.go .any ops fuel (t / (Region.ready .any ops listed).length) (listed.setIfInBounds i true) [i]
   | none=>[].reverse)
  cases hr:Region.ready .any ops listed with
  | nil =>
   obtain⟨j,hj⟩:=some';rw[hr] at hj;simp at hj
  | cons x xs =>
   have a0:t % (x::xs).length<(x::xs).length:=Nat.mod_lt _ dC;rw[A0 a0];simp only[];rw[linearise_go_acc,List.reverse_singleton,List.singleton_append];have hm:(x::xs)[t % (x::xs).length]∈Region.ready .any ops listed:=by rw[hr];exact List.getElem_mem a0
   generalize (x::xs)[t % (x::xs).length]=i at *;obtain⟨r1,r2,r3⟩:=Pc.1 hm
   have a1:i∉done:=λh=>by
    grind
   refine⟨r1,a1,λo ho e he hb=>?_,Vq hlow fuel _ _ (i::done) (by simp[hs]) (λj hj=>?_) (List.nodup_cons.2 ⟨a1,hn⟩) (λj hj=>?_) (by rw[List.length_cons];omega)⟩
   .grind
   .by_cases e:j=i
    .simp_all
    .rw[Array.getD_eq_getD_getElem?,Array.getElem?_setIfInBounds_ne (Ne.symm e),← Array.getD_eq_getD_getElem?,hl j hj];simp[e]
   .grind
theorem MR{P:Program}(hm:P.follows .mixedOrders=true){ops:Array Oper}(hlow:MQ ops=true)(x:Nat):AL ops [] (Region.schedule (P.follows .mixedOrders) ops x):=by
 simp only[Region.schedule,hm,Bool.true_or,if_true];refine Vq hlow _ _ _ [] dC (λi hi=>?_) List.nodup_nil (λi hi=>by simp at hi) dC;rw[Array.getD_eq_getD_getElem?];simp[hi]
def Good(bs:List Ba)(gone:List BA)(k:Nat):Prop:=∃x,bs[k]?=some x/\E1 gone x.nm=false/\JR bs k gone
def Z6(bs:List Ba)(gone:List BA)(n:Int):Prop:=(n=-1/\∀k,k<bs.length->¬Good bs gone k)\/∃k:Nat,n=(k:Int)/\k<bs.length/\Good bs gone k/\∀j,j<k->¬Good bs gone j
theorem Z6.uniq{m n:Int}(h:Z6 bs gone m)(h':Z6 bs gone n):m=n:=by
 rcases h with⟨rfl,h1⟩|⟨k,rfl,hk,hg,hl⟩<;>rcases h' with⟨rfl,h2⟩|⟨j,rfl,hj,gg,gl⟩
 .rfl
 .grind
 .grind
 .grind
inductive Aa (bs:List Ba):Nat->List BA->Prop
 | none:Aa bs 0 []
 | more {n:Nat} {gone:List BA} {k:Nat} {x:Ba}:Aa bs n gone->Z6 bs gone (k:Int)->bs[k]?=some x->Aa bs (n+1) (gone++[x.nm])
theorem Aa.length{n:Nat}(h:Aa bs n gone):gone.length=n:=by
 induction h with
 | none=>rfl
 | more _ _ _ ih=>simp[ih]
theorem Aa.uniq{n:Nat}{g:List BA}(h:Aa bs n g)(h':Aa bs n g'):g=g':=by
 induction h generalizing g' with
 | none=>cases h';rfl
 | more h1 h2 h3 ih =>
  cases h' with
  | more k1 k2 k3 =>
   obtain rfl:=ih k1;have e:=h2.uniq k2;obtain rfl:_=_:=Int.ofNat.inj e;rw[h3] at k3;obtain rfl:=A5 k3;rfl
theorem Aa.part{n:Nat}(h:Aa bs n gone):∀m,m<=n->Aa bs m (gone.take m):=by
 induction h with
 | none=>intro m hm;obtain rfl:m=0:=oM;exact .none
 | @more n gone k x h1 h2 h3 ih =>
  intro m hm;have hl:=h1.length;by_cases e:m=n+1
  .subst e;rw[D0 (by simp[hl])];exact .more h1 h2 h3
  .grind
def Ac(b:Bk)(ss:List BA)(ok:Bool):Prop:=(ok=true/\J3 b/\Aa b.bs b.bs.length ss)\/(ok=false/\ss=[]/\(¬J3 b\/∃n gone,n<b.bs.length/\Aa b.bs n gone/\Z6 b.bs gone (-1)))
theorem Ac.uniq{b:Bk}{ok ok':Bool}(h:Ac b ss ok)(h':Ac b ss' ok'):ss=ss'/\ok=ok':=by
 have no:∀{t},J3 b->Aa b.bs b.bs.length t->¬(¬J3 b\/∃n a0,n<b.bs.length/\Aa b.bs n a0/\Z6 b.bs a0 (-1)):=by
  rintro t hb hg (h1|⟨n,a0,hn,h2,h3⟩)
  .exact h1 hb
  .have h4:=hg.part (n+1) oM;have hl:=hg.length;generalize hq:t.take (n+1)=q at h4;cases h4 with
   | more k1 k2 k3 =>
    obtain rfl:=h2.uniq k1;have:=h3.uniq k2;omega
 rcases h with⟨rfl,h1,h2⟩|⟨rfl,rfl,h2⟩<;>rcases h' with⟨rfl,g1,g2⟩|⟨rfl,rfl,g2⟩
 .exact⟨h2.uniq g2,rfl⟩
 .grind
 .grind
 .exact⟨rfl,rfl⟩
theorem Hi{k:Nat}(h:∀j,j<k->¬Good bs gone j)(h1:¬Good bs gone k):∀j,j<k+1->¬Good bs gone j:=by grind
theorem AbM{k:Nat}(hk:k<bs.length):Good bs gone k↔E1 gone (bs[k]).nm=false/\JR bs k gone:=by
 constructor
 .rintro⟨x,hx,h⟩;rw[A0 hk] at hx;obtain rfl:=A5 hx;exact h
 .exact λh=>⟨_,A0 hk,h⟩
end
section
open Go.Conc Go.RowKit
section
variable {P:Program} {Shun:Loc->Prop} {Post:Value->World->Prop} {b:Frame} {k:List Item} {cs:List Frame} {gs:Array Goroutine} {sl:Option (Nat×Nat)} {t:Trace} {V:World} {n:Nat} {T:Array Value} {l:List (Nat×Value)} {ops:Array Oper} {i:Nat} {rest:List Nat} {o:Oper}
end
end
section
open Go.RowKit
def AC:List (BA×Int)->List Value
 | []=>[]
 | r::rest=>.string r.1::.int .i64 (r.2)::AC rest
theorem SI(a b:List (BA×Int)):AC (a++b)=AC a++AC b:=by
 induction a with
 | nil=>rfl
 | cons r rest ih=>simp[AC,ih]
theorem SJ(a:List (BA×Int)):(AC a).length=a.length*2:=by
 induction a with
 | nil=>rfl
 | cons r rest ih=>simp[AC,ih];omega
theorem SK:∀(a:List (BA×Int)) (i:Nat) (h:i<a.length),(AC a)[i*2]?=some (Tz (a[i]).1)/\(AC a)[i*2+1]?=some (Iz ((a[i]).2))
 | r::rest,0,_=>⟨rfl,rfl⟩
 | r::rest,i+1,h=>by
  have:=SK rest i (by simpa using h);rw[show (i+1)*2=i*2+1+1 by omega];simpa [AC] using this
def Hj(w:World)(g:Nat)(rows:List (BA×Int)):Prop:=w.rangeAt g 0 (AC rows)/\g<w.heap.size
theorem Hj.up{w g}{rows:List (BA×Int)}(h:Hj w g rows)(hb:Up w w'):Hj w' g rows :=
 ⟨λj v hv=>by rw[hb.cell h.2];exact h.1 j v hv,A1 h.2 hb.size⟩
theorem Hj.cells{w:World}{g:Nat}{rows:List (BA×Int)}(h:Hj w g rows)(i:Nat)(hi:i<rows.length):AS w g (i*2) (Tz (rows[i]).1)/\AS w g (i*2+1) (Iz ((rows[i]).2)):=by
 obtain⟨h1,h2⟩:=SK rows i hi;exact⟨by simpa using h.1 _ _ h1,by simpa using h.1 _ _ h2⟩
theorem Hj.of_own{w:World}{base e g cap:Nat}{rows:List (BA×Int)}(h:w.ownsRow base e 2 (Sy g rows.length cap) rows.length (AC rows)):Hj w g rows:=by
 refine⟨λj v hv=>?_,(h.lt g rfl).2⟩;have hj:j<rows.length*2:=by rw[← SJ];exact (A2.1 hv).1
 rw[Nat.zero_add,h.cellAt j hj];exact hv
theorem VO(rows:List (BA×Int))(g c:Nat)(nm:BA)(w:World)(hr:Hj w g rows)(hn:rows.length<=1048576):
  cU prog 199 #[Sy g rows.length c,Tz nm] w (Iz (look rows nm 0)):=by
 have hg:=hr.2;delta cU;go_in;go_wp2;(try dsimp only[Iz,Sy,Sx,Nz,Vz,Tz,Ez,Pz]);go_loopw [10] (λi w'=>∃k:Nat,k<=rows.length/\i=.int .i64 k/\Gw rows nm k/\Up w w') (λi _=>rows.length-(intOf i).toNat)
 case atStart=>exact⟨0,oM,rfl,λ_ _ h=>oM,A4 _ _⟩
 case round =>
  obtain⟨k,hk,rfl,a0,hB⟩:=hrel;have Hal:Hid (Gw rows nm k):=a0;clear a0;by_cases hp:k<rows.length
  .obtain⟨c0,c1⟩:=hr.cells k hp;obtain⟨hc,hf⟩:=E2 hB;cases hq:((rows[k]).1.toList==nm.toList)
   .have Hq:Hid (((rows[k]).1.toList==nm.toList)=false):=hq;go_wp2;go_roundw
    case rel=>exact⟨k+1,oM,mO,MA Hal.out hp Hq.out,hB.alloc hB.size _⟩
    case measure=>simp[intOf];omega
   .have Hq:Hid (look rows nm 0=(rows[k]).2):=QR 0 Hal.out hp hq;go_wp2;go_ret;exact⟨by show Ending.returned (Iz ((rows[k]).2))=_;rw[Hq.out],hB.alloc hB.size _⟩
  .have Hq:Hid (look rows nm 0=0):=OM 0 Hal.out hp;go_wp2;go_ret;exact⟨by show Ending.returned (Iz (0))=_;rw[Hq.out],hB⟩
end
section
open Go.ChangeShapes Go.WideShapes Go.ChangeAt Go.RowKit
theorem Nv:prog.cellsOf 165=8:=sI
theorem XT{H:Type}{enc:TypeId×Value->H}{w:World}{base:Nat}{cs:List Value}{x:DataW H×List MemPlace}
  (h:DataW.trod enc prog w base sp held fuel 165 cs=some x) :
  ∃(nm:BA)(k:Int)(a b:BA)(n wi:Int)(t e:BA),cs=[Tz nm,Iz k,Tz a,Tz b,Iz n,Iz wi,Tz t,Tz e]/\x.2=[]/\
   nm.size<=maxLen/\a.size<=maxLen/\b.size<=maxLen/\t.size<=maxLen/\e.size<=maxLen:=by
 obtain⟨xs,m,_,rfl,hl,a0,hf⟩:=DataW.trod_struct underlying165 h;rw[Nv] at hl;obtain⟨c0,c1,c2,c3,c4,c5,c6,c7,rfl⟩:=Adb hl;obtain⟨y0,y1,y2,y3,y4,y5,y6,y7,rfl⟩:=Adb (a0.trans rfl:xs.length=8);have h0:DataW.trod enc prog w base sp held m 9 (([c0,c1,c2,c3,c4,c5,c6,c7].drop 0).take (prog.cellsOf 9))=some y0:=hf 0 {name:= "Name",type:=9,offset:=0,embedded:=false,tag:= "",pkgPath:= "",byteOffset:=0} rfl;have h1:DataW.trod enc prog w base sp held m 3 (([c0,c1,c2,c3,c4,c5,c6,c7].drop 1).take (prog.cellsOf 3))=some y1:=hf 1 {name:= "Kind",type:=3,offset:=1,embedded:=false,tag:= "",pkgPath:= "",byteOffset:=16} rfl;have h2:DataW.trod enc prog w base sp held m 9 (([c0,c1,c2,c3,c4,c5,c6,c7].drop 2).take (prog.cellsOf 9))=some y2:=hf 2 {name:= "A",type:=9,offset:=2,embedded:=false,tag:= "",pkgPath:= "",byteOffset:=24} rfl;have h3:DataW.trod enc prog w base sp held m 9 (([c0,c1,c2,c3,c4,c5,c6,c7].drop 3).take (prog.cellsOf 9))=some y3:=hf 3 {name:= "B",type:=9,offset:=3,embedded:=false,tag:= "",pkgPath:= "",byteOffset:=40} rfl;have h4:DataW.trod enc prog w base sp held m 3 (([c0,c1,c2,c3,c4,c5,c6,c7].drop 4).take (prog.cellsOf 3))=some y4:=hf 4 {name:= "N",type:=3,offset:=4,embedded:=false,tag:= "",pkgPath:= "",byteOffset:=56} rfl;have h5:DataW.trod enc prog w base sp held m 3 (([c0,c1,c2,c3,c4,c5,c6,c7].drop 5).take (prog.cellsOf 3))=some y5:=hf 5 {name:= "Within",type:=3,offset:=5,embedded:=false,tag:= "",pkgPath:= "",byteOffset:=64} rfl;have h6:DataW.trod enc prog w base sp held m 9 (([c0,c1,c2,c3,c4,c5,c6,c7].drop 6).take (prog.cellsOf 9))=some y6:=hf 6 {name:= "Then",type:=9,offset:=6,embedded:=false,tag:= "",pkgPath:= "",byteOffset:=72} rfl;have h7:DataW.trod enc prog w base sp held m 9 (([c0,c1,c2,c3,c4,c5,c6,c7].drop 7).take (prog.cellsOf 9))=some y7:=hf 7 {name:= "Else",type:=9,offset:=7,embedded:=false,tag:= "",pkgPath:= "",byteOffset:=88} rfl;clear hf h;rw[AM] at h0 h2 h3 h6 h7;rw[Jv] at h1 h4 h5;simp only[List.drop_succ_cons,List.drop_zero,List.take_succ_cons,List.take_zero] at h0 h1 h2 h3 h4 h5 h6 h7;obtain⟨nm,rfl,rfl,z0⟩:=L8 h0;obtain⟨k,rfl,rfl,_⟩:=Y5 h1;obtain⟨a,rfl,rfl,z2⟩:=L8 h2;obtain⟨b,rfl,rfl,z3⟩:=L8 h3;obtain⟨n,rfl,rfl,_⟩:=Y5 h4;obtain⟨wi,rfl,rfl,_⟩:=Y5 h5;obtain⟨t,rfl,rfl,z6⟩:=L8 h6;obtain⟨e,rfl,rfl,z7⟩:=L8 h7;exact⟨nm,k,a,b,n,wi,t,e,rfl,rfl,z0,z2,z3,z6,z7⟩
end
section
open Go.RowKit
theorem AeA(ps:List Ph)(v:Value)(w:World)(h:Nl w v ps)(hn:ps.length<=1048576):
  Calls prog 78 #[v] w λe w'=>(∃b,e=.returned (Sy b ps.length ps.length)/\Own w' b ps/\w.heap.size<=b)/\Up w w':=by
 rcases h with⟨a,c,rfl,rfl⟩|⟨b,o,c,rfl,hr,hb,hl⟩
 .exact (Aeq a c w).mono λe w' ⟨he,ho,hB⟩=>⟨⟨_,he,ho,A3 _⟩,hB⟩
 .exact (Aer ps b o c w hr hb hn).mono λe w' ⟨he,ho,hB⟩=>⟨⟨_,he,ho,A3 _⟩,hB⟩
theorem Own.up{w:World}{b:Nat}(h:Own w b ps)(hb:Up w w'):Own w' b ps :=
 ⟨h.1.up hb h.2.2,P8 h.2.1 hb h.2.2,A1 h.2.2 hb.size⟩
end
section
open Go.ChangeShapes Go.WideShapes Go.ChangeAt Go.RowKit
theorem PH:prog.cellsOf 22=1:=sI
theorem GL{base n:Nat}{a:Addr}{cs:List Value}(hn:0<n)(h:W.cells? base a n=some cs):a.spot=none:=by
 unfold World.cells? at h;split at h
 .obtain⟨x,_,hc⟩:=Lib.mapM_at h 0 0 (by simp[hn]);simpa [Addr.add] using World.cell?_spot hc
 .cases h
theorem JK{H:Type}{enc:TypeId×Value->H}{base:Nat}{v:Value}{x:DataW H×List MemPlace}
  (h:DataW.trod enc prog W base sp held fuel 22 [v]=some x):∃ss,Ls W v ss:=by
 rcases DataW.trod_slice underlying22 h with⟨hcs,_⟩|⟨a,len,cap,elems,rest,n,_,hcs,_,hb,hl,hm,hlen,hel,_,_⟩
 .obtain rfl:v=Nz:=by simpa using hcs
  exact⟨[],Ls.nil _ _ _⟩
 .obtain rfl:v=Vz (some a) len cap:=by simpa using hcs
  clear hcs h;rw[AM] at hel
  have a0:∀i,i<len->∃q:BA,W.cells? base (a.add (i*1)) 1=some [Tz q]/\q.size<=maxLen:=by
   intro i hi;have h1:=hel i hi;rw[A0 oM] at h1;obtain⟨cs,hc,ht⟩:=Option.bind_eq_some_iff.1 h1;obtain⟨s,rfl,-,hs⟩:=DataW.trod_string underlying9 ht;exact⟨s,hc,hs⟩
  obtain⟨ss,a4,a2⟩:=FA len _ a0;rcases C3 len with h0|h0
  .subst h0;exact⟨[],Ls.nil _ _ _⟩
  .obtain⟨b,o,a1⟩:=a
   have hs:a1=none:=by
    obtain⟨q,hq,_⟩:=a0 0 h0;simpa [Addr.add] using GL oM hq
   subst hs
   have a3:G0 W b o ss:=by
    intro i q hq;have:=(a2 i q hq).1;rw[Addr.add_mid,Nat.mul_one] at this;exact Y0 this 0 _ rfl
   subst a4;refine⟨ss,_,cap,rfl,oM,λs hs=>?_,λ_=>⟨b,o,rfl,a3,?_⟩⟩
   .obtain⟨i,hi,rfl⟩:=B7 hs;exact (a2 i ss[i] (by simp[hi])).2
   .exact World.block_lt_of_cell? W _ (a3 0 ss[0] (by simp[h0]))
end
end Go.Proofs.YtaffjphkobhagaaGreatDoor
