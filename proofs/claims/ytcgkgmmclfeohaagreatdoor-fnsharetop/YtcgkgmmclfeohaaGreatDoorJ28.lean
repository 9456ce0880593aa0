/- A code that can be read, opened. -/
import Derived.Test.YtcgkgmmclfeohaaGreatDoorJ12
import Derived.Test.YtcgkgmmclfeohaaGreatDoorJ14
import Derived.Test.YtcgkgmmclfeohaaGreatDoorJ20
import Derived.Conc.LeavingOf
import Derived.Test.YtcgkgmmclfeohaaGreatDoorJ21
set_option maxRecDepth 100000
set_option maxHeartbeats 4000000
namespace Go.Proofs.YtcgkgmmclfeohaaGreatDoor
open Go.Proofs.Tryz
open Go.ChangeShapes Go.WideShapes Go.ChangeAt Go.RowKit
theorem YB:prog.cellsOf 5=1:=by kernel_rfl
theorem Qr{H:Type}{enc:TypeId×Value->H}{W:World}{base:Nat}{sp:Nat->Bool}{held:Bool}{v:Value}{d:DataW H}{p:List MemPlace}(hv:∃a l c,v=.slice a l c)
  (h:DataW.Trod enc prog W base sp held 22 v d p):∃(a:Option Addr)(l c:Nat),v=.slice a l c/\Ax W W.heap.size (.slice a l c) l/\l<=c/\c<=maxLen:=by
 obtain⟨a0,l0,k0,rfl⟩:=hv;obtain⟨a2,hf⟩:=h;rcases open_ints underlying22 underlying5 YB hf with⟨hcs,_⟩|⟨a,len,cap,zs,hcs,_,hl,hm,hz,_,hcell,hwf⟩
 ·have:Value.slice a0 l0 k0=.slice none 0 0:=by simpa [Value.cells] using hcs
  rw[this];exact⟨none,0,0,rfl,⟨none,0,rfl,.inl rfl⟩,A3 _,Nat.zero_le _⟩
 ·have:Value.slice a0 l0 k0=.slice (some a) len cap:=by simpa [Value.cells] using hcs
  rw[this];refine⟨some a,len,cap,rfl,⟨some a,cap,rfl,?_⟩,hl,hm⟩;rcases C4 len with h0|h0
  ·exact .inl h0
  ·have a3:len<=zs.length:=by rw[hz];split<;>omega
   obtain⟨b,o,a1⟩:=a;have c0:=hcell 0 (by omega);have hs:a1=none:=by simpa [Addr.add] using World.cell?_spot c0
   subst hs;refine .inr ⟨b,o,λi=>zs.getD i 0,rfl,World.block_lt_of_cell? W _ c0,λi hi=>⟨?_,?_⟩⟩
   ·have:=hcell i (by omega);rwa [Addr.add_mid] at this
   ·have:=range_u8 hwf i;simpa [List.getD_eq_getElem?_getD] using this
end Go.Proofs.YtcgkgmmclfeohaaGreatDoor
namespace Go.Proofs.YtcgkgmmclfeohaaGreatDoor
open Go.Proofs.Tryz
open Go.Conc
def Wx(k:List Item):List Frame->List Frame
 | []=>[]
 | [r]=>[ext k r]
 | a::b::t=>a::Wx k (b::t)
def gx(k:List Item)(fr:Frame)(seg bw:List Frame):Goroutine :=
 match seg with
 | []=>G (ext k fr) bw
 | c::t=>G fr (Wx k (c::t)++bw)
section
variable {P:Program} {X:Nat->Prop} {s:Nat->Bool} {F:Frame->World->Prop}
theorem OH(S:M6 P s)(k:List Item){fr:Frame}{seg bw:List Frame}(h:O2 P s fr)(hg:EX fr seg)(hne:seg=[]->fr.todo≠[])(hne':∀c∈seg,c.todo≠[]){w:World}(hw:S6 (λ_=>False) w w)
  {fr':Frame} {seg':List Frame} {w':World} {es:Array Event} (hst:stepG P true (G fr (seg++bw)) w=.go (G fr' (seg'++bw)) w' es) :
  stepG P true (gx k fr seg bw) w=.go (gx k fr' seg' bw) w' es/\∀c∈seg',c.todo≠[]:=by
 have gi:∀{a b:Frame} {l l':List Frame},G a l=G b l'->a=b/\l=l':=λe=>⟨congrArg (·.frame) e,congrArg (·.callers) e⟩;cases hm:fr.mode with
 | run =>
  rcases Sb S h hm hw hst with⟨f1,a1,a2,a3⟩|⟨f1,a1,a2,a3,a4⟩
  ·obtain⟨rfl,e⟩:=gi a1;have e:=List.append_cancel_right e;subst e;refine⟨?_,hne'⟩;cases seg' with
   | nil=>exact a3 (hne rfl) k bw
   | cons c t=>exact a2 _
  ·obtain⟨rfl,e⟩:=gi a1;rw[show fr::(seg++bw)=(fr::seg)++bw from rfl] at e;have e:=List.append_cancel_right e;subst e;refine⟨?_,λc hc=>(List.mem_cons.1 hc).elim (λe=>e ▸ a2) (hne' c)⟩;cases seg with
   | nil=>exact a4 k bw
   | cons c t=>exact a3 _
 | returning =>
  cases seg with
  | nil=>exact (hg.elim (λhg=>by rw[hm] at hg;cases hg) λhg=>absurd rfl hg)
  | cons c t =>
   obtain⟨fn,hf⟩:=h.fn;generalize hu:(results fn fr.tmps).runT P w #[]=ru
   have a0:∀(c:Frame)(cs:List Frame),stepG P true (G fr (c::cs)) w=GStep.after (seen P fr.fn ru.2) (match ru.1 with
     | .ok v w=>doReturn P true fr (c::cs) none v w
     | .halt k w=>(match k with | .stuck x=>.ended (.stuck x (fr.pos P)) w | .unsupported x=>.ended (.unsupported x (fr.pos P)) w|_=>.ended (.stuck "" (fr.pos P)) w))∨∃o x es,stepG P true (G fr (c::cs)) w=.ended o x es:=λc cs=>by
    match ru,hu with
    | (.ok v u1,eu),hu=>exact .inl (by simp only[stepG,G,hm,unwind,h.defers,hf,hu])
    | (.halt k u1,eu),hu=>exact .inr (by cases k<;>exact⟨_,_,_,by simp only[stepG,G,hm,unwind,h.defers,hf,hu,GStep.after];rfl⟩)
   match ru,hu,a0 with
   | (.halt k u1,eu),hu,a0 =>
    exfalso
    rcases a0 c (t++bw) with e|⟨o,x,es1,e⟩
    ·rw[List.cons_append,e] at hst;cases k<;>(simp only[GStep.after] at hst;cases hst)
    ·rw[List.cons_append,e] at hst;cases hst
   | (.ok v u1,eu),hu,a0 =>
    have go:∀(c:Frame)(cs:List Frame),stepG P true (G fr (c::cs)) w=.go (G (c.finish v) cs) u1 (seen P fr.fn eu ++ #[]):=λc cs=>by
     simp only[stepG,G,hm,unwind,h.defers,hf,hu,doReturn,h.kind,GStep.after]
    rw[List.cons_append,go] at hst;rw[GStep.go.injEq] at hst;obtain⟨e1,rfl,rfl⟩:=hst;obtain⟨rfl,e2⟩:=gi e1;have e3:=List.append_cancel_right e2;subst e3;refine⟨?_,λx hx=>hne' x (by simp[hx])⟩;cases t with
    | nil =>
     have:=go (ext k c) bw;rw[EY k (hne' c (by simp))] at this;exact this
    | cons d t=>exact go c _
 | panicking ch =>
  cases seg with
  | nil=>exact (hg.elim (λhg=>by rw[hm] at hg;cases hg) λhg=>absurd rfl hg)
  | cons c t =>
   obtain⟨fn,hf⟩:=h.fn;have a5:fr.catches P=false:=by unfold Frame.catches;rw[hf]
   have go:∀(c:Frame)(cs:List Frame),stepG P true (G fr (c::cs)) w=.go (G (c.raise ch) cs) w #[]:=λc cs=>by
    simp only[stepG,G,hm,unwind,h.defers,a5,Bool.false_eq_true,if_false]
   rw[List.cons_append,go] at hst;rw[GStep.go.injEq] at hst;obtain⟨e1,rfl,rfl⟩:=hst;obtain⟨rfl,e2⟩:=gi e1;have e3:=List.append_cancel_right e2;subst e3;refine⟨?_,λx hx=>hne' x (by simp[hx])⟩;cases t with
   | nil =>
    have:=go (ext k c) bw;rw[PH] at this;exact this
   | cons d t=>exact go c _
abbrev IJ (fr:Frame):Prop:=fr.mode=.run/\fr.todo=[]
def Wy(P:Program)(X:Nat->Prop)(s:Nat->Bool)(F:Frame->World->Prop)(k:List Item)(bw:List Frame)(g:Goroutine)(w:World):Prop :=
 ∃fe,g=G (ext k fe) bw/\O2 P s fe/\M1 X w/\IJ fe/\∀τ d,F fe (E0 X w τ d)
theorem AeZ(S:M6 P s){fr:Frame}{w:World}(h:St P X s IJ F fr [] w)(hc:fr.mode≠.run∨fr.todo=[])(k:List Item)(bw:List Frame)(d:Nat):Wy P X s F k bw (gx k fr [] bw) (w.at d):=by
 have a2:∀τ d,IJ fr/\F fr (E0 X w τ d):=λτ d=>by
  obtain⟨N,fe,ue,hr,a0,hF⟩:=h.ends τ d
  have rest:∀{f:Frame} {N:Nat},O2 P s f->f.mode≠.run->runN P N (lone f [c0 P] (E0 X w τ d))=.next (lone fe [c0 P] ue)->f=fe:=λ{f N} hf hm hr=>by
   have hN:=DG S hf (λhh=>hh.elim hm (λh=>h rfl)) hr;subst hN;simp only[runN,Stepped.next.injEq] at hr;exact (Aj hr).1
  simp only[List.nil_append] at hr;by_cases hm:fr.mode=.run
  ·have ht:fr.todo=[]:=hc.resolve_left λh=>h hm;have a1:step P (lone fr [c0 P] (E0 X w τ d))=.next (lone {fr with mode:=.returning} [c0 P] (E0 X w τ d)):=Ci (es:=#[]) (by simp[stepG,stepG.exec,G,hm,ht,h.top.round]);cases N with
   | zero =>
    simp only[runN,Stepped.next.injEq] at hr;obtain⟨e1,_,e3⟩:=Aj hr;subst e1 e3;exact⟨a0,hF⟩
   | succ N =>
    simp only[runN,a1] at hr;have e:=rest (Le h.top .returning) (by simp) hr;rw[← e] at a0;exact absurd a0.1 (by simp)
  ·have e:=rest h.top hm hr;rw[← e] at a0;exact absurd a0.1 hm
 exact⟨fr,rfl,h.top,h.base.at d,(a2 (λ_ _=>0) 0).1,λτ d=>(a2 τ d).2⟩
def AaK(P:Program)(X:Nat->Prop)(s:Nat->Bool)(F:Frame->World->Prop)(k:List Item)(bw:List Frame)(x:Frame×List Frame×World):Prop :=
 St P X s IJ F x.1 x.2.1 x.2.2/\(∀c∈x.2.1,c.todo≠[])/\¬Bx P X (Wy P X s F k bw) (gx k x.1 x.2.1 bw) x.2.2
theorem YC(S:M6 P s)(hF:∀fe u v,S6 (λ_=>False) u v->F fe u->F fe v){k0:List Item}{bw:List Frame}{x:Frame×List Frame×World}(h:AaK P X s F k0 bw x):
  (x.2.1=[]->¬IJ x.1)/\∃(d k:Nat)(y:Frame×List Frame×World),AaK P X s F k0 bw y/\y.2.2.tape=x.2.2.tape/\
   ∀τ d0,(∀i q,i<k->τ (d0+i) q=x.2.2.tape (d+i) q)->step P (lone x.1 (x.2.1++[c0 P]) (E0 X x.2.2 τ d0))=.next (lone y.1 (y.2.1++[c0 P]) (E0 X y.2.2 τ (d0+k))):=by
 obtain⟨a0,a1,hn⟩:=h
 have hcut:x.2.1=[]->x.1.mode=.run/\x.1.todo≠[]:=λe=>by
  refine Classical.byContradiction λhno=>hn (.stop λd=>?_);obtain⟨fr,a5,w⟩:=x;simp only at e;subst e;exact AeZ S a0 (Classical.byContradiction λhh=>hno ⟨Classical.byContradiction λh1=>hh (.inl h1),λh1=>hh (.inr h1)⟩) k0 bw d
 have hg:EX x.1 x.2.1:=by
  by_cases e:x.2.1=[]
  ·exact .inl (hcut e).1
  ·exact .inr e
 have hE:x.2.1=[]->¬IJ x.1:=λe h=>(hcut e).2 h.2;refine⟨hE,Classical.byContradiction λhno=>hn ?_⟩;have hs:=λd=>OA S hF a0 hg hE bw d;let fr':=λd=>Classical.choose (hs d)
 let seg':=λd=>Classical.choose (Classical.choose_spec (hs d))
 let w':=λd=>Classical.choose (Classical.choose_spec (Classical.choose_spec (hs d)))
 let es:=λd=>Classical.choose (Classical.choose_spec (Classical.choose_spec (Classical.choose_spec (hs d))))
 have sp:∀d,∃k,stepG P true (G x.1 (x.2.1++bw)) (x.2.2.at d)=.go (G (fr' d) (seg' d++bw)) (w' d) (es d)/\(∀e∈es d,AJ X e)/\St P X s IJ F (fr' d) (seg' d) (w' d)/\(w' d).tape=x.2.2.tape/\(w' d).drawn=d+k/\
   ∀τ d0,(∀i q,i<k->τ (d0+i) q=x.2.2.tape (d+i) q)->step P (lone x.1 (x.2.1++[c0 P]) (E0 X x.2.2 τ d0))=.next (lone (fr' d) (seg' d++[c0 P]) (E0 X (w' d) τ (d0+k))) :=
  λd=>Classical.choose_spec (Classical.choose_spec (Classical.choose_spec (Classical.choose_spec (hs d))))
 have a2:∀d,S6 (λ_=>False) (x.2.2.at d) (x.2.2.at d):=λd n=>⟨rfl,λ_ h=>h.elim,λ_ _=>rfl,λ_ h=>h.elim,a0.base.pend,rfl,rfl,λ_ _ _=>rfl⟩;have gs:=λd=>OH S k0 a0.top hg (λe=>(hcut e).2) a1 (a2 d) (sp d).choose_spec.1;refine .step (by unfold gx;split<;>rfl) (λd=>gx k0 (fr' d) (seg' d) bw) w' es (λd=>(gs d).1) (λd=>(sp d).choose_spec.2.1) (λd=>?_);refine Classical.byContradiction λhr=>hno ?_;obtain⟨k,_,_,a3,a4,_,a6⟩:=sp d;exact⟨d,k,(fr' d,seg' d,w' d),⟨a3,(gs d).2,hr⟩,a4,a6⟩
theorem Nk(S:M6 P s)(hF:∀fe u v,S6 (λ_=>False) u v->F fe u->F fe v)(k:List Item)(bw:List Frame){fr:Frame}{w:World}(h:St P X s IJ F fr [] w):Bx P X (Wy P X s F k bw) (G (ext k fr) bw) w :=
 Classical.byContradiction λhn=>Mq (B0:=AaK P X s F k bw) (λ_ hx=>YC S hF hx) ⟨h,by simp,hn⟩ h.ends
end
def Bz:List Code->Code->Code
 | [],B=>B
 | r::l,B=>.seq r (Bz l B)
def BG(P:Program):List Code->(Exit->Act->World->Prop)->Act->World->Prop
 | [],Q=>Q .normal
 | r::l,Q=>r.wp P (Exit.then (BG P l Q) Q)
section
variable {P:Program} {X:Nat->Prop} {s:Nat->Bool}
theorem Bx.bind{Stop Stop':Goroutine->World->Prop}{g:Goroutine}{w:World}(h:Bx P X Stop g w)(hk:∀g w,Stop g w->Bx P X Stop' g w):Bx P X Stop' g w:=by
 induction h with
 | stop h=>exact hk _ _ (h _)
 | step hr g' w' es hs hf _ ih=>exact .step hr g' w' es hs hf ih
theorem Bx.mono{Stop Stop':Goroutine->World->Prop}{g:Goroutine}{w:World}(h:Bx P X Stop g w)(hk:∀g w,Stop g w->Stop' g w):Bx P X Stop' g w:=by
 induction h with
 | stop h=>exact .stop λd=>hk _ _ (h d)
 | step hr g' w' es hs hf _ ih=>exact .step hr g' w' es hs hf ih
theorem Bx.one{Stop:Goroutine->World->Prop}{g g':Goroutine}{w:World}(hr:g.status=.running)(hs:∀x,stepG P true g x=.go g' x #[])(h:Bx P X Stop g' w):Bx P X Stop g w :=
 .step hr (λ_=>g') (λd=>w.at d) (λ_=>#[]) (λd=>hs (w.at d)) (λ_ _ he=>by simp at he) (λd=>h.at d)
def AG(Q:World->Prop)(u:World):Prop:=∃u0,Q u0/\S6 (λ_=>False) u0 u
theorem AG.full{Q:World->Prop}{u v:World}(h:AG Q u)(hf:S6 (λ_=>False) u v):AG Q v:=let ⟨u0,h1,h2⟩:=h;⟨u0,h1,h2.trans hf⟩
theorem Adc{w:World}(hb:M1 X w)(τ:Nat->Question->Nat)(d:Nat):S6 (λ_=>False) (E0 X w τ d) (E0 X w τ d):=by
 have hs:Y7 X 0 w (E0 X w τ d):=He hb (λi q hi=>by omega);exact λn=>⟨rfl,λ_ h=>h.elim,λ_ _=>rfl,λ_ h=>h.elim,hs.pendU,rfl,rfl,λ_ _ _=>rfl⟩
theorem AW{w:World}(hb:M1 X w){Q:World->Prop}(h:∀τ d,Q (E0 X w τ d))(τ:Nat->Question->Nat)(d:Nat):AG Q (E0 X w τ d):=⟨_,h τ d,Adc hb τ d⟩
structure Cm (P:Program) (b:Frame):Prop where
 kind:b.kind=.normal
 fn:∃fn,P.funcs[b.fn]?=some fn
theorem Cm.ok{b:Frame}(h:Cm P b){a:Act}(hd:a.defers=[]){l:List Item}(hl:∀i∈l,X6 P s i):O2 P s (b.at a l):=⟨hl,hd,h.kind,rfl,h.fn⟩
def KH(X:Nat->Prop)(b:Frame)(k:List Item)(bw:List Frame)(Q:Act->World->Prop)(g:Goroutine)(w:World):Prop :=
 ∃a,g=G (b.at a k) bw/\a.defers=[]/\M1 X w/\∀τ d,AG (Q a) (E0 X w τ d)
theorem Gb(S:M6 P s){r:Code}(hr:O0 P s r=true){b:Frame}(hb:Cm P b){a:Act}(hd:a.defers=[]){w:World}(hw:M1 X w){Q:Act->World->Prop}
  (h:∀τ d,AG (λu=>r.wp P (λe a' u'=>e=.normal/\Q a' u') a u) (E0 X w τ d)) (k:List Item) (bw:List Frame) :
  Bx P X (KH X b k bw Q) (G (b.at a (.code r::k)) bw) w:=by
 have a1:O2 P s (b.at a [.code r]):=hb.ok hd (by intro i hi;simp at hi;subst hi;exact hr)
 have a2:St P X s IJ (λfe u=>∃a',fe=b.at a' []/\AG (Q a') u) (b.at a [.code r]) [] w:=by
  refine⟨a1,by simp,hw,λτ d=>?_⟩;obtain⟨u0,h1,h2⟩:=h τ d;obtain⟨e,a',u',⟨rfl,hq⟩,⟨N,hN⟩⟩:=h1 b [] [c0 P];obtain⟨ve,q1,q2⟩:=shift S N a1 (seg:=[]) (by simp) h2 hN;exact⟨N,b.at a' [],ve,q1,⟨rfl,rfl⟩,a',rfl,_,hq,q2⟩
 refine (Nk S (λfe u v hf ⟨a',h1,h3⟩=>⟨a',h1,h3.full hf⟩) k bw a2).mono λg w' ⟨fe,h1,h2,h3,h4,h5⟩=>?_;obtain⟨a',e,_⟩:=h5 (λ_ _=>0) 0;subst e;refine⟨a',h1,h2.defers,h3,λτ d=>?_⟩;obtain⟨a0,e,hq⟩:=h5 τ d;have e1:a'.tmps=a0.tmps:=congrArg Frame.tmps e;have e2:a'.defers=a0.defers:=congrArg Frame.defers e;obtain rfl:a'=a0:=by cases a';cases a0;simp_all
 exact hq
theorem EE(S:M6 P s){b:Frame}(hb:Cm P b){Q:Act->World->Prop}(B:Code)(k:List Item)(bw:List Frame):∀(l:List Code),(∀r∈l,O0 P s r=true)->∀{a:Act} {w:World},a.defers=[]->M1 X w->
  (∀τ d,AG (BG P l (λe a' u'=>e=.normal/\Q a' u') a) (E0 X w τ d))->
  Bx P X (KH X b (.code B::k) bw Q) (G (b.at a (.code (Bz l B)::k)) bw) w
 | [],_,a,w,hd,hw,h=>.stop λd=>⟨a,rfl,hd,hw.at d,λτ d=>let ⟨u0,h1,h2⟩:=h τ d;⟨u0,h1.2,h2⟩⟩
 | r::l,hl,a,w,hd,hw,h=>by
  refine .one rfl (λx=>stepG_seq) ?_;refine (Gb S (hl r (by simp)) hb hd hw (Q:=λa' u=>BG P l (λe a' u'=>e=.normal/\Q a' u') a' u) (λτ d=>?_) (.code (Bz l B)::k) bw).bind λg w' ⟨a',h1,h2,h3,h4⟩=>?_
  ·obtain⟨u0,h1,h2⟩:=h τ d
   exact⟨u0,wp_mono h1 (λe a' u' hq=>by
    cases e with
    | normal=>exact⟨rfl,hq⟩
    | _=>exact absurd hq.1 (by simp)),h2⟩
  ·subst h1;exact EE S hb B k bw l (λr hr=>hl r (by simp[hr])) h2 h3 h4
end
end Go.Proofs.YtcgkgmmclfeohaaGreatDoor
namespace Go.Proofs.YtcgkgmmclfeohaaGreatDoor
open Go.Proofs.Tryz
open Go.Conc
open Go.ConcN (sumTo)
def E7(P:Program)(Post:Value->World->Prop)(m:Machine)(t:Trace):Prop :=
 ∃N last o w' t',runNT P (N+1) m t=(.ended o w',t')/\runN P N m=.next last/\step P last=.ended o w'/\Go.Conc.Good P Post last o w' t'
section
variable {P:Program} {X:Nat->Prop} {Shun:Loc->Prop} {Post:Value->World->Prop}
theorem E7.of_run{N:Nat}{m m':Machine}{t t':Trace}(h:runNT P N m t=(.next m',t'))(k:E7 P Post m' t'):E7 P Post m t:=by
 obtain⟨K,a0,o,w',a1,e1,e2,e3,e4⟩:=k;refine⟨N+K,a0,o,w',a1,?_,?_,e3,e4⟩
 ·rw[Nat.add_assoc,runNT_add,h];exact e1
 ·rw[runN_add,← runNT_fst P _ _ #[]];have:=runNT_fst P N m t;rw[h] at this;rw[runNT_fst,← this];exact e2
structure G6 (P:Program) (Shun:Loc->Prop) (gs:Array Goroutine) (a:Goroutine) (t:Trace):Prop where
 zero:gs[0]?=some a
 leave:∃q,Leavers P t gs q
 fr:∃B,Fr Shun B t
theorem Y5(hX:∀l,Shun l->∃a,l=.cell a/\X a.block){Stop:Goroutine->World->Prop}{gs:Array Goroutine}{a:Goroutine}{w:World}{sl:Option (Nat×Nat)}{t:Trace}(hh:G6 P Shun gs a t)(h:Bx P X Stop a w)
  (k:∀gs' a' w' sl' t',G6 P Shun gs' a' t'->Stop a' w'->E7 P Post (crowd gs' w' sl') t'):E7 P Post (crowd gs w sl) t:=by
 obtain⟨q,hL⟩:=hh.leave;obtain⟨B,hF⟩:=hh.fr;obtain⟨N,gs',a',w',sl',t',q',B',hr,_,h0,hS,a0,a1,_⟩:=Wj hX h _ gs w.drawn sl t q B (A3 _) hh.zero hL hF;exact E7.of_run hr (k gs' a' w' sl' t' ⟨h0,⟨q',a0⟩,⟨B',a1⟩⟩ hS)
theorem YD{D:World->World->Array Event->Prop}{B0:Nat}(hD:∀w w' es,D w w' es->∀e∈es,EvL Shun B0 e){Stop:Goroutine->World->Prop}:
  ∀(n M:Nat) {gs:Array Goroutine} {a:Goroutine} {w:World} {sl:Option (Nat×Nat)} {t:Trace} {q:Nat->Nat} {B:Nat},sumTo gs.size q<=M->gs[0]?=some a->Leavers P t gs q->Fr Shun B t->B0<=B->Goes P true AtRel D Stop n a w->
   (∀gs' a' w' sl' t',G6 P Shun gs' a' t'->Stop a' w'->E7 P Post (crowd gs' w' sl') t')->E7 P Post (crowd gs w sl) t:=by
 intro n;induction n with
 | zero=>exact λM gs a w sl t q B _ h0 hL hF _ hG k=>k gs a w sl t ⟨h0,⟨q,hL⟩,⟨B,hF⟩⟩ (hG w (atRel_refl w))
 | succ n ihn =>
  intro M;induction M with
  | zero =>
   intro gs a w sl t q B hM h0 hL hF hB hG k;rcases hG with hstop|⟨hrun,hstep⟩
   ·exact k gs a w sl t ⟨h0,⟨q,hL⟩,⟨B,hF⟩⟩ (hstop w (atRel_refl w))
   obtain⟨d,sl',h1|⟨a0,t1,q1,_,_,_,_,_,a2⟩⟩:=Gy h0 hrun hL hF w sl
   ·have hs:=hstep (w.at d) ⟨d,rfl⟩;cases hgo:stepG P true a (w.at d) with
    | go a' w' es =>
     rw[hgo,goes_go] at hs;obtain⟨a0,t1,r1,z1,a1,L1,P1⟩:=h1 _ _ _ B hgo (λe he=>by have:=hD _ _ _ hs.1 e he;exact⟨this.1,this.2.1,this.2.2.1,MemAct.low_mono hB this.2.2.2⟩) (A3 _);exact E7.of_run r1 (ihn _ (A3 _) a1 L1 P1 hB hs.2 k)
    | _=>rw[hgo] at hs;exact hs.elim
   ·omega
  | succ M ihM =>
   intro gs a w sl t q B hM h0 hL hF hB hG k;rcases hG with hstop|⟨hrun,hstep⟩
   ·exact k gs a w sl t ⟨h0,⟨q,hL⟩,⟨B,hF⟩⟩ (hstop w (atRel_refl w))
   obtain⟨d,sl',h1|⟨a0,t1,q1,r1,z1,a1,L1,P1,a2⟩⟩:=Gy h0 hrun hL hF w sl
   ·have hs:=hstep (w.at d) ⟨d,rfl⟩;cases hgo:stepG P true a (w.at d) with
    | go a' w' es =>
     rw[hgo,goes_go] at hs;obtain⟨a0,t1,r1,z1,a1,L1,P1⟩:=h1 _ _ _ B hgo (λe he=>by have:=hD _ _ _ hs.1 e he;exact⟨this.1,this.2.1,this.2.2.1,MemAct.low_mono hB this.2.2.2⟩) (A3 _);exact E7.of_run r1 (ihn _ (A3 _) a1 L1 P1 hB hs.2 k)
    | _=>rw[hgo] at hs;exact hs.elim
   ·exact E7.of_run r1 (ihM (by rw[z1];omega) a1 L1 P1 hB (Goes.rely atRel_trans (.inr ⟨hrun,hstep⟩) ⟨d,rfl⟩) k)
theorem P5{D:World->World->Array Event->Prop}{B0:Nat}(hD:∀w w' es,D w w' es->∀e∈es,EvL Shun B0 e){Stop:Goroutine->World->Prop}{n:Nat}{gs:Array Goroutine}{a:Goroutine}{w:World}{sl:Option (Nat×Nat)}{t:Trace}(hh:G6 P Shun gs a t)(hG:Goes P true AtRel D Stop n a w)
  (k:∀gs' a' w' sl' t',G6 P Shun gs' a' t'->Stop a' w'->E7 P Post (crowd gs' w' sl') t'):E7 P Post (crowd gs w sl) t:=by
 obtain⟨q,hL⟩:=hh.leave;obtain⟨B,hF⟩:=hh.fr;exact YD hD n _ (A3 _) hh.zero hL (hF.mono (Nat.le_max_left B B0)) (Nat.le_max_right B B0) hG k
theorem YE{gs:Array Goroutine}{a:Goroutine}{w:World}{sl:Option (Nat×Nat)}{t:Trace}(hh:G6 P Shun gs a t)(hr:a.status=.running){v:Value}(hs:∀x:World,stepG P true a x=.ended (.done v) x #[])(hp:∀d,Post v (w.at d)):E7 P Post (crowd gs w sl) t:=by
 obtain⟨q,hL⟩:=hh.leave;obtain⟨B,hF⟩:=hh.fr;exact beside_ends (P:=P) (Post:=Post) (sl:=sl) (D:=λ_ _ _=>False) (λ_ _ _ h=>h.elim) hh.zero hL hF.past (n:=0) (λw₁ ⟨d,hd⟩=>by subst hd;exact⟨hr,v,#[],hs _,by simp,hp d⟩)
end
end Go.Proofs.YtcgkgmmclfeohaaGreatDoor
namespace Go.Proofs.YtcgkgmmclfeohaaGreatDoor
open Go.Proofs.Tryz
open Go.Conc
section
variable {P:Program} {X:Nat->Prop} {s:Nat->Bool}
def Wz(X:Nat->Prop)(c:Frame)(cs:List Frame)(R:Value->World->Prop)(g:Goroutine)(w:World):Prop :=
 ∃v,g=G (c.finish v) cs/\M1 X w/\∀τ d,AG (R v) (E0 X w τ d)
theorem UJ{w:World}{R:World->Value->World->Prop}{c:Frame}{cs:List Frame}{g:Goroutine}{w':World}(h:Left P X s (II P X w R) (c::cs) g w'):
  Bx P X (Wz X c cs λv u=>∃τ d,R (E0 X w τ d) v u) g w':=by
 have hr:g.status=.running:=by obtain⟨fe,rfl,_⟩:=h;rfl
 obtain⟨v,h1,h2,h3⟩:=RY h;refine .step hr (λ_=>G (c.finish v) cs) (λd=>w'.at d) (λd=>(h1 d).choose) (λd=>(h1 d).choose_spec.1) (λd=>(h1 d).choose_spec.2) (λd=>.stop λd'=>⟨v,rfl,(h2.at d).at d',λτ d''=>?_⟩);obtain⟨τ0,d0,u0,h4,h5⟩:=h3 τ d'';exact⟨u0,⟨τ0,d0,h4⟩,h5⟩
theorem KI(S:M6 P s){f:FuncId}(hf:s f=true){args:Array Value}{w:World}(hb:M1 X w){R:World->Value->World->Prop}
  (hc:∀τ d,Calls P f args (E0 X w τ d) λe u'=>∃v,e=.returned v/\R (E0 X w τ d) v u') (c:Frame) (cs:List Frame) (hbf:((P.funcs[f]?).bind (·.body)).isSome=true:=by kernel_rfl) :
  Bx P X (Wz X c cs λv u=>∃τ d,R (E0 X w τ d) v u) (G (Frame.enter P f args .normal) (c::cs)) w :=
 (Yr S hf hbf hb hc (c::cs)).bind λ_ _ h=>UJ h
theorem YF(S:M6 P s){b:Frame}(hb:Cm P b){a:Act}(hd:a.defers=[]){r:Code}(hr:O0 P s r=true){fn:Func}(hf:P.funcs[b.fn]?=some fn){w:World}(hw:M1 X w){R:Value->World->Prop}
  (h:∀τ d,AG (λu=>r.wp P (bodyPost P fn λe u'=>∃v,e=.returned v/\R v u') a u) (E0 X w τ d)) (c:Frame) (cs:List Frame) :
  Bx P X (Wz X c cs R) (G (b.at a [.code r]) (c::cs)) w:=by
 have a3:O2 P s (b.at a [.code r]):=hb.ok hd (by intro i hi;simp at hi;subst hi;exact hr)
 have a5:St P X s PD (II P X w λ_=>R) (b.at a [.code r]) [] w:=by
  refine⟨a3,by simp,hw,λτ d=>?_⟩;obtain⟨u0,h1,h2⟩:=h τ d;obtain⟨e,a',u',hq,a1⟩:=h1 b [] [c0 P]
  have go:∀{N:Nat} {fe:Frame} {u1:World} {v:Value},runN P N (lone (b.at a [.code r]) ([]++[c0 P]) u0)=.next (lone fe [c0 P] u1)->fe.leaving P u1 (.returned v)->R v u1->
    ∃N fe ue,runN P N (lone (b.at a [.code r]) ([]++[c0 P]) (E0 X w τ d))=.next (lone fe [c0 P] ue)/\PD fe/\II P X w (λ_=>R) fe ue:=λ{N fe u1 v} hN hl hR=>by
   obtain⟨ve,q1,q2⟩:=shift S N a3 (seg:=[]) (by simp) h2 hN;exact⟨N,fe,ve,q1,hl.1,λ_ _=>0,0,u1,v,hR,hl,q2⟩
  cases e with
  | normal =>
   obtain⟨a2,v,a0,v',e1,hR⟩:=hq;cases e1
   obtain⟨N,hN⟩:=Steps.trans a1 (.one step_end);exact go hN ⟨rfl,a2,hb.kind,fn,hf,a0⟩ hR
  | ret =>
   obtain⟨a2,v,a0,v',e1,hR⟩:=hq;cases e1
   obtain⟨a4,N,hN⟩:=a1;exact go hN ⟨rfl,a2,hb.kind,fn,hf,a0⟩ hR
  | exit id=>exact hq.elim
  | goto l=>exact hq.elim
  | panic ch=>obtain⟨_,v,e1,_⟩:=hq;cases e1
  | outgrown=>obtain⟨v,e1,_⟩:=hq;cases e1
 exact (PE S KD (c::cs) a5).bind λ_ _ h=>(UJ h).mono λg w' ⟨v,h1,h2,h3⟩=>⟨v,h1,h2,λτ d=>let ⟨u0,⟨_,_,q1⟩,q2⟩:=h3 τ d;⟨u0,q1,q2⟩⟩
end
end Go.Proofs.YtcgkgmmclfeohaaGreatDoor
namespace Go.Proofs.YtcgkgmmclfeohaaGreatDoor
open Go.Proofs.Tryz
open Go.Conc Go.RowKit
section
variable {P:Program} {X:Nat->Prop}
theorem UK{u v:World}(h:S6 (λ_=>False) u v):v={u with tape:=v.tape,drawn:=v.drawn}:=by
 have h1:=(h 0).eq_pz
 have h2:(pz (λ_=>False) u).heap=u.heap:=by
  apply Array.ext_getElem?
  intro b;rw[Bd];cases u.heap[b]? with
  | none=>rfl
  | some o=>simp[Bw]
 rw[h1];simp only[E0];rw[World.mk.injEq];exact⟨h2,rfl,rfl,rfl,rfl⟩
theorem I5(W:World)(τ:Nat->Question->Nat)(d:Nat):(E0 X W τ d).heap.size=W.heap.size:=by simp[E0,pz]
theorem AA{W:World}{τ:Nat->Question->Nat}{d:Nat}{a:Addr}{v:Value}(h:(E0 X W τ d).cell? a=some v):W.cell? a=some v/\¬X a.block:=by
 unfold World.cell? at h ⊢
 have e:(E0 X W τ d).heap[a.block]?=(W.heap[a.block]?).map (Bw X a.block):=Bd W a.block;rw[e] at h;by_cases hx:X a.block
 ·cases ho:W.heap[a.block]? with
  | none=>rw[ho] at h;simp at h
  | some o=>rw[ho] at h;cases o<;>simp[Bw,hx] at h
 ·refine⟨?_,hx⟩;cases ho:W.heap[a.block]? with
  | none=>rw[ho] at h;simp at h
  | some o=>rw[ho] at h;simpa [Bw,hx] using h
def N6(Q:World->Prop):Prop:=∀u τ d,Q u->Q {u with tape:=τ,drawn:=d}
theorem AG.out{Q:World->Prop}(hQ:N6 Q){u:World}(h:AG Q u):Q u:=by
 obtain⟨u0,h1,h2⟩:=h;rw[UK h2];exact hQ _ _ _ h1
theorem S8{X':Nat->Prop}{W w':World}{B:Nat}{Q:World->Prop}(hQ:N6 Q){τ:Nat->Question->Nat}{d:Nat}(h:AG (λu=>∃τ d,Q u/\Below B (E0 X W τ d) u) (E0 X' w' τ d)):Q (E0 X' w' τ d)/\Below B (E0 X W τ d) (E0 X' w' τ d):=by
 obtain⟨u0,⟨τ0,d0,h1,h2⟩,h3⟩:=h;have e:=UK h3;refine⟨by rw[e];exact hQ _ _ _ h1,?_⟩;have e1:(E0 X' w' τ d).heap=u0.heap:=by rw[e]
 have e2:(E0 X' w' τ d).os=u0.os:=by rw[e]
 have e3:(E0 X' w' τ d).output=u0.output:=by rw[e]
 exact⟨e2.trans h2.os,rfl,e3.trans h2.output,by rw[e1];exact h2.size,λk hk=>by rw[e1];exact h2.block k hk⟩
theorem JG{X':Nat->Prop}{W w':World}{B:Nat}(os:w'.os=W.os)(out:w'.output=W.output)(size:W.heap.size<=w'.heap.size)(low:∀b,b<B->w'.heap[b]?=W.heap[b]?)(hX:∀b,b<B->(X' b↔X b))(τ:Nat->Question->Nat)(d:Nat):Below B (E0 X W τ d) (E0 X' w' τ d):=by
 refine⟨os,rfl,out,by rw[I5,I5];exact size,λk hk=>?_⟩;show (pz X' w').heap[k]?=(pz X W).heap[k]?
 rw[Bd,Bd,low k hk];cases W.heap[k]? with
 | none=>rfl
 | some o =>
  by_cases h:X k
  ·have h':=(hX k hk).2 h;simp[Bw,h,h']
  ·have h':¬X' k:=mt (hX k hk).1 h;simp[Bw,h,h']
theorem Al{r:Code}{l:List Code}{Q:Exit->Act->World->Prop}{a:Act}{w:World}(h:∀K:Act->World->Prop,(∀a w,BG P l Q a w->K a w)->r.wp P (Exit.then K Q) a w):BG P (r::l) Q a w:=h _ λ_ _ h=>h
theorem OI{s:Nat->Bool}(S:M6 P s){b:Frame}(hb:Cm P b){Q:Act->World->Prop}(r c B:Code)(hr:O0 P s r=true)(k:List Item)(bw:List Frame):∀(l:List Code),(∀r∈l,O0 P s r=true)->∀{a:Act} {w:World},a.defers=[]->M1 X w->
  (∀τ d,AG (BG P (l++[r]) (λe a' u'=>e=.normal/\Q a' u') a) (E0 X w τ d))->
  Bx P X (KH X b (.code c::.code B::k) bw Q) (G (b.at a (.code (Bz l (.seq (.seq r c) B))::k)) bw) w
 | [],_,a,w,hd,hw,h=>by
  refine .one rfl (λx=>stepG_seq) (.one rfl (λx=>stepG_seq) ?_);refine Gb S hr hb hd hw (λτ d=>?_) (.code c::.code B::k) bw;obtain⟨u0,h1,h2⟩:=h τ d
  exact⟨u0,wp_mono h1 (λe a' u' hq=>by
   cases e with
   | normal=>exact hq
   | _=>exact absurd hq.1 (by simp)),h2⟩
 | r'::l,hl,a,w,hd,hw,h=>by
  refine .one rfl (λx=>stepG_seq) ?_;refine (Gb S (hl r' (by simp)) hb hd hw (Q:=λa' u=>BG P (l++[r]) (λe a' u'=>e=.normal/\Q a' u') a' u) (λτ d=>?_) (.code (Bz l (.seq (.seq r c) B))::k) bw).bind λg w' ⟨a',h1,h2,h3,h4⟩=>?_
  ·obtain⟨u0,h1,h2⟩:=h τ d
   exact⟨u0,wp_mono h1 (λe a' u' hq=>by
    cases e with
    | normal=>exact⟨rfl,hq⟩
    | _=>exact absurd hq.1 (by simp)),h2⟩
  ·subst h1;exact OI S hb r c B hr k bw l (λr hr=>hl r (by simp[hr])) h2 h3 h4
def Y9(Shun:Loc->Prop)(X:Nat->Prop):Prop:=∀l,Shun l->∃a,l=.cell a/\X a.block
def AB(P:Program)(f:FuncId)(args:Array Value)(X:Nat->Prop)(Shun:Loc->Prop)(W:World)(R:Value->World->Prop):Prop :=
 ∀(Post:Value->World->Prop)(c:Frame)(cs:List Frame)(gs:Array Goroutine)(sl:Option (Nat×Nat)) (t:Trace),G6 P Shun gs (G (Frame.enter P f args .normal) (c::cs)) t->
  (∀X' Shun' gs' w' sl' t' v,Y9 Shun' X'->(∀b,X' b->X b∨W.heap.size<=b)->G6 P Shun' gs' (G (c.finish v) cs) t'->M1 X' w'->(∀τ d,R v (E0 X' w' τ d)/\Below W.heap.size (E0 X W τ d) (E0 X' w' τ d))->E7 P Post (crowd gs' w' sl') t')->
  E7 P Post (crowd gs W sl) t
end
end Go.Proofs.YtcgkgmmclfeohaaGreatDoor
namespace Go.Proofs.YtcgkgmmclfeohaaGreatDoor
open Go.Proofs.Tryz
open Go.Conc
theorem Sj:prog.globals.size=gN:=by kernel_rfl
theorem Sk:((List.range gN).all λg=>(((begin prog (λ_ _=>0) default).world.heap[g]?).bind Obj.row?).isSome)=true:=by kernel_rfl
theorem WA{W:World}(h:W.ShapedOpen prog)(b:Nat)(c:Array Value)(t:TypeId)(hb:W.heap[b]?=some (Obj.pending c t)):gN<=b:=by
 refine Nat.le_of_not_lt λhlt=>?_;have h1:=List.all_eq_true.1 Sk b (List.mem_range.2 hlt);obtain⟨⟨a0,e⟩,hr⟩:=Option.isSome_iff_exists.1 h1;obtain⟨cs,hc,_⟩:=h.1 b a0 e (by rw[Sj];exact hlt) hr;rw[hc] at hb;cases hb
section
variable {P:Program} {main:Bool} {b:Frame} {a:Act} {k:List Item} {cs:List Frame} {w:World}
theorem JH{ops:Array Oper}{i:Nat}{rest:List Nat}{o:Oper}{K:Goroutine->World->Array Event->Prop}{f:FuncId}{fn:Func}{args:Array Operand}{ats:Array TypeId}(vs:Array Value)
  (ho:ops[i]?=some o) (hw:Region.wanted o (yielded ops a.tmps)=true) (hk:b.kind≠.early) (hop:o.op=.call {callee:=.value (.func f),args,argTypes:=ats})
  (hf:P.funcs[f]?=some fn) (hname:(fn.name == "runtime.NumGoroutine")=false) (hb:fn.body.isNone=false) (hvs:args.map a.eval=vs)
  (h:K (G (Frame.enter P f vs .normal) (b.at a (.inRegion ops (i::rest)::k)::cs)) w #[]) :
  (stepG P main (G (b.at a (.inRegion ops (i::rest)::k)) cs) w).goes K:=by
 subst hvs;rw[stepG_enter ho hw hk (run_call_body hop hf hname hb)];have:listed P b.fn a o w=#[]:=by unfold listed;rw[events_call_body hop hf hname hb];exact seen_none P _
 rw[this];exact h
end
end Go.Proofs.YtcgkgmmclfeohaaGreatDoor
namespace Go.Proofs.YtcgkgmmclfeohaaGreatDoor
open Go.Proofs.Tryz
open Go.RowKit
def pk(hb:Nat->Bool)(l:List BA):Nat->List BA
 | 0=>[]
 | k+1=>pk hb l k++if hb k=true then [l.getD k ByteArray.empty] else []
theorem Sl{hb hb':Nat->Bool}(l:List BA):∀n,(∀k,k<n->hb k=hb' k)->pk hb l n=pk hb' l n
 | 0,_=>rfl
 | n+1,h=>by rw[pk,pk,Sl l n λk hk=>h k (by omega),h n (by omega)]
theorem PK(hb:Nat->Bool)(l:List BA):∀n,(pk hb l n).length<=n
 | 0=>by simp[pk]
 | n+1=>by have:=PK hb l n;rw[pk,A9];split<;>simp<;>omega
theorem Sm{hb:Nat->Bool}{l:List BA}:∀{n:Nat},n<=l.length->∀s∈pk hb l n,s∈l
 | 0,_,s,h=>by simp[pk] at h
 | n+1,hn,s,h=>by
  rw[pk,C9] at h;rcases h with h|h
  ·exact Sm (by omega) s h
  ·split at h
   ·simp at h;subst h;rw[A0 (by omega)];exact List.getElem_mem _
   ·simp at h
noncomputable def FO:Code:=Tryz.f42.body.getD .skip
theorem Ade{s:Nat}(hs:s<4294967296)(k:Nat):(bits .and .u32 ((s:Int) / 2 ^ k) 1==1)=s.testBit k:=by
 have h1:((s:Int) / 2 ^ k)=((s / 2 ^ k:Nat):Int):=by simp
 have h2:s / 2 ^ k<4294967296:=Nat.lt_of_le_of_lt (Nat.div_le_self _ _) hs;rw[h1,show (1:Int)=((1:Nat):Int) from rfl,u32_and_nat _ _ h2 (by omega),Nat.and_one_is_mod,Nat.testBit_eq_decide_div_mod_eq];rw[Bool.eq_iff_iff];simp only[beq_iff_eq,decide_eq_true_eq];omega
noncomputable def RP:Code:=match FO with | .seq _ (.seq _ r)=>r|_=>.skip
theorem AaL(tb:Nat)(tg:List BA)(ts:List Tr)(s:Nat)(fv:Value)(x9 x10 x11 x12 x13 x14 x15:Value)(w:World)(h:Bo w tb tg ts)(h5:ts.length<=5)(hs:s<4294967296){R:Value->World->Prop}(HR:Hid (∀v w',G3 w' w.heap.size v (pk (λk=>s.testBit k) (ts.map (·.1.nm)) ts.length)->Up w w'->R v w')):
  RP.wp prog (bodyPost prog Tryz.f42 λe w'=>∃v,e=.returned v/\R v w')
   ⟨#[Pz tb 0,fv,undef,undef,Nz,.int .u32 s,undef,undef,undef,x9,x10,x11,x12,x13,x14,x15,undef,undef,undef,undef,undef,undef,undef,undef,undef,undef,undef,undef,undef,undef,undef,undef,undef,undef,undef,undef,undef,undef],[]⟩ w:=by
 obtain⟨rv,hC,a3⟩:=h;obtain⟨t0,t1⟩:=hC.c2';obtain⟨ii,hi,a8,a9,b0⟩:=info_parts Bg;have b4:=hC.2.2
 obtain⟨ra,rc,rfl⟩:∃ra rc,rv=Vz ra ts.length rc:=by
  rcases a3.2 with⟨h0,h1⟩|⟨g,b1,cur,hv,_⟩
  ·exact⟨none,0,by rw[h0,h1]⟩
  ·exact⟨_,_,hv⟩
 simp only[RP,FO,Tryz.f42,Option.getD_some];go_wp2_with fail;(try dsimp only[Iz,Sz,Sy,Nz,Vz,Tz,Ez,Pz]);go_loopw [6,7,8,21] (λu _ _ i w'=>∃k:Nat,k<=ts.length/\i=.int .i64 k/\G3 w' w.heap.size u (pk (λk=>s.testBit k) (ts.map (·.1.nm)) k)/\Up w w') (λ_ _ _ i _=>ts.length-(intOf i).toNat)
 case atStart=>exact⟨0,by omega,rfl,⟨by simp[pk],.inl ⟨rfl,rfl⟩⟩,A4 _ _⟩
 case round =>
  obtain⟨k,hk,rfl,a0,hB⟩:=hrel;by_cases hp:k<ts.length
  ·obtain⟨p,a5⟩:∃p,ts[k]?=some p:=⟨_,A0 hp⟩;obtain⟨g,b1,hv⟩:=U5 a3 (by omega);cases hv
   obtain⟨r0,r1,r2,r3⟩:=EN (P0 a3 hB) a5
   have Hn:Hid ((ts.map (·.1.nm)).getD k ByteArray.empty=p.1.nm):=by
    show _=_
    rw[List.getD_eq_getElem?_getD,B3,a5];rfl
   have Hl:=PK (λk=>s.testBit k) (ts.map (·.1.nm)) k;generalize p.1.nm=nm at *;generalize G4 tg (D7 p.1.has)=hb at *;generalize G4 tg (D7 p.1.nd)=nb at *;generalize p.2=gone at *;obtain⟨W1,a6,kX,a7,b2⟩:=cbE1 wr [Tz nm,.int .u64 (hb:Nat),.int .u64 (nb:Nat),.bool gone] 108;clear a3 hC t0 t1;go_upto_region 6 with fail;try rw[a6]
   clear a6 r0 r1 r2 r3;have b3:¬((k:Int)<0):=by omega
   have a4:=Ade hs k;have HB1:Hid (Up w W1):=hB.trans (a7.mono hB.size);have a1:G3 W1 w.heap.size u6 (pk (λk=>s.testBit k) (ts.map (·.1.nm)) k):=G3.up a0 a7;clear a0;cases ht:s.testBit k with
   | false =>
    rw[ht] at a4
    have Hpk:Hid (pk (λk=>s.testBit k) (ts.map (·.1.nm)) (k+1)=pk (λk=>s.testBit k) (ts.map (·.1.nm)) k):=by
     show _=_
     rw[pk];simp[ht]
    clear ht;go_wp2_with fail;go_roundw
    case rel=>exact⟨k+1,by omega,by go_num,by rw[Hpk.out];exact a1,HB1.out⟩
    case measure=>simp[intOf];omega
   | true =>
    rw[ht] at a4
    have Hpk:Hid (pk (λk=>s.testBit k) (ts.map (·.1.nm)) (k+1)=pk (λk=>s.testBit k) (ts.map (·.1.nm)) k++[nm]):=by
     show _=_
     rw[pk];simp only[ht,if_true];rw[Hn.out]
    clear ht Hn;clear b2;have e0:=kX.1 0 _ rfl;generalize pk (λk=>s.testBit k) (ts.map (·.1.nm)) k=pl at *;have a2:=P0 a1 ((A4 W1.heap.size W1).alloc (A3 _) (Kz [Tz nm] 9));have HB2:Hid (Up w (W1.alloc (Kz [Tz nm] 9))):=HB1.out.alloc HB1.out.size (Kz [Tz nm] 9);go_wp2_with (at_builtin;refine wpList_append_own _ rfl _ _ 23 rfl w.heap.size 9 ii _ 1 16 underlying23 hi a8 a9 b0 rfl (by decide) _ _ _ rfl a2 ⟨W1.heap.size,0,none⟩ 1 1 [Tz nm] rfl rfl (BZ _ _ _) (Gk _) (by unfold maxLen;omega) (by omega) HB2.out.size ?_)
    intro v1 w1 hown4 hgrow4 _;have HB3:Hid (Up w w1):=O6 HB2.out a2 hgrow4 (A3 _);clear a1 a2 hgrow4 e0 kX
    have Ho4:Hid (G3 w1 w.heap.size v1 (pk (λk=>s.testBit k) (ts.map (·.1.nm)) (k+1))):=by
     show G3 _ _ _ _
     rw[Hpk.out];unfold G3;rw[A9,List.map_append];exact hown4
    clear hown4;go_wp2_with fail;go_roundw
    case rel=>exact⟨k+1,by omega,by go_num,Ho4.out,HB3.out⟩
    case measure=>simp[intOf];omega
  ·have Ho:Hid (∀u,G3 wr w.heap.size u (pk (λk=>s.testBit k) (ts.map (·.1.nm)) k)->G3 wr w.heap.size u (pk (λk=>s.testBit k) (ts.map (·.1.nm)) ts.length)):=λu h=>by
    obtain rfl:k=ts.length:=by omega
    exact h
   go_wp2_with fail;go_ret;exact⟨_,rfl,HR.out _ _ (Ho.out _ a0) hB⟩
theorem Adf:(prog.info? 108).map (λi=>(i.zero,i.size,i.bytes))=some (some (.agg #[Ez,.int .u64 0,.int .u64 0,.bool false]),4,40):=by kernel_rfl
def Z4(bs:List Ba)(k:Nat):List Tr:=(bs.take k).map λx=>(x,false)
theorem OJ(bs:List Ba)(k:Nat):(Z4 bs k).map (·.1)=bs.take k:=by rw[Z4,List.map_map];exact List.map_id _
theorem JI{bs:List Ba}{k:Nat}(h:k<=bs.length):(Z4 bs k).length=k:=by simp[Z4];omega
theorem Sn{bs:List Ba}{k:Nat}(h:k<bs.length):Z4 bs (k+1)=Z4 bs k++[(bs[k],false)]:=by
 rw[Z4,A7 h,List.map_append];rfl
theorem Adg{bs:List Ba}{k:Nat}(h:¬k<bs.length):Z4 bs k=Z4 bs bs.length:=by
 rw[Z4,Z4,D1 (by omega),List.take_length]
theorem YG(tg:List BA)(bs:List Ba):G4 tg (D7 tg)=G4 tg (U1 (Z4 bs 0)):=Em λt ht=>by
 rw[(S0 _ _).2 ht];rfl
theorem Ah1(w:World)(x y z u:Value)(ty:TypeId){j:Nat}{v:Value}(h:[x,y,z,u][j]?=some v):(w.alloc (Kz [x,y,z,u] ty)).cell? ((⟨w.heap.size,0,none⟩:Addr).add j)=some v:=by
 have:=(O7 w [x,y,z,u] ty).1 j v h;rw[Addr.add_mid];exact this
theorem LS(b:Bk)(v:Value)(w:World)(h:K6 w v b)(hok:I8 b):
  Calls prog 41 #[v] w λe w'=>(∃tb,e=.returned (.pointer (some ⟨tb,0,none⟩))/\Bo w' tb b.tg (Z4 b.bs b.bs.length)/\w.heap.size<=tb)/\Up w w':=by
 obtain⟨a1,c1,a2,c2,rfl,h1,h2⟩:=h.parts;have h8:=hok.1.1;have h5:=hok.2.1;have Ha:Hid (CQ b.bs):=hok.2.2.2.2.2;obtain⟨W1,c9,kA,b2,e8⟩:=cbE1 w [.slice a1 (b).tg.length c1,.slice a2 (b).bs.length c2] 26;have f7:=b2.size;clear e8;obtain⟨ii,hi,e9,f1,f2⟩:=info_parts Adf;have Hf0:Hid (G4 b.tg (D7 b.tg)=G4 b.tg (U1 (Z4 b.bs 0))):=YG _ _;clear hok;go_in;go_upto_region 1 with fail;try rw[c9]
 clear c9;have l1:=h1.up b2;have l2:=h2.up b2;obtain⟨e0,e1⟩:=kA.c2';have b7:=kA.2.2;obtain⟨-,b4⟩:=l2.at;clear h h1 h2;go_wp2_with fail;refine (Ju b.tg b.tg _ _ _ l1 l1 h8).mono ?_;rintro e w' ⟨rfl,hw⟩;obtain rfl:=hw.symm;clear hw;rw[Hf0.out];obtain⟨W2,d0,kT,b5,f3⟩:=cbE1 W1 [.slice none 0 0,.int .u64 (G4 b.tg (U1 (Z4 b.bs 0)):Nat)] 106;go_upto_region 2 with fail;try rw[d0]
 clear d0;have d7:Bo W2 W1.heap.size b.tg (Z4 b.bs 0):=⟨_,kT,by simp[AN,Z4],.inl ⟨rfl,rfl⟩⟩;have g1:=(b5.cell (p:=⟨w.heap.size,1,none⟩) b7).trans e1;clear kT;go_wp2_with fail;clear g1;(try dsimp only[Iz,Sz,Sy,Nz,Vz,Tz,Ez,Pz]);go_loopw [5,6,17] (λ_ _ i w'=>∃k:Nat,k<=b.bs.length/\i=.int .i64 k/\Bo w' W1.heap.size b.tg (Z4 b.bs k)/\Up W1 w') (λ_ _ i _=>b.bs.length-(intOf i).toNat)
 case atStart=>exact⟨0,by omega,rfl,d7,b5⟩
 case round =>
  clear d7 b5 f3;obtain⟨k,hk,rfl,hT,hB⟩:=hrel;by_cases hp:k<b.bs.length
  ·obtain⟨bb,o,rfl,hS,hb⟩:=b4 (by omega);obtain⟨a3,d3,a4,d4,c3,c4,c5,l3,l4,-⟩:=(hS.at hp).cells;have c3:=(hB.cell (p:=⟨bb,o+k*3,none⟩) hb).trans c3;have c4:=(hB.cell (p:=⟨bb,o+k*3+1,none⟩) hb).trans c4;have c5:=(hB.cell (p:=⟨bb,o+k*3+2,none⟩) hb).trans c5
   have HF:Hid (G4 b.tg (U1 (Z4 b.bs k))=G4 b.tg (D7 (b.bs[k]).has)+G4 b.tg (U1 (Z4 b.bs (k+1)))):=by
    show _=_
    rw[Sn hp];exact XO Ha.out hp (OJ _ _) _
   have HR:Hid (AN b.tg (Z4 b.bs (k+1))=AN b.tg (Z4 b.bs k)++Gl b.tg (b.bs[k],false)):=by
    show _=_
    rw[Sn hp,MN]
   have d8:(Z4 b.bs k).length=k:=JI (by omega);have a9:(Z4 b.bs (k+1)).length=k+1:=JI (by omega);generalize b.bs[k]=x0 at *;obtain⟨W3,d1,kX,b6,f4⟩:=cbE1 wr [.string (x0).nm,.slice a3 (x0).has.length d3,.slice a4 (x0).nd.length d4] 57;go_upto_region 5 with fail;try rw[d1]
   have a8:=D4 hB b6;have d9:=hT.up b6;have f8:=hT.lt;obtain⟨⟨d2,d5,d6⟩,-⟩:=kX.c3;have f0:=(a8.cell (p:=⟨w.heap.size,0,none⟩) b7).trans e0;clear d1 c3 c4 c5 b6 hT hB hS;generalize wr.heap.size=xb at *;clear f4;have b8:=kX.2.2;have mk:∀w',Up W3 w'->Up W1 w'/\w'.cell? ⟨w.heap.size,0,none⟩=some (.slice a1 b.tg.length c1)/\w'.cell? ⟨xb,0,none⟩=some (.string x0.nm)/\w'.cell? ⟨xb,1,none⟩=some (.slice a3 x0.has.length d3)/\w'.cell? ⟨xb,2,none⟩=some (.slice a4 x0.nd.length d4):=λw' hb=>⟨D4 a8 hb,(hb.cell (p:=⟨w.heap.size,0,none⟩) (A1 b7 a8.size)).trans f0,(hb.cell (p:=⟨xb,0,none⟩) b8).trans d2,(hb.cell (p:=⟨xb,1,none⟩) b8).trans d5,(hb.cell (p:=⟨xb,2,none⟩) b8).trans d6⟩;go_wp2_with fail
   go_region_held (λw'=>Up W1 w'/\w'.cell? ⟨w.heap.size,0,none⟩=some (.slice a1 b.tg.length c1)/\w'.cell? ⟨xb,0,none⟩=some (.string x0.nm)/\w'.cell? ⟨xb,1,none⟩=some (.slice a3 x0.has.length d3)/\w'.cell? ⟨xb,2,none⟩=some (.slice a4 x0.nd.length d4)) (first|exact mk _ (A4 _ _).drew|exact mk _ (((A4 _ _).alloc (A3 _) _).drew)|exact mk _ (by go_grown))
    (first
     | (go_at_call_of 58 (Value.slice a3 x0.has.length d3);refine (Ju b.tg x0.has _ _ _ (l1.up (And.left (by assumption))) (l3.up (And.left (by assumption))) h8).mono ?_;rintro e w' ⟨rfl,hw⟩;obtain rfl:=hw.symm;clear hw)
     | (go_at_call_of 58 (Value.slice a4 x0.nd.length d4);refine (Ju b.tg x0.nd _ _ _ (l1.up (And.left (by assumption))) (l4.up (And.left (by assumption))) h8).mono ?_;rintro e w' ⟨rfl,hw⟩;obtain rfl:=hw.symm;clear hw))
   all_goals
    have b9:=((A4 W3.heap.size W3).alloc (A3 _) (.cells #[.string x0.nm,.int .u64 (G4 b.tg (D7 x0.has):Nat),.int .u64 (G4 b.tg (D7 x0.nd):Nat),.bool false] 108)).drew;have kR:CB (W3.alloc (.cells #[.string x0.nm,.int .u64 (G4 b.tg (D7 x0.has):Nat),.int .u64 (G4 b.tg (D7 x0.nd):Nat),.bool false] 108)).drew W3.heap.size [.string x0.nm,.int .u64 (G4 b.tg (D7 x0.has):Nat),.int .u64 (G4 b.tg (D7 x0.nd):Nat),.bool false]:=O7 W3 _ _;generalize (W3.alloc (.cells #[.string x0.nm,.int .u64 (G4 b.tg (D7 x0.has):Nat),.int .u64 (G4 b.tg (D7 x0.nd):Nat),.bool false] 108)).drew=W4 at *;have e2:=D4 a8 b9;obtain⟨rv,kT,a7⟩:=d9.up b9;rw[d8] at a7;have f9:=a8.size;have n1:=U6 h8 (D7 x0.has);have n2:=U6 h8 (D7 x0.nd);have n3:=U6 h8 (U1 (Z4 b.bs k));have hF:=HF.out;have HE:Hid (∀W v1,CB W W1.heap.size [v1,.int .u64 (G4 b.tg (U1 (Z4 b.bs (k+1))):Nat)]->W.ownsRow (W1.heap.size+1) 108 4 v1 (k+1) (AN b.tg (Z4 b.bs k)++[.string x0.nm,.int .u64 (G4 b.tg (D7 x0.has):Nat),.int .u64 (G4 b.tg (D7 x0.nd):Nat),.bool false])->Bo W W1.heap.size b.tg (Z4 b.bs (k+1))):=λW v1 q1 q2=>⟨v1,q1,by rw[a9,HR.out];exact q2⟩;clear d9 mk f0 d2 d5 d6 kX HR HF a8 b9 d8 a9;generalize G4 b.tg (D7 x0.has)=hbn at *;generalize G4 b.tg (D7 x0.nd)=nbn at *;generalize G4 b.tg (U1 (Z4 b.bs k))=fb at *;generalize G4 b.tg (U1 (Z4 b.bs (k+1)))=fb2 at *;generalize AN b.tg (Z4 b.bs k)=rws at *;have c6:IntKind.u64.wrap ((fb:Int)-(hbn:Int))=(fb2:Int):=by rw[EW (by omega) (by omega)];omega
    have b0:(fb:Int)-(hbn:Int)=(fb2:Int):=by omega
    clear hF;obtain⟨⟨t0,t1⟩,u0,u1⟩:=kT.c2;have r0:=kR.1 0 _ rfl;have r1:=kR.1 1 _ rfl;have r2:=kR.1 2 _ rfl;have r3:=kR.1 3 _ rfl;simp only[Nat.zero_add] at r0 r1 r2 r3;have g0:=kR.2.2;generalize W3.heap.size=rb at *;have f5:rb≠W1.heap.size:=by omega
    go_wp2_with fail;go_region
    have b3:CB (W4.setCell ⟨W1.heap.size,1,none⟩ (.int .u64 (fb2:Nat))).drew W1.heap.size [rv,.int .u64 (fb2:Nat)]:=kT.set (j:=1) (by simp);have a5:(W4.setCell ⟨W1.heap.size,1,none⟩ (.int .u64 (fb2:Nat))).drew.ownsRow (W1.heap.size+1) 108 4 rv k rws:=J0 a7 (Cb (E6 (F4 _ _) _)) (by omega);have b1:CB (W4.setCell ⟨W1.heap.size,1,none⟩ (.int .u64 (fb2:Nat))).drew rb [.string x0.nm,.int .u64 (hbn:Nat),.int .u64 (nbn:Nat),.bool false]:=kR.other (by omega);have e3:Up W1 (W4.setCell ⟨W1.heap.size,1,none⟩ (.int .u64 (fb2:Nat))).drew:=(e2.setCell (p:=⟨W1.heap.size,1,none⟩) (A3 _) _).drew;clear t0 t1 u0 u1 r0 r1 r2 r3 kT kR a7 e2 c6 b0;generalize (W4.setCell ⟨W1.heap.size,1,none⟩ (.int .u64 (fb2:Nat))).drew=W5 at *;obtain⟨⟨t0,t1⟩,u0,u1⟩:=b3.c2;have r0:=b1.1 0 _ rfl;have r1:=b1.1 1 _ rfl;have r2:=b1.1 2 _ rfl;have r3:=b1.1 3 _ rfl;simp only[Nat.zero_add] at r0 r1 r2 r3;have c7:=b3.2.2;have a0:=P0 (W:=W5.drew) a5 ((A4 W5.heap.size W5.drew).alloc (A3 _) (.cells #[.string x0.nm,.int .u64 (hbn:Nat),.int .u64 (nbn:Nat),.bool false] 108));have e4:=(e3.drew).alloc e3.drew.size (.cells #[.string x0.nm,.int .u64 (hbn:Nat),.int .u64 (nbn:Nat),.bool false] 108);have e5:CB (W5.drew.alloc (.cells #[.string x0.nm,.int .u64 (hbn:Nat),.int .u64 (nbn:Nat),.bool false] 108)) W1.heap.size [rv,.int .u64 (fb2:Nat)]:=CB.up (w:=W5.drew) b3 ((A4 W5.heap.size W5.drew).alloc (A3 _) _) c7;go_wp2_with fail;go_region_law (refine O3 rfl _ _ 104 rfl (W1.heap.size+1) 108 ii _ 4 40 underlying104 hi e9 f1 f2 rfl (by decide) _ _ _ rfl a0 ⟨W5.heap.size,0,none⟩ 1 1 [.string x0.nm,.int .u64 (hbn:Nat),.int .u64 (nbn:Nat),.bool false] rfl rfl (λj u hj=>Ah1 W5.drew _ _ _ _ _ hj) (by simp[Value.oneCell']) (by unfold maxLen;omega) (by omega) (by simp;omega) ?_;intro v1 w1 hown1 hgr1;obtain⟨gg,cc,rfl⟩:=U5 hown1 (by omega);have c8:=e5.kept hgr1 (Af a0 (by omega));obtain⟨⟨z0,z1⟩,y0,y1⟩:=c8.c2)
    all_goals
     have e6:=O6 e4 a0 hgr1 (by omega);have e7:CB (w1.setCell ⟨W1.heap.size,0,none⟩ (.slice (some ⟨gg,0,none⟩) (k+1) cc)) W1.heap.size [.slice (some ⟨gg,0,none⟩) (k+1) cc,.int .u64 (fb2:Nat)]:=c8.set (j:=0) (by simp);have a6:=J0 hown1 (E6 (off:=0) (F4 w1 (some W1.heap.size)) (.slice (some ⟨gg,0,none⟩) (k+1) cc)) (by omega);have f6:=e6.setCell (p:=⟨W1.heap.size,0,none⟩) (A3 _) (.slice (some ⟨gg,0,none⟩) (k+1) cc);have HT7:Hid (Bo (w1.setCell ⟨W1.heap.size,0,none⟩ (.slice (some ⟨gg,0,none⟩) (k+1) cc)) W1.heap.size b.tg (Z4 b.bs (k+1))):=HE.out _ _ e7 a6;clear e7 a6 hown1 hgr1 c8 z0 z1 y0 y1 a0 e4 e5 r0 r1 r2 r3 t0 t1 u0 u1 e6 b3 a5 b1 HE;go_wp2_with fail;go_roundw
     case rel=>exact⟨k+1,by omega,by go_num,HT7.out,f6⟩
     case measure=>simp[intOf];omega
  ·have Hs:Hid (Z4 b.bs k=Z4 b.bs b.bs.length):=Adg hp;go_wp2_with fail;go_ret;exact⟨⟨_,rfl,by rw[← Hs.out];exact hT,by omega⟩,D4 b2 hB⟩
def Fe(ts:List Tr)(gone:List BA):Prop:=∀(i:Nat)(p:Tr),ts[i]?=some p->p.2=D7 gone p.1.nm
theorem YH(l:List BA)(s t:BA):D7 (l++[s]) t=(D7 l t || (s.toList==t.toList)):=by simp[D7]
theorem YI{bs:List Ba}(ha:AM (I3 bs)){ts:List Tr}(h:ts.map (·.1)=bs){gone:List BA}(hG:Fe ts gone){n:Nat}{p:Tr}(hp:ts[n]?=some p):Fe (ts.set n (p.1,true)) (gone++[p.1.nm]):=λi q hq=>by
 rw[YH];by_cases e:n=i
 ·subst e;rw[List.getElem?_set,if_pos rfl,if_pos (A2.1 hp).1] at hq;obtain rfl:=A5 hq;simp
 ·rw[List.getElem?_set,if_neg e] at hq;rw[hG i q hq]
  have:(p.1.nm.toList==q.1.nm.toList)=false:=by
   rw[← Bool.not_eq_true,beq_iff_eq];intro h1;refine e (IL ha (a:=p.1.nm) ?_ ?_)
   ·rw[I3,B3,En h hp];rfl
   ·rw[I3,B3,En h hq,GM h1];rfl
  rw[this,Bool.or_false]
theorem Adh{bs:List Ba}{ts:List Tr}(h:ts.map (·.1)=bs){n:Nat}{p:Tr}(hp:ts[n]?=some p):(ts.set n (p.1,true)).map (·.1)=bs:=by
 rw[List.map_set,h];have:=En h hp;obtain⟨hn,e⟩:=A2.1 this;show bs.set n p.1=bs
 rw[← e,List.set_getElem_self]
theorem Afa{bs:List Ba}{ts:List Tr}(h:ts.map (·.1)=bs){n:Nat}(hn:n<bs.length):∃p,ts[n]?=some p/\p.1=bs[n]:=by
 have hl:n<ts.length:=by rw[← h] at hn;simpa using hn
 refine⟨ts[n],A0 hl,?_⟩;have:=En h (A0 hl);rw[A0 hn] at this;exact (A5 this).symm
theorem YJ(bs:List Ba)(k:Nat):Fe (Z4 bs k) []:=λi p hp=>by
 rw[Z4,B3,B6] at hp;obtain⟨x,_,rfl⟩:=hp;rfl
theorem Eo{b:Bk}{nm:BA}{ls:List BA}(h:O8 b nm ls=0):D7 (I3 b.bs) nm=true:=by
 cases hm:D7 (I3 b.bs) nm
 ·rw[Lg hm] at h;omega
 ·rfl
theorem Ja{b:Bk}{nm:BA}{ls:List BA}(h:O8 b nm ls=0):J3 ls (N8 b nm):=by
 have hm:=Eo h;cases hp:pB (J3 ls (N8 b nm))
 ·rw[Nd hm hp] at h;omega
 ·exact U9.1 hp
theorem Fz{b:Bk}{nm:BA}{ls:List BA}(hok:I8 b)(h:O8 b nm ls=0):ls.length<=8:=by
 obtain⟨-,a0⟩:=BI (Eo h);have hp:=Ja h;rw[BL (A0 a0)] at hp;have h1:=Ac hp;have h2:=((Ai hok).2.2 b.bs[F3 b nm] (by simp)).2;omega
end Go.Proofs.YtcgkgmmclfeohaaGreatDoor
namespace Go.Proofs.YtcgkgmmclfeohaaGreatDoor
open Go.Proofs.Tryz
open Go.RowKit Go.Maps
theorem Mr{a b:BA}(h:a=b):Ending.returned (Tz a)=.returned (Tz b):=by rw[h]
theorem Adi(b:Bk)(v:Value)(s:BA)(w:World)(h:K6 w v b)(hs:s.size<=maxLen):
  Calls prog 146 #[v,Tz s] w λe w'=>e=.returned (Tz (Kl b s))/\Up w w':=by
 obtain⟨a1,c1,a2,c2,rfl,h1,h2⟩:=h.parts;have hC:CB (w.alloc (Kz [Vz a1 (b).tg.length c1,Vz a2 (b).bs.length c2] 26)) w.heap.size [Vz a1 b.tg.length c1,Vz a2 b.bs.length c2]:=O7 w _ _;have a0:=(A4 w.heap.size w).alloc (A3 _) (Kz [Vz a1 (b).tg.length c1,Vz a2 (b).bs.length c2] 26);go_in;go_upto_region 1 with fail;generalize w.alloc (Kz [Vz a1 (b).tg.length c1,Vz a2 (b).bs.length c2] 26)=W1 at *;have l2:=h2.up a0;have hk:=h.up a0;clear h h1 h2;obtain⟨e0,e1⟩:=hC.c2';have b0:=hC.2.2;go_wp2_with fail;refine (Cf b _ _ hk).mono ?_;rintro e w2 ⟨rfl,a7⟩;cases hq:J6 b
 ·have Hq:Hid (Kl b s=⟨#[]⟩):=by show _=_;rw[Kl,hq];rfl
  go_wp2_with fail;go_ret;exact⟨Mr Hq.out.symm,D4 a0 a7⟩
 have Hq:Hid (Kl b s=Ei b.bs s):=by show _=_;rw[Kl,if_pos hq]
 have a5:I8 b:=U9.1 hq;have h8:=Uw a5.1.1 a5.2.2.2.2.1;have h5:=a5.2.1;have hA:=a5.2.2.2.2.2;clear a5 hq;have f1:=(a7.cell (p:=⟨w.heap.size,1,none⟩) b0).trans e1;go_wp2_with fail;refine (LO b.bs _ _ (l2.up a7) h5 h8).mono ?_;rintro e w3 ⟨hh,b1⟩;have a8:=D4 a7 b1;rcases hh with⟨-,M,n,D,rfl,hmap,hD,-⟩|⟨hN,-⟩
 case inr=>exact absurd hA hN
 clear f1 b1 a7;have a6:keyOf prog 9 (Tz s)=some (kl s):=WideMaps.keyOf_string_mk underlying9 hs;have f1:=(a8.cell (p:=⟨w.heap.size,1,none⟩) b0).trans e1;cases ht:Maps.has D (kl s)
 ·have Hm:Hid (Kl b s=⟨#[]⟩):=by show _=_;rw[Hq.out];exact hD.whoNone (by omega) ht
  go_wp2_with (at_lookup;refine wpList_lookup_own_ok_int _ rfl _ _ 70 rfl 9 3 .i64 Ks underlying70 underlying3 (Ld _) M n D rfl hmap _ _ rfl a6 ?_;intro cc _ _)
  go_ret;exact⟨Mr Hm.out.symm,D4 a0 a8⟩
 ·obtain⟨i,hi,hz,hw⟩:=hD.who ht;have Hm:Hid (Kl b s=(b.bs[i]).nm):=by show _=_;rw[Hq.out];exact hw
  have Hz:Hid (∀cc:Int,D.atKey (kl s) (.lit (.int .i64 0))=.lit (.int .i64 cc)->cc=(i:Int)):=λcc h=>by
   rw[hz] at h;simpa using h.symm
  obtain⟨-,a9⟩:=l2.at;obtain⟨bb,o,rfl,hS,hb⟩:=a9 (by omega);obtain⟨a3,d3,a4,d4,c3,c4,c5,-,-,-⟩:=((hS.at hi).up a8 hb).cells;generalize b.bs[i]=x0 at *;clear hS hz hw hD Hq;go_wp2_with (at_lookup;refine wpList_lookup_own_ok_int _ rfl _ _ 70 rfl 9 3 .i64 Ks underlying70 underlying3 (Ld _) M n D rfl hmap _ _ rfl a6 ?_;intro cc hcc _;obtain rfl:=Hz.out cc hcc;clear hcc)
  go_ret;exact⟨Mr Hm.out.symm,D4 a0 a8⟩
end Go.Proofs.YtcgkgmmclfeohaaGreatDoor
namespace Go.Proofs.YtcgkgmmclfeohaaGreatDoor
open Go.Proofs.Tryz
open Go.RowKit
theorem Kc(b:Bk)(v:Value)(nm:BA)(w:World)(h:K6 w v b):
  Calls prog 12 #[v,Tz nm] w λe w'=>(∃v',e=.returned (.tuple #[v',Iz (Bc b nm)])/\N4 w' w.heap.size v' (S5 b nm))/\Up w w':=by
 obtain⟨a1,c1,a2,c2,rfl,-,-⟩:=h.parts;obtain⟨ii,hi,d5,d6,d7⟩:=info_parts CR;obtain⟨W1,d8,kA,kR,d2,g1⟩:=cbE2 w [Vz a1 (b).tg.length c1,Vz a2 (b).bs.length c2] 26 [Nz,Nz] 26;go_in;go_upto_region 1 with fail;try rw[d8]
 clear d8;have hk:=h.up d2;clear h;obtain⟨e0,e1⟩:=kA.c2';go_wp2_with fail;refine (DF b _ _ hk).mono ?_;rintro e w2 ⟨rfl,b6⟩;have g5:=b6.size;have kA:=kA.up b6 (by omega);have kR:=kR.up b6 (by omega);have hk:=hk.up b6;have hB:=D4 d2 b6;clear e0 e1 d2 b6;cases hok:J6 b
 ·obtain⟨⟨y0,y1⟩,f0,f1⟩:=kR.c2;have HC:Hid (Bc b nm=1/\S5 b nm=Z7):=GT hok;go_wp2_with fail;refine U2 results12 underlying26 rfl M4 kR rfl rfl ?_;exact⟨⟨_,Cx HC.out.1.symm,by rw[HC.out.2];exact Jr _ _⟩,I4 hB (Nat.le_succ _) _ _⟩
 obtain⟨e0,e1⟩:=kA.c2';go_wp2_with fail;refine (Io b _ _ hk (Ad hok)).mono ?_;rintro e w3 ⟨⟨xv,rfl,hX⟩,b7⟩;obtain⟨a3,c3,a4,c4,ps,rfl,x1,x2,x3⟩:=hX.parts;have g6:=b7.size;have kA:=kA.up b7 (by omega);have kR:=kR.up b7 (by omega);have hk:=hk.up b7;have hB:=D4 hB b7;clear e0 e1 b7 hX;go_upto_region 4 with fail;obtain⟨W4,d9,kX,a9,g2⟩:=cbE1 w3 [Vz a3 b.tg.length c3,Vz a4 b.bs.length c4] 26;rw[d9];clear d9;have kA:=kA.up a9 (by omega);have kR:=kR.up a9 (by omega);have hk:=hk.up a9;have hB:=D4 hB a9;have X1:=x1;have X2:=x2;have hL:=a9;have x1:=x1.up a9;have x2:=x2.up a9;clear a9;obtain⟨e0,e1⟩:=kA.c2';go_wp2_with fail;refine (GY b _ nm _ hk).mono ?_;rintro e w5 ⟨rfl,b4⟩;have g7:=b4.size;have kR:=kR.up b4 (by omega);have kX:=kX.up b4 (by omega);have hB:=D4 hB b4;have x1:=x1.up b4;have x2:=x2.up b4;have hL:=D4 hL b4;clear e0 e1 b4 kA hk;cases hm:D7 (I3 b.bs) nm
 ·have HC:Hid (Bc b nm=3/\S5 b nm=b):=DV hok hm;rw[Cd hm];obtain⟨⟨y0,y1⟩,f0,f1⟩:=kR.c2;obtain⟨⟨z0,z1⟩,-⟩:=kX.c2;go_wp2_with fail;refine U2 results12 underlying26 rfl M4 kR rfl rfl ?_;refine⟨⟨_,Cx HC.out.1.symm,?_⟩,I4 hB (Nat.le_succ _) _ _⟩;rw[HC.out.2];exact ((N4.set (N4.set ⟨_,_,ps,rfl,x1,x2,x3⟩ (by omega)) (by omega)).low (by omega))
 have HC:Hid (Bc b nm=0/\S5 b nm=⟨b.tg,b.bs.take (F3 b nm)++b.bs.drop (F3 b nm+1)⟩):=DB hok hm;obtain⟨b8,e8⟩:=BI hm;rw[b8];generalize F3 b nm=p at *;have g8:=(Ad hok).2.1;have f3:ps.length=b.bs.length:=by rw[← x3,B5]
 have a6:=x2.1;rw[f3] at a6;obtain⟨g,cp,e2⟩:=U5 a6 (by omega);obtain⟨rfl,-,rfl⟩:=Value.slice.inj e2;clear e2 b8 hm;obtain⟨g3,e9⟩:=GW a6;have f4:=a6.lt g rfl;obtain⟨⟨z0,z1⟩,-⟩:=kX.c2;have a5:At w5.drew w3.heap.size 1 (Sz g b.bs.length c4):=z1;clear z0 z1;unfold maxLen at e9;have g9:p<=c4:=by omega
 have h0:p+1<=b.bs.length:=e8;have h1:IntKind.i64.wrap ((p:Int)+1)=(p:Int)+1:=by rw[IntKind.wrap_i64];omega
 have h2:(p:Int)+1<=(b.bs.length:Int):=by omega
 have h3:0<=(p:Int)+1:=by omega
 have h4:¬(b.bs.length:Int)<(p:Int)+1:=by omega
 obtain⟨o2,g4,f2⟩:∃o2:Nat,(if c4=p+1 then some (⟨g,0,none⟩:Addr) else some ⟨g,(p+1)*3,none⟩)=some ⟨g,o2,none⟩/\(b.bs.length-(p+1)≠0->o2=(p+1)*3):=by
  by_cases h7:c4=p+1
  ·exact⟨0,by rw[if_pos h7],λh=>by omega⟩
  ·exact⟨(p+1)*3,by rw[if_neg h7],λ_=>rfl⟩
 go_wp2_with fail;refine T9 13 (λw'=>At w' w3.heap.size 1 (Sz g b.bs.length c4)) (by kernel_rfl) ?_;refine I2 1 rfl a5 ?_;refine I2 2 rfl a5 ?_;refine I2 3 rfl a5 ?_;refine I2 4 rfl a5 ?_;refine I2 6 rfl a5 ?_;refine I2 7 rfl a5 ?_;refine I2 8 rfl a5 ?_;refine I2 9 rfl a5 ?_;refine I2 10 rfl a5 ?_;have a8:=(Rg a6).alloc (Kz [] 57);have a0:(w5.drew.alloc (Kz [] 57)).ownsRow w5.heap.size 57 3 (Sz w5.heap.size 0 0) 0 []:=C0 w5.drew #[] 0 (A3 _) (by unfold maxLen;omega) rfl;have c9:Up w5 (w5.drew.alloc (Kz [] 57)):=((A4 w5.heap.size w5).drew).alloc (A3 _) _;have e3:At (w5.drew.alloc (Kz [] 57)) w3.heap.size 1 (Sz g b.bs.length c4):=(c9.cell (p:=⟨w3.heap.size,1,none⟩) (by show w3.heap.size<_;omega)).trans a5;refine T0 0 rfl (λK hK=>?_);go_simp;refine Y1 hK e3 ?_;clear hK K;have b0:=Cg a8 0 (ps.take p) (Ox ps p);have b9:=x2.one (ps.take p) (λq hq=>List.mem_of_mem_take hq);have c5:=x2.one (ps.drop (p+1)) (λq hq=>List.mem_of_mem_drop hq);have c6:(E4 (ps.take p)).length=p*3:=by rw[R7,B8];omega
 have c8:(E4 (ps.drop (p+1))).length=(b.bs.length-(p+1))*3:=by rw[R7,A8];omega
 refine T0 5 rfl (λK hK=>?_);refine O3 rfl _ _ 24 rfl w5.heap.size 57 ii _ 3 64 underlying24 hi d5 d6 d7 rfl (by decide) _ 0 [] rfl a0 ⟨g,0,none⟩ p c4 (E4 (ps.take p)) rfl c6 b0 b9 (by unfold maxLen;omega) (by omega) c9.size ?_;intro v1 w6 hown6 hgr6;have d0:=O6 c9 a0 hgr6 (A3 _);have b1:=P4 a8 hgr6 (RR (Af a0 f4.2));have e4:At w6 w3.heap.size 1 (Sz g b.bs.length c4):=(d0.cell (p:=⟨w3.heap.size,1,none⟩) (by show w3.heap.size<_;omega)).trans a5
 have b2:∀(j:Nat)(u:Value),(E4 (ps.drop (p+1)))[j]?=some u->w6.cell? ((⟨g,o2,none⟩:Addr).add j)=some u:=λj u hu=>by
  have hj:=(A2.1 hu).1;rw[f2 (by omega)];exact Cg b1 (p+1) (ps.drop (p+1)) (IR ps (p+1)) j u hu
 clear a8 b0 hgr6 b1 e3;refine Y1 hK e4 ?_;clear hK K;refine T0 11 rfl (λK hK=>?_);refine O3 rfl _ _ 24 rfl w5.heap.size 57 ii _ 3 64 underlying24 hi d5 d6 d7 rfl (by decide) v1 _ _ rfl hown6 ⟨g,o2,none⟩ (b.bs.length-(p+1)) _ (E4 (ps.drop (p+1))) rfl c8 b2 c5 (by unfold maxLen;omega) (by omega) d0.size ?_;intro v2 w7 hown7 hgr7;have b5:=O6 d0 hown6 hgr7 (A3 _);have d3:At w7 w3.heap.size 1 (Sz g b.bs.length c4):=(b5.cell (p:=⟨w3.heap.size,1,none⟩) (by show w3.heap.size<_;omega)).trans a5;have d4:=kX.up b5 (by omega);have e5:=kR.up b5 (by omega);have e6:=D4 hB b5;obtain⟨a7,c7,rfl⟩:=L9 hown7;obtain⟨⟨j0,j1⟩,m0,m1⟩:=d4.c2;clear b2 hgr7 hown6 a0 e4 d0 c9;refine Y1 hK d3 ?_;clear hK K;refine I2 12 rfl d3 ?_;refine T0 13 rfl (λK hK=>?_);go_simp;refine GU hK ?_;clear hK K;refine Y2 (by kernel_rfl) ?_ _;have hV:(Vz a7 (0+p+(b.bs.length-(p+1))) c7:Value)=Vz a7 (p+(b.bs.length-(p+1))) c7:=by rw[Nat.zero_add]
 rw[hV] at hown7;have f5:w3.heap.size<w5.heap.size:=by omega
 generalize hU:(Vz a7 (p+(b.bs.length-(p+1))) c7)=u7 at *;have f6:CB (w7.setCell ⟨w3.heap.size,1,none⟩ u7) w3.heap.size [Vz a3 b.tg.length c3,u7]:=d4.set (j:=1) (by simp);have e7:CB (w7.setCell ⟨w3.heap.size,1,none⟩ u7) (w.heap.size+1) [Nz,Nz]:=e5.other (by omega);have d1:Up w3 (w7.setCell ⟨w3.heap.size,1,none⟩ u7):=((hL.trans (b5.mono (by omega))).setCell (p:=⟨w3.heap.size,1,none⟩) (A3 _) _);have f7:Up w (w7.setCell ⟨w3.heap.size,1,none⟩ u7):=e6.setCell (p:=⟨w3.heap.size,1,none⟩) (by show _<=w3.heap.size;omega) _;have b3:(w7.setCell ⟨w3.heap.size,1,none⟩ u7).ownsRow w5.heap.size 57 3 u7 _ _:=J0 hown7 (E6 (F4 _ _) _) f5;have f8:=X1.up d1
 have f9:BM (w7.setCell ⟨w3.heap.size,1,none⟩ u7) w2.heap.size u7 (ps.take p++ps.drop (p+1)):=Ky (N1 b3 (by omega)) (by rw[AP];rfl) (by rw[A9,B8,A8];omega) (λq hq=>by
  have g0:q∈ps:=by
   rcases C9.1 hq with h|h
   ·exact List.mem_of_mem_take h
   ·exact List.mem_of_mem_drop h
  obtain⟨q1,q2,q3⟩:=X2.2 q g0;exact⟨q1.up d1,q2.up d1,q3⟩)
 have HM:Hid ((ps.take p++ps.drop (p+1)).map (·.1)=b.bs.take p++b.bs.drop (p+1)):=by
  show _=_
  rw[← x3,List.map_append,List.map_take,List.map_drop]
 subst hU;clear a5 d3 hown7 d4 e5 j0 j1 m0 m1 b5 e6 b3 X1 X2 x1 x2 kX kR hB hL d1;generalize w7.setCell ⟨w3.heap.size,1,none⟩ (Vz a7 (p+(b.bs.length-(p+1))) c7)=W8 at *;obtain⟨⟨y0,y1⟩,f0,f1⟩:=e7.c2;obtain⟨⟨z0,z1⟩,-⟩:=f6.c2;go_wp2_with fail;refine U2 results12 underlying26 rfl M4 e7 rfl rfl ?_;refine⟨⟨_,Cx HC.out.1.symm,?_⟩,I4 f7 (Nat.le_succ _) _ _⟩;rw[HC.out.2];exact ((N4.set (N4.set (b:=⟨b.tg,b.bs.take p++b.bs.drop (p+1)⟩) ⟨_,_,_,rfl,f8,f9,HM.out⟩ (by omega)) (by omega)).low (by omega))
end Go.Proofs.YtcgkgmmclfeohaaGreatDoor
