/- The program's chapter 13: the answer and its code; ShareLeave. -/
import Derived.Test.YtmfjakieahkacaaGreatDoorJ24
import Derived.Test.YtmfjakieahkacaaGreatDoorJ29
import Derived.Below
import Derived.Test.YtmfjakieahkacaaGreatDoorJ28
import Derived.RangeFuncRecord
import Derived.AtR
import Derived.Conc.CrowdRun
import Derived.Conc.Walk
import Derived.Test.YtmfjakieahkacaaGreatDoorJ21
import Derived.Test.YtmfjakieahkacaaGreatDoorKt7
import Derived.Test.YtmfjakieahkacaaGreatDoorKt8
set_option maxRecDepth 100000
set_option maxHeartbeats 4000000
namespace Go.Proofs.YtmfjakieahkacaaGreatDoor
open Go.RowKit
def Bf(w:World):Prop:=w.cell? ⟨0,0,none⟩=some (Value.iface 155 (.agg #[(Value.pointer (some ⟨1,74,none⟩))]))
theorem Bf.up{w w':World}(h:Bf w)(hb:Below w.heap.size w w'):Bf w':=(hb.cell (p:=⟨0,0,none⟩) (World.block_lt_of_cell? w ⟨0,0,none⟩ h)).trans h
end Go.Proofs.YtmfjakieahkacaaGreatDoor
namespace Go.Proofs.YtmfjakieahkacaaGreatDoor
open Go.Conc
section
variable {P:Program} {X:Nat->Prop} {s:Nat->Bool}
def TF(X:Nat->Prop)(c:Frame)(cs:List Frame)(R:Value->World->Prop)(g:Goroutine)(w:World):Prop :=
 ∃v,g=G (c.finish v) cs/\N9 X w/\∀τ d,Aq (R v) (E0 X w τ d)
theorem RU{w:World}{R:World->Value->World->Prop}{c:Frame}{cs:List Frame}{g:Goroutine}{w':World}(h:Left P X s (Gw P X w R) (c::cs) g w'):
  AU P X (TF X c cs λv u=>∃τ d,R (E0 X w τ d) v u) g w':=by
 have hr:g.status=.running:=by obtain⟨fe,rfl,_⟩:=h;rfl
 obtain⟨v,h1,h2,h3⟩:=PF h;refine .step hr (λ_=>G (c.finish v) cs) (λd=>w'.at d) (λd=>(h1 d).choose) (λd=>(h1 d).choose_spec.1) (λd=>(h1 d).choose_spec.2) (λd=>.stop λd'=>⟨v,rfl,(h2.at d).at d',λτ d''=>?_⟩);obtain⟨τ0,d0,u0,h4,h5⟩:=h3 τ d'';exact⟨u0,⟨τ0,d0,h4⟩,h5⟩
theorem VN(S:N0 P s){f:FuncId}(hf:s f=true){args:Array Value}{w:World}(hb:N9 X w){R:World->Value->World->Prop}
  (hc:∀τ d,Calls P f args (E0 X w τ d) λe u'=>∃v,e=.returned v/\R (E0 X w τ d) v u') (c:Frame) (cs:List Frame) (hbf:((P.funcs[f]?).bind (·.body)).isSome=true:=by kernel_rfl) :
  AU P X (TF X c cs λv u=>∃τ d,R (E0 X w τ d) v u) (G (Frame.enter P f args .normal) (c::cs)) w :=
 (Vl S hf hbf hb hc (c::cs)).bind λ_ _ h=>RU h
theorem VO(S:N0 P s){b:Frame}(hb:CC P b){a:Act}(hd:a.defers=[]){r:Code}(hr:N7 P s r=true){fn:Func}(hf:P.funcs[b.fn]?=some fn){w:World}(hw:N9 X w){R:Value->World->Prop}
  (h:∀τ d,Aq (λu=>r.wp P (bodyPost P fn λe u'=>∃v,e=.returned v/\R v u') a u) (E0 X w τ d)) (c:Frame) (cs:List Frame) :
  AU P X (TF X c cs R) (G (b.at a [.code r]) (c::cs)) w:=by
 have hok:N8 P s (b.at a [.code r]):=hb.ok hd (by intro i hi;simp at hi;subst hi;exact hr)
 have hst:St P X s Nm (Gw P X w λ_=>R) (b.at a [.code r]) [] w:=by
  refine⟨hok,by simp,hw,λτ d=>?_⟩;obtain⟨u0,h1,h2⟩:=h τ d;obtain⟨e,a',u',hq,harr⟩:=h1 b [] [c0 P]
  have go:∀{N:Nat} {fe:Frame} {u1:World} {v:Value},runN P N (lone (b.at a [.code r]) ([]++[c0 P]) u0)=.next (lone fe [c0 P] u1)->fe.leaving P u1 (.returned v)->R v u1->
    ∃N fe ue,runN P N (lone (b.at a [.code r]) ([]++[c0 P]) (E0 X w τ d))=.next (lone fe [c0 P] ue)/\Nm fe/\Gw P X w (λ_=>R) fe ue:=λ{N fe u1 v} hN hl hR=>by
   obtain⟨ve,q1,q2⟩:=shift S N hok (seg:=[]) (by simp) h2 hN;exact⟨N,fe,ve,q1,hl.1,λ_ _=>0,0,u1,v,hR,hl,q2⟩
  cases e with
  | normal =>
   obtain⟨hd',v,hres,v',e1,hR⟩:=hq;cases e1
   obtain⟨N,hN⟩:=Steps.trans harr (.one step_end);exact go hN ⟨rfl,hd',hb.kind,fn,hf,hres⟩ hR
  | ret =>
   obtain⟨hd',v,hres,v',e1,hR⟩:=hq;cases e1
   obtain⟨todo,N,hN⟩:=harr;exact go hN ⟨rfl,hd',hb.kind,fn,hf,hres⟩ hR
  | exit id=>exact hq.elim
  | goto l=>exact hq.elim
  | panic ch=>obtain⟨_,v,e1,_⟩:=hq;cases e1
  | outgrown=>obtain⟨v,e1,_⟩:=hq;cases e1
 exact (Nn S Ja (c::cs) hst).bind λ_ _ h=>(RU h).mono λg w' ⟨v,h1,h2,h3⟩=>⟨v,h1,h2,λτ d=>let ⟨u0,⟨_,_,q1⟩,q2⟩:=h3 τ d;⟨u0,q1,q2⟩⟩
end
end Go.Proofs.YtmfjakieahkacaaGreatDoor
namespace Go.Proofs.YtmfjakieahkacaaGreatDoor
open Go.Conc Go.RowKit
section
variable {P:Program} {X:Nat->Prop}
theorem RV{u v:World}(h:R4 (λ_=>False) u v):v={u with tape:=v.tape,drawn:=v.drawn}:=by
 have h1:=(h 0).eq_pz
 have h2:(pz (λ_=>False) u).heap=u.heap:=by
  apply Array.ext_getElem?
  intro b;rw[Cz];cases u.heap[b]? with
  | none=>rfl
  | some o=>simp[BQ]
 rw[h1];simp only[E0];rw[World.mk.injEq];exact⟨h2,rfl,rfl,rfl,rfl⟩
theorem K5(W:World)(τ:Nat->Question->Nat)(d:Nat):(E0 X W τ d).heap.size=W.heap.size:=by simp[E0,pz]
theorem Dm{W:World}{τ:Nat->Question->Nat}{d:Nat}{a:Addr}{v:Value}(h:(E0 X W τ d).cell? a=some v):W.cell? a=some v/\¬X a.block:=by
 unfold World.cell? at h ⊢
 have e:(E0 X W τ d).heap[a.block]?=(W.heap[a.block]?).map (BQ X a.block):=Cz W a.block;rw[e] at h;by_cases hx:X a.block
 ·cases ho:W.heap[a.block]? with
  | none=>rw[ho] at h;simp at h
  | some o=>rw[ho] at h;cases o<;>simp[BQ,hx] at h
 ·refine⟨?_,hx⟩;cases ho:W.heap[a.block]? with
  | none=>rw[ho] at h;simp at h
  | some o=>rw[ho] at h;simpa [BQ,hx] using h
def P4(Q:World->Prop):Prop:=∀u τ d,Q u->Q {u with tape:=τ,drawn:=d}
theorem Aq.out{Q:World->Prop}(hQ:P4 Q){u:World}(h:Aq Q u):Q u:=by
 obtain⟨u0,h1,h2⟩:=h;rw[RV h2];exact hQ _ _ _ h1
theorem U6{X':Nat->Prop}{W w':World}{B:Nat}{Q:World->Prop}(hQ:P4 Q){τ:Nat->Question->Nat}{d:Nat}(h:Aq (λu=>∃τ d,Q u/\Below B (E0 X W τ d) u) (E0 X' w' τ d)):Q (E0 X' w' τ d)/\Below B (E0 X W τ d) (E0 X' w' τ d):=by
 obtain⟨u0,⟨τ0,d0,h1,h2⟩,h3⟩:=h;have e:=RV h3;refine⟨by rw[e];exact hQ _ _ _ h1,?_⟩;have e1:(E0 X' w' τ d).heap=u0.heap:=by rw[e]
 have e2:(E0 X' w' τ d).os=u0.os:=by rw[e]
 have e3:(E0 X' w' τ d).output=u0.output:=by rw[e]
 exact⟨e2.trans h2.os,rfl,e3.trans h2.output,by rw[e1];exact h2.size,λk hk=>by rw[e1];exact h2.block k hk⟩
theorem Ie{X':Nat->Prop}{W w':World}{B:Nat}(os:w'.os=W.os)(out:w'.output=W.output)(size:W.heap.size<=w'.heap.size)(low:∀b,b<B->w'.heap[b]?=W.heap[b]?)(hX:∀b,b<B->(X' b↔X b))(τ:Nat->Question->Nat)(d:Nat):Below B (E0 X W τ d) (E0 X' w' τ d):=by
 refine⟨os,rfl,out,by rw[K5,K5];exact size,λk hk=>?_⟩;show (pz X' w').heap[k]?=(pz X W).heap[k]?
 rw[Cz,Cz,low k hk];cases W.heap[k]? with
 | none=>rfl
 | some o =>
  by_cases h:X k
  ·have h':=(hX k hk).2 h;simp[BQ,h,h']
  ·have h':¬X' k:=mt (hX k hk).1 h;simp[BQ,h,h']
theorem Y1{r:Code}{l:List Code}{Q:Exit->Act->World->Prop}{a:Act}{w:World}(h:∀K:Act->World->Prop,(∀a w,Bb P l Q a w->K a w)->r.wp P (Exit.then K Q) a w):Bb P (r::l) Q a w:=h _ λ_ _ h=>h
theorem Ms{s:Nat->Bool}(S:N0 P s){b:Frame}(hb:CC P b){Q:Act->World->Prop}(r c B:Code)(hr:N7 P s r=true)(k:List Item)(bw:List Frame):∀(l:List Code),(∀r∈l,N7 P s r=true)->∀{a:Act} {w:World},a.defers=[]->N9 X w->
  (∀τ d,Aq (Bb P (l++[r]) (λe a' u'=>e=.normal/\Q a' u') a) (E0 X w τ d))->
  AU P X (Jc X b (.code c::.code B::k) bw Q) (G (b.at a (.code (AM l (.seq (.seq r c) B))::k)) bw) w
 | [],_,a,w,hd,hw,h=>by
  refine .one rfl (λx=>stepG_seq) (.one rfl (λx=>stepG_seq) ?_);refine EM S hr hb hd hw (λτ d=>?_) (.code c::.code B::k) bw;obtain⟨u0,h1,h2⟩:=h τ d
  exact⟨u0,wp_mono h1 (λe a' u' hq=>by
   cases e with
   | normal=>exact hq
   | _=>exact absurd hq.1 (by simp)),h2⟩
 | r'::l,hl,a,w,hd,hw,h=>by
  refine .one rfl (λx=>stepG_seq) ?_;refine (EM S (hl r' (by simp)) hb hd hw (Q:=λa' u=>Bb P (l++[r]) (λe a' u'=>e=.normal/\Q a' u') a' u) (λτ d=>?_) (.code (AM l (.seq (.seq r c) B))::k) bw).bind λg w' ⟨a',h1,h2,h3,h4⟩=>?_
  ·obtain⟨u0,h1,h2⟩:=h τ d
   exact⟨u0,wp_mono h1 (λe a' u' hq=>by
    cases e with
    | normal=>exact⟨rfl,hq⟩
    | _=>exact absurd hq.1 (by simp)),h2⟩
  ·subst h1;exact Ms S hb r c B hr k bw l (λr hr=>hl r (by simp[hr])) h2 h3 h4
def AH(Shun:Loc->Prop)(X:Nat->Prop):Prop:=∀l,Shun l->∃a,l=.cell a/\X a.block
def CD(P:Program)(f:FuncId)(args:Array Value)(X:Nat->Prop)(Shun:Loc->Prop)(W:World)(R:Value->World->Prop):Prop :=
 ∀(Post:Value->World->Prop)(c:Frame)(cs:List Frame)(gs:Array Goroutine)(sl:Option (Nat×Nat)) (t:Trace),K1 P Shun gs (G (Frame.enter P f args .normal) (c::cs)) t->
  (∀X' Shun' gs' w' sl' t' v,AH Shun' X'->(∀b,X' b->X b∨W.heap.size<=b)->K1 P Shun' gs' (G (c.finish v) cs) t'->N9 X' w'->(∀τ d,R v (E0 X' w' τ d)/\Below W.heap.size (E0 X W τ d) (E0 X' w' τ d))->G4 P Post (crowd gs' w' sl') t')->
  G4 P Post (crowd gs W sl) t
end
end Go.Proofs.YtmfjakieahkacaaGreatDoor
namespace Go.Proofs.YtmfjakieahkacaaGreatDoor
open Go.Conc Go.ConcN Go.RowKit Go.Conc.Lib Go.ConcR.Gen Go.ConcN.Gen
open Go.ConcR (KK wgBlock WgAt stA smA rd wr mk Payload DC0)
theorem Mj.mono{p:K7}{A A' F:Goroutine->World->Prop}(h:∀g w,A g w->A' g w){v:Nat}{g:Goroutine}{w:World}(hh:Mj p A F v g w):Mj p A' F v g w :=
 ⟨hh.1,λu hu hw=>⟨(hh.2 u hu hw).1,λe=>let ⟨g',h1,m,h2⟩:=(hh.2 u hu hw).2 e;⟨g',h1,m,EJ (λ_ _ r=>r) (λ_ _ _ d=>d) h h2⟩⟩⟩
theorem ES.mono{p:K7}{A A' F:Goroutine->World->Prop}(h:∀g w,A g w->A' g w){g:Goroutine}{w:World}(hh:ES p A F g w):ES p A' F g w :=
 ⟨hh.1,λu hu hw=>let ⟨g',h1,h2,h3⟩:=hh.2 u hu hw;⟨g',h1,h2,λe=>let ⟨m,h4⟩:=h3 e;⟨m,EJ (λ_ _ r=>r) (λ_ _ _ d=>d) (λ_ _ x=>Mj.mono h x) h4⟩⟩⟩
def PP(p:K7)(V:World)(_hB:Nat)(cs:List Frame)(s:Int)(g:Goroutine)(w:World):Prop :=
 ∃T:Array Value,g=G (bN.at ⟨T,[]⟩ (.inRegion EE []::[.code PE])) cs/\T.size=17/\T[5]?=some (.pointer (some ⟨p.S,0,none⟩))/\SK p V w/\WgLive p.ty p.Wg w/\Ah p w s
section
variable {p:K7} {V:World} {hB:Nat} {cs:List Frame}
theorem ZW{g:Goroutine}{w:World}(h:RO p V hB cs g w):g.status=.running:=by
 obtain⟨T,_,_,_,U,rfl,_⟩:=h;rfl
theorem VP(hp:p.P=Tryz.prog)(o:p.Ok)(g:Goroutine)(w:World)(h:RO p V hB cs g w):∃m,Goes p.P true (R0 p Mt) DC0 (ES p (RO p V hB cs) (Xz p (PP p V hB cs))) m g w:=by
 obtain⟨T,hT,t5,t3,hA⟩:=h
 have hT0:∀s w,SK p V w->WgLive p.ty p.Wg w->Ah p w s->Goes p.P true AtRel DC0 (PP p V hB cs s) 0 (G (bN.at ((⟨T,[]⟩:Act).put ((EE[0]?).bind (·.dst)) (.tuple #[])) (.inRegion EE []::[.code PE])) cs) w:=λs w h1 h3 h2=>Goes.stop λw₁ r=>by
  refine⟨((⟨T,[]⟩:Act).put ((EE[0]?).bind (·.dst)) (.tuple #[])).tmps,?_,?_,?_,SK.r0 (M:=Mt) _ _ (JC r) h1,(JC (p:=p) (M:=Mt) r).rk.live h3,by obtain⟨d,rfl⟩:=r;exact h2⟩
  ·simp only[EE,RN,CT,Tryz.f50,Option.getD_some];rfl
  ·simp only[EE,RN,CT,Tryz.f50,Option.getD_some];simp[Act.put,hT]
  ·simp only[EE,RN,CT,Tryz.f50,Option.getD_some];simp[Act.put,t5]
 obtain⟨m,hm⟩:=AcA (L:=Le) (p:=p) (F:=SK p V) (Stp:=PP p V hB cs) (b₀:=bN) (a₀:=⟨T,[]⟩) (ops₀:=EE) (i₀:=0) (rest₀:=[]) (k₀:=[.code PE]) (cs:=cs) (mT:=0) (by rw[hp];exact YA) SK.r0 (λw a v ha h=>h.set o w a v ha) hT0 g w hA;exact⟨m,EJ (λ_ _ r=>r) (λ_ _ _ d=>d) (λ_ _ y=>ES.mono (λ_ _ z=>⟨T,hT,t5,t3,z⟩) y) hm⟩
theorem AdP(_hp:p.P=Tryz.prog){B0:Nat}(hB0:p.S<B0){b₀:Frame}{a₀:Act}{ops₀:Array Oper}{i₀:Nat}{rest₀:List Nat}{k₀:List Item}{cs:List Frame}{s:Int}{g:Goroutine}{w:World}(h:PP p V hB (b₀.at a₀ (.inRegion ops₀ (i₀::rest₀)::k₀)::cs) s g w):
  Goes Tryz.prog true AtRel (DE (EvL p.Sh B0)) (λg w=>g=G (b₀.at (a₀.put ((ops₀[i₀]?).bind (·.dst)) (.int .u32 s)) (.inRegion ops₀ rest₀::k₀)) cs/\SK p V w/\WgLive p.ty p.Wg w/\Ah p w s) 30 g w:=by
 obtain⟨T,rfl,hT,t5,hF⟩:=h;have rl:∀{w w₁:World},(SK p V w/\WgLive p.ty p.Wg w/\Ah p w s)->AtRel w w₁->SK p V w₁/\WgLive p.ty p.Wg w₁/\Ah p w₁ s:=λh r=>⟨SK.r0 (M:=Mt) _ _ (JC r) h.1,(JC (p:=p) (M:=Mt) r).rk.live h.2.1,by obtain⟨d,rfl⟩:=r;exact h.2.2⟩;obtain⟨v0,v1,v2,v3,v4,v5,v6,v7,v8,v9,v10,v11,v12,v13,v14,v15,v16,rfl⟩:=JE T hT;simp only[List.getElem?_toArray,List.getElem?_cons_succ,List.getElem?_cons_zero,Option.some.injEq] at t5;subst t5;simp only[EE,PE,RN,CT,Tryz.f50,Option.getD_some];u_c stepG_region_end rl hF
 u_c stepG_seq rl hF
 u_reg rl hF
 u_call Tryz.func77 (by kernel_rfl) Tryz.f77 rl hF
 u_c stepG_seq rl hF
 u_reg rl hF
 u_op rl hF
 u_c stepG_region_end rl hF
 u_c stepG_seq rl hF
 u_reg rl hF
 u_op rl hF
 u_op rl hF
 u_op rl hF
 u_in rl hF
 rw[stepG_load_atomic (v:=s) rfl rfl (by k_ne) rfl Tryz.func111 (by kernel_rfl) (by kernel_rfl) (by kernel_rfl) .u32 (by kernel_rfl) (ad:=⟨p.S,0,none⟩) rfl (by have:=hF.2.2;unfold Ah at this;simp[World.cell?,this])];simp only[goes_go];refine⟨λe he=>?_,?_⟩
 ·simp only[Array.mem_singleton] at he;subst he;refine⟨λx hx _=>?_,by simp,by simp,hB0⟩;simp only[ofEvent_cell0,MemAct.touch?,Option.some.injEq] at hx;subst hx;simp
 walk_nrm
 u_op rl hF
 u_c stepG_region_end rl hF
 u_c stepG_ret' rl hF
 u_leave1 Tryz.func77 rl hF
 u_op rl hF
 u_c stepG_region_end rl hF
 u_c stepG_ret' rl hF
 u_leave1 Tryz.func50 rl hF
 exact Goes.stop λw₁ r=>⟨rfl,rl hF r⟩
end
theorem Ku{V w:World}(h:AtRel V w)(ob:Obj):AtRel (V.alloc ob) (w.alloc ob)/\w.heap.size=V.heap.size:=by obtain⟨d,rfl⟩:=h;exact⟨⟨d,rfl⟩,rfl⟩
noncomputable def VA(W:World)(fv:Value):World:=W.alloc (.cells #[fv] 64)
noncomputable def VB(W:World)(fv:Value):World:=(VA W fv).alloc (.cells #[.int .u32 0] 132)
noncomputable def VC(W:World)(fv:Value):World:=(VB W fv).alloc (.cells #[.int .u64 0,.int .u32 0] 139)
section
variable {p:K7} {W:World} {cs:List Frame} {f:FuncId} {bd cap:Array Value} {fv:Value}
theorem JH:(VA W fv).heap.size=W.heap.size+1:=World.size_alloc W _
theorem Mu:(VB W fv).heap.size=W.heap.size+2:=(World.size_alloc _ _).trans (by rw[JH])
theorem ZX:(VC W fv).heap.size=W.heap.size+3:=(World.size_alloc _ _).trans (by rw[Mu])
theorem AcH(hfv:fv=.func (.func f) bd cap)(hS:p.S=W.heap.size+1)(hWg:p.Wg=W.heap.size+2):
  Goes Tryz.prog true AtRel (DE λ_=>False) (λg w=>Tu p W.heap.size 0 cs g/\AtRel (VC W fv) w) 30 (G (Frame.enter Tryz.prog 50 #[.int .i64 p.n,fv] .normal) cs) W:=by
 have e:Frame.enter Tryz.prog 50 #[.int .i64 p.n,fv] .normal=bN.at ⟨#[.int .i64 p.n,fv,undef,undef,undef,undef,undef,undef,undef,undef,undef,undef,undef,undef,undef,undef,undef],[]⟩ [.code CT]:=by
  simp[Frame.enter,Frame.at,Tryz.func50,bN,base,CT,Tryz.f50]
 rw[e];simp only[CT,Tryz.f50,Option.getD_some];have rl:∀{V w w₁:World},AtRel V w->AtRel w w₁->AtRel V w₁:=λh r=>atRel_trans _ _ _ h r;have hF:AtRel W W:=atRel_refl W;u_c stepG_seq rl hF
 u_reg rl hF
 subst hfv;u_in rl hF;refine goes_oper_k rfl rfl (by k_ne) (λK hK=>?_);go_simp;refine hK _ _ ⟨λe he=>(by have hm:=mem_listed he;simp[go_sem, *] at hm),?_⟩;clear hK K;replace hF:=Ku hF (.cells #[.func (.func f) bd cap] 64);rw[hF.2];replace hF:=hF.1
 u_op rl hF
 u_c stepG_region_end rl hF
 u_c stepG_seq rl hF
 u_reg rl hF
 u_in rl hF;refine goes_oper_k rfl rfl (by k_ne) (λK hK=>?_);go_simp;refine hK _ _ ⟨λe he=>(by have hm:=mem_listed he;simp[go_sem, *] at hm),?_⟩;clear hK K;replace hF:=Ku hF (.cells #[.int .u32 0] 132);rw[hF.2];replace hF:=hF.1
 u_c stepG_region_end rl hF
 u_c stepG_seq rl hF
 u_reg rl hF
 u_in rl hF;refine goes_oper_k rfl rfl (by k_ne) (λK hK=>?_);go_simp;refine hK _ _ ⟨λe he=>(by have hm:=mem_listed he;simp[go_sem, *] at hm),?_⟩;clear hK K;replace hF:=Ku hF (.cells #[.int .u64 0,.int .u32 0] 139);rw[hF.2];replace hF:=hF.1
 u_c stepG_region_end rl hF
 u_c stepG_seq rl hF
 u_c stepG_seq rl hF
 u_reg rl hF
 u_op rl hF
 u_op rl hF
 u_c stepG_region_end rl hF
 u_c stepG_block rl hF
 u_c stepG_loop rl hF
 exact Goes.stop λw₁ r=>⟨⟨_,rfl,by simp,by simp,by simp[hS],by simp[hWg],by simp,by simp⟩,rl hF r⟩
end
theorem Ig(hb:Nat->Bool):∀n,sumTo n (λj=>if hb j then 2 ^ j else 0)<2 ^ n
 | 0=>by simp[sumTo]
 | n+1=>by
  have:=Ig hb n;simp only[sumTo,Nat.pow_succ];split<;>omega
structure Aft (X:Nat->Prop) (W w:World):Prop where
 tape:w.tape=W.tape
 os:w.os=W.os
 output:w.output=W.output
 base:N9 (λb=>X b∨b=W.heap.size+1∨b=W.heap.size+2) w
 size:W.heap.size+3<=w.heap.size
 low:∀b,b<W.heap.size->w.heap[b]?=W.heap[b]?
def JI(Shun:Loc->Prop)(W:World)(n:Nat)(hb:Nat->Bool)(fv:Value):Prop :=
 ∀p:K7,p.P=Tryz.prog->p.ty=139->p.tS=132->p.Ok->p.Low=W.heap.size+3->p.Wg=W.heap.size+2->p.S=W.heap.size+1->p.Shun=Shun->(∀j,p.bit j=if hb j then 2 ^ j else 0)->
  ∀j,j<n->∀C w,p.Low<=C->EV p (VC W fv) C j w->∃e m,e<=2/\(e=0->p.bit j=0)/\Wk p j C (.int .i64 j) e (R6 C) m (born Tryz.prog (HU p.Wg W.heap.size C p.S)) w
theorem TG{X:Nat->Prop}{Shun:Loc->Prop}{Post:Value->World->Prop}(hX:∀l,Shun l->∃a,l=.cell a/\X a.block){W:World}(hbW:N9 X W){n:Nat}(hn:n<=5){hb:Nat->Bool}{f:FuncId}{bd cap:Array Value}
  (HW:JI Shun W n hb (.func (.func f) bd cap))
  {gs:Array Goroutine} {sl:Option (Nat×Nat)} {t:Trace} {b₀:Frame} {a₀:Act} {ops₀:Array Oper} {i₀:Nat} {rest₀:List Nat} {k₀:List Item} {cs:List Frame}
  (hh:K1 Tryz.prog Shun gs (G (Frame.enter Tryz.prog 50 #[.int .i64 n,.func (.func f) bd cap] .normal) (b₀.at a₀ (.inRegion ops₀ (i₀::rest₀)::k₀)::cs)) t)
  (k:∀gs' w' sl' t',K1 Tryz.prog (λl=>Shun l∨ShN (W.heap.size+2) l∨ShN (W.heap.size+1) l) gs' (G (b₀.at (a₀.put ((ops₀[i₀]?).bind (·.dst)) (.int .u32 ((sumTo n (λj=>if hb j then 2 ^ j else 0):Nat):Int))) (.inRegion ops₀ rest₀::k₀)) cs) t'->Aft X W w'->G4 Tryz.prog Post (crowd gs' w' sl') t') :
  G4 Tryz.prog Post (crowd gs W sl) t:=by
 let p0:Trace->Nat->K7:=λt0 m0=>{P:=Tryz.prog,ty:=139,tS:=132,Wg:=W.heap.size+2,S:=W.heap.size+1,Low:=W.heap.size+3,m0,n,bit:=λj=>if hb j then 2 ^ j else 0,Shun,t0}
 refine X4 (B0:=0) (λ_ _ _ h e he=>(h e he).elim) hh (AcH (p:=p0 #[] 0) (f:=f) (bd:=bd) (cap:=cap) rfl rfl rfl) λgs1 a1 w1 sl1 t1 hh1 hst=>?_;obtain⟨hhead,hat⟩:=hst;obtain⟨q1,hL1⟩:=hh1.leave;obtain⟨B1,hF1⟩:=hh1.fr;have hsz0:0<gs1.size:=(C9.1 hh1.zero).1;obtain⟨p,hpe⟩:∃p,p=p0 t1 gs1.size:=⟨_,rfl⟩;have hhead':Tu p W.heap.size 0 (b₀.at a₀ (.inRegion ops₀ (i₀::rest₀)::k₀)::cs) a1:=by rw[hpe];exact hhead
 have o:p.Ok:=by
  subst hpe;refine⟨by simp[p0],by simp[p0],by simp[p0],hsz0,λl hl=>?_,by simp only[p0];omega,?_⟩
  ·obtain⟨a,rfl,ha⟩:=hX l hl;have:=hbW.old _ ha;exact⟨a,rfl,by simp only[p0];omega,by simp only[p0];omega,by simp only[p0];omega⟩
  ·have h1:=Ig hb n;have h2:2 ^ n<=2 ^ 5:=Nat.pow_le_pow_right (by omega) hn;show sumTo n (λj=>if hb j then 2 ^ j else 0)<4294967296
   omega
 have hV:∀b,b<W.heap.size->(VC W (.func (.func f) bd cap)).heap[b]?=W.heap[b]?:=λb hb=>by
  unfold VC VB VA;rw[Below.heap_alloc _ _ _ (by rw[World.size_alloc,World.size_alloc];omega),Below.heap_alloc _ _ _ (by rw[World.size_alloc];omega),Below.heap_alloc _ _ _ hb]
 have vS:(VC W (.func (.func f) bd cap)).heap[W.heap.size+1]?=some (.cells #[.int .u32 0] 132):=by
  unfold VC;rw[Below.heap_alloc _ _ _ (by rw[Mu];omega)];unfold VB;have:=heap_alloc_new (VA W (.func (.func f) bd cap)) (.cells #[.int .u32 0] 132);rwa [JH] at this
 have vW:(VC W (.func (.func f) bd cap)).heap[W.heap.size+2]?=some (.cells #[.int .u64 0,.int .u32 0] 139):=by
  unfold VC;have:=heap_alloc_new (VB W (.func (.func f) bd cap)) (.cells #[.int .u64 0,.int .u32 0] 139);rwa [Mu] at this
 have vN:NV (VC W (.func (.func f) bd cap)):=by
  unfold VC VB VA;exact (Cm _ _ _).nv ((Cm _ _ _).nv ((Cm _ _ _).nv hbW.pend))
 have hsk:SK p (VC W (.func (.func f) bd cap)) w1/\WgLive p.ty p.Wg w1:=by
  obtain⟨d,rfl⟩:=hat;subst hpe;exact⟨⟨rfl,rfl,rfl,vN,Nat.le_of_eq ZX.symm,λ_ _ _ _=>rfl,⟨0,vS⟩⟩,⟨0,0,vW⟩⟩
 have hsum:Ah p w1 0:=by obtain⟨d,rfl⟩:=hat;subst hpe;exact vS
 have hwg:Go.ConcR.WgAt p.ty p.Wg w1 0 0:=by obtain⟨d,rfl⟩:=hat;subst hpe;exact vW
 obtain⟨m,hm⟩:=ZK (p:=p) (W:=VC W (.func (.func f) bd cap)) (hB:=W.heap.size) (cs:=b₀.at a₀ (.inRegion ops₀ (i₀::rest₀)::k₀)::cs) (by rw[hpe]) o (by rw[hpe];show n<=100;omega)
  (λj hj=>HW p (by rw[hpe]) (by rw[hpe]) (by rw[hpe]) o (by rw[hpe]) (by rw[hpe]) (by rw[hpe]) (by rw[hpe]) (by rw[hpe];intro j;rfl) j (by rw[hpe] at hj;exact hj)) p.n 0 (by omega)
 have hsp:Sp p (RO p (VC W (.func (.func f) bd cap)) W.heap.size (b₀.at a₀ (.inRegion ops₀ (i₀::rest₀)::k₀)::cs)) p.n a1 w1:=(Vt _ _ _ _ _).2 ⟨m,by
  have:=hm a1 w1 hhead' hsk;rw[show p.P=Tryz.prog by rw[hpe]];exact this⟩
 have ht0:p.t0=t1:=by rw[hpe]
 obtain⟨N,m',t',hr,gs2,a2,w2,sl2,q2,B2,rfl,hsz2,h02,hfin,hsum2,hL2,hF2⟩:=Ac9 (p:=p) (Fin:=Xz p (PP p (VC W (.func (.func f) bd cap)) W.heap.size (b₀.at a₀ (.inRegion ops₀ (i₀::rest₀)::k₀)::cs))) o (λg w h=>ZW h) (λg w h=>VP (by rw[hpe]) o g w h) (B:=B1) (by rw[hpe];exact hF1) (gs:=gs1) (a:=a1) (w:=w1) (sl:=sl1) (q:=q1) (by rw[hpe]) hh1.zero (by rw[hpe];exact hL1)
  hsk.1.size hwg hsum hsp
 rw[show p.P=Tryz.prog by rw[hpe],ht0] at hr;refine G4.of_run hr ?_;have hh2:K1 Tryz.prog p.Sh gs2 a2 t':=⟨h02,⟨q2,by rw[show Tryz.prog=p.P by rw[hpe]];exact hL2⟩,⟨B2,hF2⟩⟩;obtain⟨m2,hm2⟩:=hfin _ hsum2;rw[show p.P=Tryz.prog by rw[hpe]] at hm2;refine X4 (B0:=0) (λ_ _ _ h e he=>by rw[h.2] at he;simp at he) hh2 hm2 λgs3 a3 w3 sl3 t3 hh3 hst3=>?_;refine X4 (D:=DE (EvL p.Sh (p.S+1))) (B0:=p.S+1) (λ_ _ _ h=>h) hh3 (AdP (by rw[hpe]) (Nat.lt_succ_self _) hst3) λgs4 a4 w4 sl4 t4 hh4 hst4=>?_;obtain⟨rfl,hsk4,hlv4,hsum4⟩:=hst4;have hSh:p.Sh=(λl=>Shun l∨ShN (W.heap.size+2) l∨ShN (W.heap.size+1) l):=by subst hpe;rfl
 have hbit:sumTo p.n p.bit=sumTo n (λj=>if hb j then 2 ^ j else 0):=by subst hpe;rfl
 have hLow:p.Low=W.heap.size+3:=by rw[hpe]
 have hWg:p.Wg=W.heap.size+2:=by rw[hpe]
 have hS:p.S=W.heap.size+1:=by rw[hpe]
 rw[hSh,hbit] at hh4;refine k gs4 w4 sl4 t4 hh4 ⟨hsk4.tape,hsk4.os,hsk4.output,⟨λb hb=>?_,λb hb=>?_,hsk4.nv⟩,by have:=hsk4.size;omega,λb hb=>(hsk4.low b (by omega) (by omega) (by omega)).trans (hV b hb)⟩
 ·have:=hsk4.size;rcases hb with hb|hb|hb
  ·have:=hbW.old b hb;omega
  ·omega
  ·omega
 ·rcases hb with hb|rfl|rfl
  ·have hlt:=hbW.old b hb;obtain⟨c,e,hc⟩:=hbW.cov b hb;exact⟨c,e,((hsk4.low b (by omega) (by omega) (by omega)).trans (hV b hlt)).trans hc⟩
  ·rw[← hS];exact⟨_,_,hsum4⟩
  ·obtain⟨st,sm,hx⟩:=hlv4;rw[← hWg];exact⟨_,_,hx⟩
end Go.Proofs.YtmfjakieahkacaaGreatDoor
namespace Go.Proofs.YtmfjakieahkacaaGreatDoor
open Go.Conc
def DB(l:Nat)(es:Array Event):Prop:=∀e∈es,e.loc=.obj l
theorem Dd{P:Program}{f:FuncId}{es:Array Event}{l:Nat}(h:DB l es):DB l (seen P f es):=λe he=>h e (mem_seen he)
section
variable {P:Program} {l:Nat} {α β:Type}
def Dy(P:Program)(l:Nat)(q:Sem α):Prop:=∀w es,∀e∈q.events P w es,e∈es∨e.loc=.obj l
theorem Bc(a:α):Dy P l (Pure.pure a:Sem α):=λ_ _ _ h=>.inl h
theorem FO(k:Halt):Dy P l (Sem.halt k:Sem α):=λ_ _ _ h=>.inl h
theorem Ar{q:Sem α}{f:α->Sem β}(h:Dy P l q)(hf:∀a,Dy P l (f a)):Dy P l (q >>= f):=λw es e he=>by
 have he:e∈((q.bind f).runT P w es).2:=he;rw[Sem.runT_bind'] at he;have hq:=h w es;unfold Sem.events at hq;generalize q.runT P w es=r at he hq;match r,he,hq with
 | (.ok a w1,e1),he,hq=>exact (hf a w1 e1 e he).elim (hq e) .inr
 | (.halt k w1,e1),he,hq=>exact hq e he
theorem RX{k:Obj->Sem α}(hk:∀o,Dy P l (k o)):Dy P l (Sem.getObj l k):=λw es e he=>by
 unfold Sem.events at he;simp only[Sem.runT] at he;split at he
 ·exact .inl he
 ·rcases hk _ _ _ e he with h|h
  ·rcases Array.mem_push.1 h with h|rfl
   ·exact .inl h
   ·exact .inr rfl
  ·exact .inr h
 ·exact .inl he
theorem ZY{o:Obj}{k:Sem α}(hk:Dy P l k):Dy P l (Sem.setObj l o k):=λw es e he=>by
 unfold Sem.events at he;simp only[Sem.runT] at he;split at he
 ·exact .inl he
 ·rcases hk _ _ e he with h|h
  ·rcases Array.mem_push.1 h with h|rfl
   ·exact .inl h
   ·exact .inr rfl
  ·exact .inr h
 ·exact .inl he
theorem Rg{k:Program->Sem α}(hk:Dy P l (k P)):Dy P l (Sem.program k):=λw es e he=>hk w es e he
theorem Nx(m:String):Dy P l (runtimePanic (.error m):Sem α):=Rg (k:=λp=>goPanic (.iface p.rt.errorString (strVal m))) (FO _)
theorem Ih:Dy P l (Instr.getLoop l):=by
 unfold Instr.getLoop;refine Ar (RX λo=>Bc o) λo=>?_;cases o<;>first|exact Bc _|exact FO _
theorem FP(o:Obj):Dy P l (setObj l o):=ZY (Bc ())
theorem XM:Dy P l (getObj l):=RX λo=>Bc o
theorem VQ:Dy P l (Instr.beginRound l):=by
 unfold Instr.beginRound;refine Ar Ih λr=>Ar (FP _) λ_=>?_;split<;>first|exact Bc _|exact Nx _
theorem PQ:Dy P l (Instr.endLoop l):=by
 unfold Instr.endLoop;refine Ar Ih λr=>?_;split
 ·exact Ar (Nx _) λ_=>Ar (FP _) λ_=>Bc _
 ·exact Ar (FP _) λ_=>Bc _
theorem RY(j:Option Code):Dy P l (Instr.endRound l j):=Ar Ih λ_=>Ar (FP _) λ_=>Bc _
theorem XN:Dy P l (Instr.takeDeferred l):=by
 unfold Instr.takeDeferred;refine Ar XM λo=>?_;cases o<;>first|exact FO _|skip
 rename_i x;cases x<;>first|exact FO _|exact Ar (FP _) λ_=>Bc _
theorem VR(args:Array Value):Dy P l (Instr.yield l args):=by
 unfold Instr.yield;refine Ar Ih λr=>?_;split
 ·exact Ar (FO _) λ_=>Bc _
 ·exact Bc _
theorem FQ{q:Sem α}(h:Dy P l q)(w:World):DB l (q.events P w #[]):=λe he=>(h w #[] e he).elim (λh=>by simp at h) id
end
section
variable {P:Program} {main:Bool} {b:Frame} {a:Act} {k:List Item} {cs:List Frame} {w:World} {l:Nat}
theorem Mv{x y:Code}:stepG P main (G (b.atR a (.code (.seq x y)::k)) cs) w=.go (G (b.atR a (.code x::.code y::k)) cs) w #[]:=by simp[G,stepG,stepG.exec,Frame.atR]
theorem Ee{id:Nat}{ops:Array Oper}:stepG P main (G (b.atR a (.code (.region id ops false)::k)) cs) w=.go (G (b.atR a (.inRegion ops (List.range ops.size)::k)) cs) w #[]:=by simp[G,stepG,stepG.exec,Frame.atR]
theorem Co{ops:Array Oper}:stepG P main (G (b.atR a (.inRegion ops []::k)) cs) w=.go (G (b.atR a k) cs) w #[]:=by simp[G,stepG,stepG.exec,Frame.atR]
theorem Ny{id:Nat}{c:Code}:stepG P main (G (b.atR a (.code (.block id c)::k)) cs) w=.go (G (b.atR a (.code c::.inBlock id::k)) cs) w #[]:=by simp[G,stepG,stepG.exec,Frame.atR]
theorem Rh{id:Nat}:stepG P main (G (b.atR a (.inBlock id::k)) cs) w=.go (G (b.atR a k) cs) w #[]:=by simp[G,stepG,stepG.exec,Frame.atR]
theorem XO:stepG P main (G (b.atR a (.code .skip::k)) cs) w=.go (G (b.atR a k) cs) w #[]:=by simp[G,stepG,stepG.exec,Frame.atR]
theorem PR{c:Operand}{x y:Code}{t:Bool}(h:a.eval c=.bool t):stepG P main (G (b.atR a (.code (.cond c x y)::k)) cs) w=.go (G (b.atR a (.code (if t then x else y)::k)) cs) w #[]:=by
 have he:=Frame.eval_atR b a (.code (.cond c x y)::k);simp only[Frame.atR] at he;simp[G,stepG,stepG.exec,Frame.atR,he,h]
theorem XP{ops:Array Oper}{i:Nat}{rest:List Nat}{o:Oper}(ho:ops[i]?=some o)(hw:Region.wanted o (yielded ops a.tmps)=true)(hd:∀c,o.op≠.defer c):
  stepG P main (G (b.atR a (.inRegion ops (i::rest)::k)) cs) w=stepG.apply P true (b.atR a (.inRegion ops (i::rest)::k)) cs none (execOp a.eval o) w:=by
 have he:=Frame.eval_atR b a (.inRegion ops (i::rest)::k);simp only[Frame.atR] at he;simp only[G,stepG,stepG.exec,stepG.oper,Frame.oper?,Frame.atR,ho,Option.map_some,Option.getD_some,hw,if_true,he];cases b.roundOf with
 | none=>rfl
 | some l =>
  cases hop:o.op<;>first|rfl|exact absurd hop (hd _)
theorem Lj{ops:Array Oper}{i:Nat}{rest:List Nat}{o:Oper}(ho:ops[i]?=some o)(v:Value):(b.atR a (.inRegion ops (i::rest)::k)).finish v=b.atR (a.put o.dst v) (.inRegion ops rest::k):=by
 simp only[Frame.finish,Frame.atR,ho,Option.bind_some];cases o.dst<;>simp[Act.put]
theorem S1{ops:Array Oper}{i:Nat}{rest:List Nat}{o:Oper}{K:Goroutine->World->Array Event->Prop}
  (ho:ops[i]?=some o) (hw:Region.wanted o (yielded ops a.tmps)=true) (hk:b.kind≠.early) (hd:∀c,o.op≠.defer c)
  (h:∀K':Act->World->Prop,(∀a' w',K (G (b.atR a' (.inRegion ops rest::k)) cs) w' (listed P b.fn a o w)->K' a' w')->uponK o a K' ((execOp a.eval o).run P w)) :
  (stepG P main (G (b.atR a (.inRegion ops (i::rest)::k)) cs) w).goes K:=by
 have:=h (λa' w'=>K (G (b.atR a' (.inRegion ops rest::k)) cs) w' (listed P b.fn a o w)) (λ_ _ x=>x);have hk':(b.kind==CallKind.early)=false:=by simpa using hk
 generalize hr:(execOp a.eval o).run P w=r at this;rw[XP ho hw hd];match r,this with
 | .ok (.value v) w',h =>
  have hf:=Lj (b:=b) (a:=a) (k:=k) (rest:=rest) ho v;simp only[uponK_value] at h;rw[← hf] at h;simpa [stepG.apply,hr,G,Frame.atR,hk',GStep.after,listed,GStep.goes] using h
 | .ok .skip w',h =>
  have hf:=Lj (b:=b) (a:=a) (k:=k) (rest:=rest) ho undef;simp only[uponK_skip] at h;rw[← hf] at h;simpa [stepG.apply,hr,G,Frame.atR,hk',GStep.after,listed,GStep.goes] using h
theorem NA(hb:b.roundOf=some l)(hk:b.kind=.normal){r:Loop}(h:w.heap[l]?=some (.loop r))(hr:r.state=.ready):
  ∃es,stepG P main (G (b.atR a (.beginRound::k)) cs) w=.go (G (b.atR a k) cs) (w.putObj l (.loop {r with state:=.busy})) es/\DB l es:=by
 have hrun:=run_beginRound (P:=P) h hr;refine⟨seen P b.fn ((do Instr.beginRound l;pure .skip:Sem Next).events P w #[]),?_,Dd (FQ (Ar VQ λ_=>Bc _) w)⟩;simp[G,stepG,stepG.exec,stepG.apply,Frame.atR,hb,hk,hrun,GStep.after,Frame.finish,Result.andThen]
theorem ZZ(hb:b.roundOf=some l)(hk:b.kind=.normal){r:Loop}(h:w.heap[l]?=some (.loop r)){c:Frame}:
  ∃es,stepG P main (G (b.atR a []) (c::cs)) w=.go (G (c.finish (.bool true)) cs) (w.putObj l (.loop {r with state:=.ready,pending:=none})) es/\DB l es:=by
 have hrun:=run_endRound (P:=P) none h;refine⟨seen P b.fn ((Instr.endRound l none).events P w #[]),?_,Dd (FQ (RY none) w)⟩;simp at hrun;simp[G,stepG,stepG.exec,Frame.atR,hb,hk,hrun,GStep.after,doReturn]
theorem VS{r:Loop}(h:w.heap[l]?=some (.loop r))(hr:r.state≠.busy)(hp:r.pending=none):
  ∃es,stepG P main (G (b.at a (.endRangeFunc l::k)) cs) w=.go (G (b.at a k) cs) (w.putObj l (.loop {r with state:=.exhausted})) es/\DB l es:=by
 have hrun:=run_endLoop (P:=P) h hr;refine⟨seen P b.fn ((Instr.endLoop l).events P w #[]),?_,Dd (FQ PQ w)⟩;simp[G,stepG,stepG.exec,Frame.at,hrun,hp,GStep.after]
theorem Ll{todo:List Item}{ds:List Deferred}{args:Array Value}(h:w.heap[l]?=some (.deferred (some [])))(hd:a.defers={target:=.collected l,args}::ds):
  ∃es,stepG P main (G {b.at a todo with mode:=.returning} cs) w=.go (G {b.at {a with defers:=ds} todo with mode:=.returning} cs) (w.putObj l (.deferred none)) es/\DB l es:=by
 have hrun:=run_takeDeferred (P:=P) h;refine⟨seen P b.fn ((Instr.takeDeferred l).events P w #[]),?_,Dd (FQ XN w)⟩;simp[G,stepG,unwind,Frame.at,hd,hrun,GStep.after]
theorem Lm{ops:Array Oper}{i:Nat}{rest:List Nat}{o:Oper}{x:Operand}{xs:Array Operand}{ats:Array TypeId}{vs:Array Value}{r:Loop}(ho:ops[i]?=some o)(hw:Region.wanted o (yielded ops a.tmps)=true)(hk:b.kind=.normal)
  (hop:o.op=.call {callee:=.value x,args:=xs,argTypes:=ats}) (hx:a.eval x=.func (.yield l) #[] #[]) (hv:xs.map a.eval=vs) (h:w.heap[l]?=some (.loop r)) (hs:vs.size=r.params.size) :
  ∃es,stepG P main (G (b.at a (.inRegion ops (i::rest)::k)) cs) w=.go (G (Frame.round l r.fn ((r.params.zip vs).foldl (λtmps (t,a)=>tmps.setIfInBounds t a) r.tmps) r.assign r.body .normal) (b.at a (.inRegion ops (i::rest)::k)::cs)) w es/\DB l es:=by
 have hrun:=run_yield (P:=P) h hs
 have he:execOp a.eval o=Instr.yield l vs:=by
  unfold execOp;rw[hop];simp[resolve,hx,hv,Deferred.ofValue,invoke]
 refine⟨seen P b.fn ((Instr.yield l vs).events P w #[]),?_,Dd (FQ (VR vs) w)⟩;rw[stepG_oper ho hw,he];simp[stepG.apply,hrun,G,Frame.at,hk,GStep.after]
theorem TH{f:Operand}{ps:Array Tmp}{ag bd:Code}{gf:FuncId}{lb:Array Value}{fn:Func}(hx:a.eval f=.func (.func gf) #[] lb)(hf:P.funcs[gf]?=some fn)(hn:(fn.name == "runtime.NumGoroutine")=false)(hb:fn.body.isNone=false)(hk:b.kind=.normal):
  stepG P main (G (b.at a (.code (.rangeFunc f ps ag bd)::k)) cs) w=.go (G (Frame.enter P gf (#[.func (.yield (w.heap.size+1)) #[] #[]]++lb) .normal) (b.at {a with defers:={target:=.collected w.heap.size,args:=#[]}::a.defers} (.inRangeFunc (w.heap.size+1)::k)::cs))
   ((w.alloc (.deferred (some []))).alloc (.loop {state:=.ready,pending:=none,fn:=b.fn,tmps:=a.tmps,params:=ps,assign:=ag,body:=bd,defers:=w.heap.size})) #[]:=by
 have hrun:=run_enterLoop_outer (P:=P) (w:=w) b.fn a.tmps ps ag bd;have hev:(Instr.enterLoop b.fn a.tmps ps ag bd none).events P w #[]=#[]:=rfl;have hn':¬fn.name= "runtime.NumGoroutine":=by simpa using hn
 have hb':¬fn.body=none:=by cases hq:fn.body<;>simp_all
 have hx':∀(todo:List Item)(ds:List Deferred),Frame.eval {fn:=b.fn,tmps:=a.tmps,todo,defers:=ds,mode:=.run,kind:=.normal} f=.func (.func gf) #[] lb:=λtodo ds=>by
  rw[← hx];cases f<;>rfl
 have hcst:∀(fr:Frame)(v:Value),fr.eval (.const v)=v:=λ_ _=>rfl;simp[G,stepG,stepG.exec,Frame.at,hrun,hev,GStep.after,stepG.apply,resolve,hx',hcst,Deferred.ofValue,invoke,callFunc,hf,hn',hb',hk,seen_none]
end
end Go.Proofs.YtmfjakieahkacaaGreatDoor
namespace Go.Proofs.YtmfjakieahkacaaGreatDoor
open Go.RowKit
theorem TJ(b:Bk)(v:Value)(kd:Int)(nm:ByteArray)(al:Option Addr)(cl:Nat)(list:List ByteArray)(B:Nat)(w:World)(h:Dk w B v b)(hl:Ls w (.slice al list.length cl) list)(hnm:nm.size<=maxLen)(hll:list.length<=1000):
  Calls Tryz.prog 80 #[v,.agg #[.int .i64 kd,.string nm,.slice al list.length cl]] w
   λe w'=>(∃(u:Value)(b':Bk),e=.returned u/\Dk w' w.heap.size u b')/\Below w.heap.size w w':=by
 have hbk:=h.bk;obtain⟨-,hz,ht⟩:=h;obtain⟨-,hlz,-⟩:=hl.inv;obtain⟨a1,c1,a2,c2,rfl,-,-⟩:=hbk.parts;go_enter Tryz.func80,Tryz.ntmps80;go_upto_region 1 with fail;obtain⟨W1,hW1,kA,kD,kR,hB1,hs1⟩:=cbE3 w [.slice a1 b.tg.length c1,.slice a2 b.bs.length c2] 26 [.int .i64 kd,.string nm,.slice al list.length cl] 69 [.slice none 0 0,.slice none 0 0] 26;rw[hW1];clear hW1;have hk:=hbk.up hB1;have hl:=hl.up hB1;clear hbk;obtain⟨e0,e1⟩:=kA.c2';obtain⟨⟨d0,d1,d2⟩,-⟩:=kD.c3;by_cases h1:kd=1
 ·subst h1;go_wp2_with fail;refine (NT b _ _ nm list _ hk hl hnm (by omega)).mono ?_;rintro e w2 ⟨⟨v',rfl,hV⟩,hb2⟩;have Hdk:Hid (Bh (S8 b nm list)/\CM (S8 b nm list)):=Xx hz ht hlz;generalize S8 b nm list=b' at *;obtain⟨a5,c5,a6,c6,qs,rfl,-⟩:=hV.parts;have kA:=kA.up hb2 (by omega);have kR:=kR.up hb2 (by omega);have hz2:=hb2.size;have hB:=D1 hB1 hb2;clear e0 e1 d0 d1 d2 hb2 kD;obtain⟨⟨y0,y1⟩,f0,f1⟩:=kA.c2;go_upto_region 9 with fail
  have kA3:=kA.copy2 (.slice a5 (b').tg.length c5) (.slice a6 (b').bs.length c6);have kR3:=(kR.other (q:=w.heap.size) (j:=0) (u:=.slice a5 (b').tg.length c5) (by omega)).other (q:=w.heap.size) (j:=1) (u:=.slice a6 (b').bs.length c6) (by omega);have hV3:=(hV.set (r:=w.heap.size) (j:=0) (u:=.slice a5 (b').tg.length c5) (by omega)).set (r:=w.heap.size) (j:=1) (u:=.slice a6 (b').bs.length c6) (by omega);have hB3:=I7 hB (A3 _) (.slice a5 (b').tg.length c5) (.slice a6 (b').bs.length c6);clear kA kR hV hB y0 y1 f0 f1;generalize (w2.setCell ⟨w.heap.size,0,none⟩ (.slice a5 b'.tg.length c5)).setCell ⟨w.heap.size,1,none⟩ (.slice a6 b'.bs.length c6)=W3 at *;obtain⟨⟨y0,y1⟩,-⟩:=kA3.c2;obtain⟨⟨z0,z1⟩,g0,g1⟩:=kR3.c2;go_wp2_with fail;refine Av Tryz.results80 Tryz.underlying26 rfl L9 kR3 rfl ?_
  exact⟨⟨_,b',rfl,O5.low (O5.set (O5.set hV3 (by omega)) (by omega)) (by omega),Hdk.out⟩,I7 hB3 (by omega) _ _⟩
 have h1':(kd==1)=false:=by simpa using h1
 by_cases h2:kd=2
 ·subst h2;go_wp2_with fail;refine (JZ b _ _ nm list _ hk hl (by omega)).mono ?_;rintro e w2 ⟨⟨v',cd,b',rfl,hask,hV⟩,hb2⟩;have Hdk:Hid (Bh b'/\CM b'):=AaT hask hz ht hlz;clear hask;obtain⟨a5,c5,a6,c6,qs,rfl,-⟩:=hV.parts;have kA:=kA.up hb2 (by omega);have kR:=kR.up hb2 (by omega);have hz2:=hb2.size;have hB:=D1 hB1 hb2;clear e0 e1 d0 d1 d2 hb2 kD;obtain⟨⟨y0,y1⟩,f0,f1⟩:=kA.c2;go_upto_region 9 with fail
  have kA3:=kA.copy2 (.slice a5 (b').tg.length c5) (.slice a6 (b').bs.length c6);have kR3:=(kR.other (q:=w.heap.size) (j:=0) (u:=.slice a5 (b').tg.length c5) (by omega)).other (q:=w.heap.size) (j:=1) (u:=.slice a6 (b').bs.length c6) (by omega);have hV3:=(hV.set (r:=w.heap.size) (j:=0) (u:=.slice a5 (b').tg.length c5) (by omega)).set (r:=w.heap.size) (j:=1) (u:=.slice a6 (b').bs.length c6) (by omega);have hB3:=I7 hB (A3 _) (.slice a5 (b').tg.length c5) (.slice a6 (b').bs.length c6);clear kA kR hV hB y0 y1 f0 f1;generalize (w2.setCell ⟨w.heap.size,0,none⟩ (.slice a5 b'.tg.length c5)).setCell ⟨w.heap.size,1,none⟩ (.slice a6 b'.bs.length c6)=W3 at *;obtain⟨⟨y0,y1⟩,-⟩:=kA3.c2;obtain⟨⟨z0,z1⟩,g0,g1⟩:=kR3.c2;go_wp2_with fail;refine Av Tryz.results80 Tryz.underlying26 rfl L9 kR3 rfl ?_
  exact⟨⟨_,b',rfl,O5.low (O5.set (O5.set hV3 (by omega)) (by omega)) (by omega),Hdk.out⟩,I7 hB3 (by omega) _ _⟩
 have h2':(kd==2)=false:=by simpa using h2
 by_cases h3:kd=3
 ·subst h3;go_wp2_with fail;refine (Pt b _ _ nm list _ hk hl (by omega)).mono ?_;rintro e w2 ⟨⟨v',rfl,hV⟩,hb2⟩;have Hdk:Hid (Bh (AX b nm list)/\CM (AX b nm list)):=ZI hz ht hlz;generalize AX b nm list=b' at *;obtain⟨a5,c5,a6,c6,qs,rfl,-⟩:=hV.parts;have kA:=kA.up hb2 (by omega);have kR:=kR.up hb2 (by omega);have hz2:=hb2.size;have hB:=D1 hB1 hb2;clear e0 e1 d0 d1 d2 hb2 kD;obtain⟨⟨y0,y1⟩,f0,f1⟩:=kA.c2;go_upto_region 9 with fail
  have kA3:=kA.copy2 (.slice a5 (b').tg.length c5) (.slice a6 (b').bs.length c6);have kR3:=(kR.other (q:=w.heap.size) (j:=0) (u:=.slice a5 (b').tg.length c5) (by omega)).other (q:=w.heap.size) (j:=1) (u:=.slice a6 (b').bs.length c6) (by omega);have hV3:=(hV.set (r:=w.heap.size) (j:=0) (u:=.slice a5 (b').tg.length c5) (by omega)).set (r:=w.heap.size) (j:=1) (u:=.slice a6 (b').bs.length c6) (by omega);have hB3:=I7 hB (A3 _) (.slice a5 (b').tg.length c5) (.slice a6 (b').bs.length c6);clear kA kR hV hB y0 y1 f0 f1;generalize (w2.setCell ⟨w.heap.size,0,none⟩ (.slice a5 b'.tg.length c5)).setCell ⟨w.heap.size,1,none⟩ (.slice a6 b'.bs.length c6)=W3 at *;obtain⟨⟨y0,y1⟩,-⟩:=kA3.c2;obtain⟨⟨z0,z1⟩,g0,g1⟩:=kR3.c2;go_wp2_with fail;refine Av Tryz.results80 Tryz.underlying26 rfl L9 kR3 rfl ?_
  exact⟨⟨_,b',rfl,O5.low (O5.set (O5.set hV3 (by omega)) (by omega)) (by omega),Hdk.out⟩,I7 hB3 (by omega) _ _⟩
 have h3':(kd==3)=false:=by simpa using h3
 go_wp2_with fail;refine (NW b _ nm _ hk).mono ?_;rintro e w2 ⟨⟨v',rfl,hV⟩,hb2⟩;have Hdk:Hid (Bh (Bq b nm)/\CM (Bq b nm)):=Xy hz ht;generalize Bq b nm=b' at *;obtain⟨a5,c5,a6,c6,qs,rfl,-⟩:=hV.parts;have kA:=kA.up hb2 (by omega);have kR:=kR.up hb2 (by omega);have hz2:=hb2.size;have hB:=D1 hB1 hb2;clear e0 e1 d0 d1 d2 hb2 kD;obtain⟨⟨y0,y1⟩,f0,f1⟩:=kA.c2;go_upto_region 9 with fail
 have kA3:=kA.copy2 (.slice a5 (b').tg.length c5) (.slice a6 (b').bs.length c6);have kR3:=(kR.other (q:=w.heap.size) (j:=0) (u:=.slice a5 (b').tg.length c5) (by omega)).other (q:=w.heap.size) (j:=1) (u:=.slice a6 (b').bs.length c6) (by omega);have hV3:=(hV.set (r:=w.heap.size) (j:=0) (u:=.slice a5 (b').tg.length c5) (by omega)).set (r:=w.heap.size) (j:=1) (u:=.slice a6 (b').bs.length c6) (by omega);have hB3:=I7 hB (A3 _) (.slice a5 (b').tg.length c5) (.slice a6 (b').bs.length c6);clear kA kR hV hB y0 y1 f0 f1;generalize (w2.setCell ⟨w.heap.size,0,none⟩ (.slice a5 b'.tg.length c5)).setCell ⟨w.heap.size,1,none⟩ (.slice a6 b'.bs.length c6)=W3 at *;obtain⟨⟨y0,y1⟩,-⟩:=kA3.c2;obtain⟨⟨z0,z1⟩,g0,g1⟩:=kR3.c2;go_wp2_with fail;refine Av Tryz.results80 Tryz.underlying26 rfl L9 kR3 rfl ?_
 exact⟨⟨_,b',rfl,O5.low (O5.set (O5.set hV3 (by omega)) (by omega)) (by omega),Hdk.out⟩,I7 hB3 (by omega) _ _⟩
end Go.Proofs.YtmfjakieahkacaaGreatDoor
