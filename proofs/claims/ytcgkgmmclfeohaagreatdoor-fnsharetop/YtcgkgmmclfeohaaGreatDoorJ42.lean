/- The program's ShareAsk. -/
import Derived.Test.YtcgkgmmclfeohaaGreatDoorJ39
import Derived.Test.YtcgkgmmclfeohaaGreatDoorJ40
set_option maxRecDepth 100000
set_option maxHeartbeats 4000000
namespace Go.Proofs.YtcgkgmmclfeohaaGreatDoor
open Go.Proofs.Tryz
open Go.RowKit
noncomputable def Ej(b:Bk)(nm:BA)(ls:List BA):Int:=L0 b (Bq b nm ls)
noncomputable def Z1(b:Bk)(nm:BA)(ls:List BA):Bk:=K7 b (Bq b nm ls) (X8 b (F3 b nm) (P7 ls))
theorem AdX{b b':Bk}{nm:BA}{ls:List BA}{cd:Int}(h:CU b nm ls cd b'):cd=Ej b nm ls/\b'=Z1 b nm ls:=Agq h
theorem Te{b:Bk}{nm:BA}{ls:List BA}(h:Ah b)(hn:∀s∈ls,s.size<=maxLen):Ah (Z1 b nm ls):=by
 unfold Z1 K7;split
 ·exact DA
 ·split
  ·exact Vh h hn
  ·exact h
end Go.Proofs.YtcgkgmmclfeohaaGreatDoor
namespace Go.Proofs.YtcgkgmmclfeohaaGreatDoor
open Go.Proofs.Tryz
open Go.Conc Go.ConcN Go.RowKit Go.Conc.Lib Go.ConcR.Gen Go.ConcN.Gen
open Go.ConcR (KK wgBlock WgAt stA smA rd wr mk Payload DC0)
theorem Xd{P:Program}{main:Bool}{R:World->World->Prop}{D:World->World->Array Event->Prop}(T:Terms R D){b:Frame}{a:Act}{k:List Item}{cs:List Frame}{w:World}{ops:Array Oper}{i:Nat}{rest:List Nat}{o:Oper}{f:FuncId}{fn:Func}{c:Code}{a0:Act}
  {nf m:Nat} {Post:Value->World->Prop} {Stop:Goroutine->World->Prop} (ho:ops[i]?=some o) (hf:P.funcs[f]?=some fn)
  (hwp:c.wpC P main R D f nf (bodyPostC P fn Post) a0 w)
  (hnext:∀v w',Post v w'->Goes P main R D Stop m (G (b.at (a.put o.dst v) (.inRegion ops rest::k)) cs) w') :
  Goes P main R D Stop (m+2+nf) (G ((base f).at a0 [.code c]) (b.at a (.inRegion ops (i::rest)::k)::cs)) w:=by
 have a3:∀v,(b.at a (.inRegion ops (i::rest)::k)).finish v=b.at (a.put o.dst v) (.inRegion ops rest::k):=λv=>by rw[Frame.finish_at,ho];rfl
 have a1:∀(a':Act)(w':World)(a2:List Item),(a'.defers=[]/\∃v,ResultsC P fn a'.tmps v/\Post v w')->
   Goes P main R D Stop (m+1) (G {(base f).at a' a2 with mode:=.returning} (b.at a (.inRegion ops (i::rest)::k)::cs)) w':=by
  rintro a' w' a2 ⟨hd,v,hr,hp⟩;refine Goes.step rfl λw₁ h₁=>?_;rw[stepG_leave (b:=base f) rfl hd hf (hr w₁).1 (hr w₁).2,a3];exact⟨T.idle _,(hnext v w' hp).rely T.trans h₁⟩
 refine hwp (base f) [] _ Stop (m+2) rfl (by simp[base]) λe a' w' q=>?_;cases e with
 | normal=>exact Goes.step rfl λw₁ h₁=>by rw[stepG_end];exact⟨T.idle _,(a1 a' w' [] q).rely T.trans h₁⟩
 | ret=>exact λa2=>(a1 a' w' a2 q).more
 | exit id=>exact q.elim
 | goto l=>exact q.elim
 | panic ch=>exact q.elim
 | outgrown=>exact q.elim
theorem Ub(P:Program)(w:World)(es:Array Event)(a:Addr)(m:Mode)(s:BA):(store a (Tz s) m).events P w es=storedEv P w es a (Tz s) m:=events_store P w es a _ m rfl
theorem Tf(P:Program)(w:World)(es:Array Event)(a:Addr)(m:Mode)(s:Bool):(store a (.bool s) m).events P w es=storedEv P w es a (.bool s) m:=events_store P w es a _ m rfl
theorem LB{w:World}{b k:Nat}{xs:Array Value}{ty:TypeId}(h:w.heap[b]?=some (.cells xs ty))(v:Value):(w.setCell ⟨b,k,none⟩ v).heap[b]?=some (.cells (xs.setIfInBounds k v) ty):=by
 rw[setCell_eq_setRow w b k xs ty (0,0) v h,setRow_heap w b xs _ ty _ h]
theorem DP{M:Nat->Prop}{b:Nat}(hb:M b)(w:World)(k:Nat)(v:Value):Fv M w (w.setCell ⟨b,k,none⟩ v):=by
 have a0:=aside_setCell w ⟨b,k,none⟩ v;exact⟨a0.tape,a0.os,a0.output,λh=>Hr h _ _,a0.size,λc hc=>a0.block c λe=>hc (by rw[show c=b from e];exact hb)⟩
theorem Fv.trans{M:Nat->Prop}{w w₁ w₂:World}(h:Fv M w w₁)(h':Fv M w₁ w₂):Fv M w w₂ :=
 ⟨h'.tape.trans h.tape,h'.os.trans h.os,h'.output.trans h.output,h'.nv ∘ h.nv,h'.size.trans h.size,λb hb=>(h'.block b hb).trans (h.block b hb)⟩
def IA(tb:Nat):Value:=.func (.func 43) #[.pointer (some ⟨tb,0,none⟩)] #[]
theorem Gr.owns{p:L6}{W w w':World}{C i b:Nat}(h:Gr p W C i w)(o:p.Ok)(hb:p.Low<=b)(hC:C≠b)(r:Fv (T6 b) w w'):Gr p W C i w':=by
 have hS:p.S≠b:=λe=>by have:=o.s;omega
 have hW:p.Wg≠b:=λe=>by have:=o.wg;omega
 refine⟨⟨?_,?_,(r.block C hC).trans h.tk.box⟩,λk h1 h2 h3=>(r.block k λe=>by have:k=b:=e;omega).trans (h.low k h1 h2 h3)⟩
 ·obtain⟨s,m,hs⟩:=h.tk.live;exact⟨s,m,hs.of_block (r.block _ hW)⟩
 ·obtain⟨s,hs⟩:=h.tk.sum;exact⟨s,(r.block _ hS).trans hs⟩
section
variable {p:L6} {W:World} {M:Nat->Prop} {C hB i b:Nat} {tb g n cap:Nat} {s0:BA} {hb nb fb:Nat}
theorem ZI(o:p.Ok)(hC:M C)(Bf:M b)(hbL:p.Low<=b)(hbC:C≠b)(h1:Fy p ⟨tb,1,none⟩)(c1:At W tb 1 (.int .u64 fb))(l1:hb<256)(l2:fb<256){Stop:Goroutine->World->Prop}{m:Nat}
  (hnext:∀w,Gr p W C i w->Goes prog false (RK p M) (DK p M) Stop m (G (bW.at ⟨Ga p hB C i (IA tb) (.bool (bits .andNot .u64 (nb:Int) ((fb:Int)+(hb:Int))==0)),PJ p⟩ (.inRegion Ir []::[.code Is])) [Iq]) w) :
  ∃mm,∀w,KU p W C i b #[Ez,.int .u64 0,.int .u64 0,.bool false] w->Goes prog false (RK p M) (DK p M) Stop mm (G (bC.at ⟨SV tb g i n cap (Pz b 0) (.agg #[Tz s0,.int .u64 hb,.int .u64 nb,.bool false]),[]⟩ (.inRegion NQ [8]::[.code Zy])) [bW.at ⟨Ga p hB C i (IA tb) undef,PJ p⟩ (.inRegion Ir [2]::[.code Is]),Iq]) w:=by
 obtain⟨nf,a0⟩:=AdR (p:=p) (W:=W) (M:=M) (C:=C) (i:=i) (g:=g) (n:=n) (cap:=cap) (x0:=Tz s0) (nb:=nb) o hC Bf hbL h1 c1 l1 l2 (.agg #[Tz s0,.int .u64 hb,.int .u64 nb,.bool false]);have a4:∀k,¬p.Sh (.cell ⟨b,k,none⟩):=λk h=>by have:=o.low h;simp at this;omega
 refine⟨m+2+nf+2,λw hF=>?_⟩;simp only[SV,NQ,Lz,Tryz.f43,Option.getD_some] at a0 ⊢
 refine Goes.step rfl (λ_ h₁=>?_);replace hF:=EP hC Bf hF h₁;clear h₁;refine goes_oper_k rfl rfl (by k_ne) (λK hK=>?_);have d0:=hF.cell (k:=0) (v:=Ez) rfl;have d1:=hF.cell (k:=1) (v:=.int .u64 0) rfl;have d2:=hF.cell (k:=2) (v:=.int .u64 0) rfl;have d3:=hF.cell (k:=3) (v:=.bool false) rfl;have t0:∀k,(‹World›).frozen? ⟨b,k,none⟩=false:=λk=>by simp[World.frozen?,hF.row]
 go_simp;have hO:Fv M ‹World› _:=(((DP Bf _ 0 (Tz s0)).trans (DP Bf _ 1 (.int .u64 hb))).trans (DP Bf _ 2 (.int .u64 nb))).trans (DP Bf _ 3 (.bool false));have a2:Fv (T6 b) ‹World› _:=(((DP (M:=T6 b) rfl _ 0 (Tz s0)).trans (DP (M:=T6 b) rfl _ 1 (.int .u64 hb))).trans (DP (M:=T6 b) rfl _ 2 (.int .u64 nb))).trans (DP (M:=T6 b) rfl _ 3 (.bool false));have hR:=LB (k:=3) (LB (k:=2) (LB (k:=1) (LB (k:=0) hF.row (Tz s0)) (.int .u64 hb)) (.int .u64 nb)) (.bool false);refine hK _ _ ⟨⟨hO,λe he=>?_⟩,?_⟩
 ·have hm:=mem_listed he;simp[go_sem,Ub,Tf, *] at hm;rcases hm with rfl|rfl|rfl|rfl<;>exact Fx Bf (a4 _)
 clear hK K d0 d1 d2 d3 t0 hO;have a1:=hF.kn.owns o hbL hbC a2;clear hF a2;have hF:=KU.mk a1 hR;clear a1 hR;generalize ((((‹World›).setCell ⟨b,0,none⟩ (Tz s0)).setCell ⟨b,1,none⟩ (.int .u64 hb)).setCell ⟨b,2,none⟩ (.int .u64 nb)).setCell ⟨b,3,none⟩ (.bool false)=w₂ at hF;have a1:KU p W C i b #[Tz s0,.int .u64 hb,.int .u64 nb,.bool false] w₂:=hF;clear hF;have hF:=a1;clear a1;refine Goes.step rfl (λ_ h₁=>?_);replace hF:=EP hC Bf hF h₁;clear h₁;rw[stepG_region_end];simp only[goes_go];refine⟨O9 _,?_⟩;refine Xd (R3 p M) (f:=43) (i:=2) (rest:=[]) rfl func43 (a0 _ hF) λv w' hv=>?_;obtain⟨rfl,a3⟩:=hv;exact hnext _ a3.kn
end
section
variable {X:Nat->Prop} {Shun:Loc->Prop} {W:World}
theorem ZJ(hX:∀l,Shun l->∃a,l=.cell a/\X a.block)(hbW:M1 X W){n tb g cap fb:Nat}{ha ne:Nat->Nat}(hn:n<=5)
  (c2:At W tb 0 (Sz g n cap)) (x2:¬X tb) (c1:At W tb 1 (.int .u64 fb)) (x3:¬X g) (l1:∀j,ha j<256) (l2:fb<256)
  (r0:∀i,i<n->∃s,At W g (i*4) (Tz s)) (r1:∀i,i<n->At W g (i*4+1) (.int .u64 (ha i))) (r2:∀i,i<n->At W g (i*4+2) (.int .u64 (ne i))) (r3:∀i,i<n->At W g (i*4+3) (.bool false)) :
  Lt Shun W n (λj=>bits .andNot .u64 (ne j:Int) ((fb:Int)+(ha j:Int))==0) (IA tb):=by
 intro p hp hty htS o hL hWg hS hSh hbit j hj C w hCL hW;have lt:∀{a:Addr} {v:Value},W.cell? a=some v->a.block<W.heap.size+1:=λ{a v} hc=>by have:=World.block_lt_of_cell? W a hc;omega
 have L:∀{a:Addr} {v:Value},W.cell? a=some v->¬X a.block->Fy p a:=λhc hx=>WV hX hL hWg hS hSh (lt hc) hx;have a8:Fy p ⟨W.heap.size,0,none⟩:=WV hX hL hWg hS hSh (Nat.lt_succ_self _) (λh=>Nat.lt_irrefl _ (hbW.old _ h));obtain⟨s0,r0⟩:=r0 j hj;have hg:g<W.heap.size+1:=lt r0;refine⟨2,0+23,A3 _,λh=>by omega,?_⟩;unfold Wk;rw[hp];refine AjU o hCL hj a8 AjS (L c2 x2) (FF c2) (λk=>WV (a:=⟨g,k,none⟩) hX hL hWg hS hSh hg x3) (FF r0) (FF (r1 j hj)) (FF (r2 j hj)) (FF (r3 j hj)) (λw' a0=>?_) w hW;refine Goes.stop (λw₁ r₁=>?_);replace a0:=Du (M:=T6 C) rfl a0 r₁;clear r₁
 have a9:C<w₁.heap.size:=by
  have:=a0.tk.box;rw[D2] at this;exact this.1
 have a2:=CI w₁ #[Ez,.int .u64 0,.int .u64 0,.bool false] 108;have a3:(w₁.alloc (Kz [Ez,.int .u64 0,.int .u64 0,.bool false] 108)).heap[w₁.heap.size]?=some (Kz [Ez,.int .u64 0,.int .u64 0,.bool false] 108):=heap_alloc_new w₁ _;simp only[SV,NQ,Lz,Tryz.f43,Option.getD_some]
 refine⟨rfl,_,w₁.alloc (Kz [Ez,.int .u64 0,.int .u64 0,.bool false] 108),by rw[hp];exact OL (by
   refine goes_oper_k rfl rfl (by k_ne) (λK hK=>?_);go_simp;exact hK _ _ ⟨rfl,rfl,listed_nil (by simp[go_sem])⟩),a2,?_⟩
 have a4:p.Low<=w₁.heap.size:=by omega
 have hk:Gr p (VC W (IA tb)) C j (w₁.alloc (Kz [Ez,.int .u64 0,.int .u64 0,.bool false] 108)) :=
  ⟨⟨(Ar.gr a2 o a4).live a0.tk.live,(Ar.gr a2 o a4).sum a0.tk.sum,(a2.block C a9).trans a0.tk.box⟩,λb h1 h2 h3=>(a2.block b (by omega)).trans (a0.low b h1 h2 h3)⟩
 have hr:=KU.mk hk a3;have a6:C≠w₁.heap.size:=by omega
 clear hk a3 a2 a0;generalize w₁.alloc (Kz [Ez,.int .u64 0,.int .u64 0,.bool false] 108)=w₂ at hr ⊢
 generalize w₁.heap.size=b at hr a4 a6 ⊢
 by_cases hy:(bits .andNot .u64 (ne j:Int) ((fb:Int)+(ha j:Int))==0)=true
 ·have a7:p.bit j=2 ^ j:=by rw[hbit,if_pos hy]
  have a1:=λw' (a0:Gr p (VC W (IA tb)) C j w')=>Adb (p:=p) (M:=λx=>T6 C x∨x=b) (C:=C) (i:=j) (hB:=W.heap.size) hp hty htS o (.inl rfl) hCL (by omega) a7 (IA tb) w' a0.tk;unfold Wk at a1;simp only[hp] at a1;obtain⟨mm,a5⟩:=ZI (p:=p) (W:=VC W (IA tb)) (M:=λx=>T6 C x∨x=b) (C:=C) (i:=j) (b:=b) (g:=g) (n:=n) (cap:=cap) (s0:=s0) (nb:=ne j) o (.inl rfl) (.inr rfl) a4 a6 (L c1 x2) (FF c1) (l1 j) l2 (m:=40) (λw' a0=>by rw[hy];exact a1 w' a0);refine⟨mm,λ_=>?_,λh=>absurd h (by rw[a7];exact Nat.ne_of_gt (Nat.two_pow_pos j))⟩;unfold Wk;rw[hp];exact a5 _ hr
 ·have b0:p.bit j=0:=by rw[hbit,if_neg hy]
  rw[Bool.not_eq_true] at hy;have a1:=λw' (a0:Gr p (VC W (IA tb)) C j w')=>AeX (p:=p) (M:=λx=>T6 C x∨x=b) (C:=C) (i:=j) (hB:=W.heap.size) hp hty (.inl rfl) (IA tb) w' a0.tk;unfold Wk at a1;simp only[hp] at a1;obtain⟨mm,a5⟩:=ZI (p:=p) (W:=VC W (IA tb)) (M:=λx=>T6 C x∨x=b) (C:=C) (i:=j) (b:=b) (g:=g) (n:=n) (cap:=cap) (s0:=s0) (nb:=ne j) o (.inl rfl) (.inr rfl) a4 a6 (L c1 x2) (FF c1) (l1 j) l2 (m:=28) (λw' a0=>by rw[hy];exact a1 w' a0);refine⟨mm,λh=>absurd b0 h,λ_=>?_⟩;unfold Wk;rw[hp];exact a5 _ hr
end
def frW(b:Bk):Nat:=G4 b.tg (U1 (Z4 b.bs b.bs.length))
def Bf(b:Bk)(j:Nat):Bool:=bits .andNot .u64 (YX b j:Int) ((frW b:Int)+(YW b j:Int))==0
noncomputable def N5(b:Bk):List BA:=if J6 b=true then pk (Bf b) (I3 b.bs) b.bs.length else []
noncomputable def bM:Frame:=base 17
noncomputable def QO:Array Oper:=match SU with | .seq (.region _ o _) _=>o|_=>#[]
section
variable {X:Nat->Prop} {Shun:Loc->Prop} {c:Frame} {cs:List Frame}
theorem Ag1(bv:Value):Frame.enter prog 17 #[bv] .normal=bM.at ⟨Vm bv,[]⟩ [.code BU]:=by
 simp[Frame.enter,Frame.at,func17,bM,base,Vm,BU,Tryz.f17]
theorem AjX{T:Array Value}(hT:T.size=13)(ht:T[6]?=some (.bool true))(w:World):
  Go.Conc.Goes prog true AtRel (DE λ_=>False) (λg w'=>g=G (c.finish (Nz)) cs/\AtRel w w') 20 (G (bM.at ⟨T,[]⟩ [.code NP,.code Zw]) (c::cs)) w:=by
 obtain⟨v0,v1,v2,v3,v4,v5,v6,v7,v8,v9,a0,a1,a2,rfl⟩:=OV T hT;simp only[List.getElem?_toArray,List.getElem?_cons_succ,List.getElem?_cons_zero,Option.some.injEq] at ht;subst ht;simp only[NP,Zw,BU,Tryz.f17,Option.getD_some];have rl:∀{V w w₁:World},AtRel V w->AtRel w w₁->AtRel V w₁:=λh r=>atRel_trans _ _ _ h r;have hF:AtRel w w:=atRel_refl w;u_cond true rl hF
 u_c stepG_seq rl hF
 u_reg rl hF
 u_op rl hF
 u_c stepG_region_end rl hF
 u_c stepG_ret' rl hF
 u_in rl hF
 rw[stepG_leave (b:=bM) rfl rfl func17 (results_tmp rfl _ _ _) (events_results_tmp rfl _ _)];simp only[goes_go];refine⟨by u_nil,?_⟩;exact Go.Conc.Goes.stop λw₁ r=>⟨rfl,rl hF r⟩
theorem AjY{W:World}{tb:Nat}{T:Array Value}(hT:T.size=13)(t3:T[3]?=some (Pz tb 0)):
  Go.Conc.Goes prog true AtRel (DE λ_=>False) (λg w=>(∃T',T'.size=13/\g=G (Frame.enter prog 42 #[Pz tb 0,IA tb] .normal) (bM.at ⟨T',[]⟩ (.inRegion QO [3,4]::[.code .ret])::c::cs))/\AtRel W w) 20 (G (bM.at ⟨T,[]⟩ [.code SU]) (c::cs)) W:=by
 obtain⟨v0,v1,v2,v3,v4,v5,v6,v7,v8,v9,a1,a2,a0,rfl⟩:=OV T hT;simp only[List.getElem?_toArray,List.getElem?_cons_succ,List.getElem?_cons_zero,Option.some.injEq] at t3;subst t3;simp only[SU,QO,BU,Tryz.f17,Option.getD_some];have rl:∀{V w w₁:World},AtRel V w->AtRel w w₁->AtRel V w₁:=λh r=>atRel_trans _ _ _ h r;have hF:AtRel W W:=atRel_refl W;u_c stepG_seq rl hF
 u_reg rl hF
 u_op rl hF
 u_op rl hF
 u_op rl hF
 u_in rl hF
 refine goes_call rfl rfl (by k_ne) rfl func42 (by kernel_rfl) rfl ⟨λe he=>by simp at he,?_⟩;walk_nrmf Tryz.f42
 refine Go.Conc.Goes.stop λw₁ r=>⟨⟨#[v0,v1,v2,Pz tb 0,v4,v5,v6,v7,v8,Pz tb 0,Pz tb 0,IA tb,a0],rfl,?_⟩,rl hF r⟩;rw[Afh];simp only[IA,FO,Tryz.f42,Option.getD_some];rfl
theorem AlI{T:Array Value}(hT:T.size=13)(v:Value)(w:World):
  Go.Conc.Goes prog true AtRel (DE λ_=>False) (λg w'=>g=G (c.finish v) cs/\AtRel w w') 10 (G ((bM.at ⟨T,[]⟩ (.inRegion QO [3,4]::[.code .ret])).finish v) (c::cs)) w:=by
 obtain⟨v0,v1,v2,v3,v4,v5,v6,v7,v8,v9,a0,a1,a2,rfl⟩:=OV T hT;rw[Frame.finish_at];simp only[QO,SU,BU,Tryz.f17,Option.getD_some];have rl:∀{V w w₁:World},AtRel V w->AtRel w w₁->AtRel V w₁:=λh r=>atRel_trans _ _ _ h r;have hF:AtRel w w:=atRel_refl w;walk_nrm
 u_op rl hF
 u_c stepG_region_end rl hF
 u_c stepG_ret' rl hF
 u_in rl hF
 rw[stepG_leave (b:=bM) rfl rfl func17 (results_tmp rfl _ _ _) (events_results_tmp rfl _ _)];simp only[goes_go];refine⟨by u_nil,?_⟩;exact Go.Conc.Goes.stop λw₁ r=>⟨rfl,rl hF r⟩
end
theorem Abw{b:Bk}(h:J6 b=false):N5 b=[]:=by simp[N5,h]
theorem Ag2(b:Bk)(a:Act):N6 (AtM b (λ_=>True) a):=λ_ _ _ h=>h
theorem Ag3:BU=Bz [KT] (.seq (.seq Vj NP) Zw):=by simp only[Bz,KT,Vj,NP,Zw,BU,Tryz.f17,Option.getD_some]
theorem Ag4:BU=Bz [KT,Vk,Vl] SU:=by simp only[Bz,KT,Vk,Vl,SU,BU,Tryz.f17,Option.getD_some]
theorem okM:∀r∈[KT,Vj,Vk,Vl],O0 prog (λg=>Fm.contains g) r=true:=by
 intro r hr;simp only[List.mem_cons,List.not_mem_nil,or_false] at hr;rcases hr with rfl|rfl|rfl|rfl<;>kernel_rfl
theorem frM:Cm prog bM:=⟨rfl,_,func17⟩
theorem Vq{X:Nat->Prop}{Shun:Loc->Prop}{W:World}{b:Bk}{bv:Value}(hX:Y9 Shun X)(hbW:M1 X W)(hB:∀τ d,K6 (E0 X W τ d) bv b):
  AB prog 17 #[bv] X Shun W λv u=>G3 u W.heap.size v (N5 b):=by
 intro Post c cs gs sl t hh k;rw[Ag1] at hh;have b1:∀τ d,Hid (∀u,Below (E0 X W τ d).heap.size (E0 X W τ d) u->∃τ d,True/\Below W.heap.size (E0 X W τ d) u):=λτ d u hu=>⟨τ,d,trivial,by (try unfold Up at hu);rw[I5] at hu;exact hu⟩
 have b3:N5 b=[]->∀gs w sl t,G6 prog Shun gs (G (c.finish (Nz)) cs) t->M1 X w->(∀τ d,AG (λu=>∃τ d,True/\Below W.heap.size (E0 X W τ d) u) (E0 X w τ d))->E7 prog Post (crowd gs w sl) t:=λhL gs w sl t h1 h2 h3 =>
  k X Shun gs w sl t _ hX (λb hb=>.inl hb) h1 h2 λτ d=>⟨by rw[hL];exact Ads _ _,(S8 (Q:=λ_=>True) (λ_ _ _ h=>h) (h3 τ d)).2⟩
 cases hbk:J6 b with
 | false =>
  rw[Ag3] at hh;refine Y5 hX hh (OI R4 frM Vj NP Zw (okM _ (by simp)) [] (c::cs) [KT] (λr hr=>okM r (by simp at hr;simp[hr])) rfl hbW (λτ d=>AW hbW (λτ d=>Abk b bv _ (hB τ d) hbk (b1 τ d)) τ d)) λgs1 a1 w1 sl1 t1 hh1 hst=>?_;obtain⟨a,rfl,hd,a7,hQ⟩:=hst;obtain⟨u0,⟨⟨T,rfl,hT,ht⟩,-⟩,-⟩:=hQ (λ_ _=>0) 0;refine P5 (D:=DE λ_=>False) (B0:=0) (λ_ _ _ h e he=>(h e he).elim) hh1 (AjX hT ht w1) λgs2 a2 w2 sl2 t2 hh2 hst2=>?_;obtain⟨rfl,d2,rfl⟩:=hst2;exact b3 (Abw hbk) _ _ _ _ hh2 (a7.at d2) λτ d=>(hQ τ d).imp λu h=>h.2
 | true =>
  have a8:I8 b:=U9.1 hbk;rw[Ag4] at hh;refine Y5 hX hh (EE R4 frM SU [] (c::cs) [KT,Vk,Vl] (λr hr=>okM r (by simp at hr;rcases hr with rfl|rfl|rfl<;>simp)) rfl hbW (λτ d=>AW hbW (λτ d=>Abj b bv _ (hB τ d) a8 hbk (b1 τ d)) τ d)) λgs1 a1 w1 sl1 t1 hh1 hst=>?_;obtain⟨a,rfl,hd,a7,hQ⟩:=hst;have a6:∀τ d,Below W.heap.size (E0 X W τ d) (E0 X w1 τ d):=λτ d=>(S8 (Q:=λ_=>True) (λ_ _ _ h=>h) ((hQ τ d).imp λu h=>let ⟨_,_,_,_,_,_,h⟩:=h;h)).2;obtain⟨T,tb,rfl,hT,t3,a4,-⟩:=AG.out (Ag2 b a) ((hQ (λ_ _=>0) 0).imp λu h=>let ⟨T,tb,h1,h2,h3,h4,_⟩:=h;⟨T,tb,h1,h2,h3,h4,trivial⟩);have a9:∀τ d,Bo (E0 X w1 τ d) tb b.tg (Z4 b.bs b.bs.length):=λτ d=>Afi tb _ _ _ τ d a4;refine P5 (D:=DE λ_=>False) (B0:=0) (λ_ _ _ h e he=>(h e he).elim) hh1 (AjY hT t3) λgs2 a2 w2 sl2 t2 hh2 hst2=>?_;obtain⟨⟨T',b2,rfl⟩,d2,rfl⟩:=hst2;have a0:(Z4 b.bs b.bs.length).length=b.bs.length:=JI (A3 _);have h5:b.bs.length<=5:=a8.2.1
  have hW:Lt Shun (w1.at d2) b.bs.length (Bf b) (IA tb):=by
   by_cases hn:b.bs.length=0
   ·intro p _ _ _ _ _ _ _ _ _ j hj;omega
   obtain⟨rv,hC,a5⟩:=a4;rw[a0] at a5;obtain⟨g,b4,rfl⟩:=U5 a5 (by omega);have r:=λ(i:Nat) (hi:i<b.bs.length)=>EN (tg:=b.tg) (ts:=Z4 b.bs b.bs.length) (by rw[a0];exact a5) (UQ hi);have cc:∀{a:Addr} {v:Value},(E0 X w1 (λ_ _=>0) 0).cell? a=some v->(w1.at d2).cell? a=some v/\¬X a.block:=λh=>AA (W:=w1.at d2) h;have h0:∀i,i<b.bs.length->∃s,(w1.at d2).cell? ⟨g,i*4,none⟩=some (Tz s):=λi hi=>⟨_,(cc (r i hi).1).1⟩
   have h1:∀i,i<b.bs.length->(w1.at d2).cell? ⟨g,i*4+1,none⟩=some (.int .u64 (YW b i)):=λi hi=>by
    rw[(cc (r i hi).2.1).1,YW,A0 hi];rfl
   have h2:∀i,i<b.bs.length->(w1.at d2).cell? ⟨g,i*4+2,none⟩=some (.int .u64 (YX b i)):=λi hi=>by
    rw[(cc (r i hi).2.2.1).1,YX,A0 hi];rfl
   have h3:∀i,i<b.bs.length->(w1.at d2).cell? ⟨g,i*4+3,none⟩=some (.bool false):=λi hi=>(cc (r i hi).2.2.2).1;have h8:b.tg.length<=8:=a8.1.1;exact ZJ hX (a7.at d2) h5 (cc (hC.1 0 _ rfl)).1 (cc (hC.1 0 _ rfl)).2 (cc (hC.1 1 _ rfl)).1 (cc (r 0 (by omega)).2.1).2 (λi=>U6 h8 _) (U6 h8 _) h0 h1 h2 h3
  refine AaR (f:=43) hX (a7.at d2) (λτ d=>a9 τ d) (by rw[a0];exact h5) (hb:=Bf b) (by rw[a0];exact hW) Post _ (c::cs) gs2 sl2 t2 hh2 λX' Shun' gs' w' sl' t' v hX' hW' hh' hb' hR'=>?_;refine P5 (D:=DE λ_=>False) (B0:=0) (λ_ _ _ h e he=>(h e he).elim) hh' (AlI b2 v w') λgs3 a3 w3 sl3 t3 hh3 hst3=>?_;obtain⟨rfl,d3,rfl⟩:=hst3;have b0:W.heap.size<=w1.heap.size:=by have:=(a6 (λ_ _=>0) 0).size;(try unfold Up at this);rwa [I5,I5] at this
  refine k X' Shun' gs3 _ sl3 t3 v hX' (λb hb=>(hW' b hb).imp id λh=>B4 b0 h) hh3 (hb'.at d3) λτ d=>?_;obtain⟨h1,h2⟩:=hR' τ d;rw[YY,a0] at h1;refine⟨?_,(a6 τ d).trans (h2.mono b0)⟩;have:N5 b=pk (Bf b) (I3 b.bs) b.bs.length:=by rw[N5,if_pos hbk]
  rw[this];exact N1 h1 b0
theorem HU(T:Array Value)(h:T.size=17):∃v0 v1 v2 v3 v4 v5 v6 v7 v8 v9 v10 v11 v12 v13 v14 v15 v16:Value,T=#[v0,v1,v2,v3,v4,v5,v6,v7,v8,v9,v10,v11,v12,v13,v14,v15,v16]:=FB T h
noncomputable def bK:Frame:=base 16
noncomputable def EB:Code:=Tryz.f16.body.getD .skip
noncomputable def Vr:Code:=match EB with | .seq r _=>r|_=>.skip
noncomputable def LY:Code:=match EB with | .seq _ r=>r|_=>.skip
noncomputable def Fi:Array Oper:=match LY with | .seq (.region _ o _) _=>o|_=>#[]
def slK(bv:Value):Array Value:=#[bv,undef,undef,undef,undef,undef,undef,undef,undef,undef,undef,undef,undef,undef,undef,undef,undef]
def AtK(b:Bk)(R:World->Prop)(a:Act)(u:World):Prop :=
 ∃T bx a1 c1 a2 c2,a=⟨T,[]⟩/\T.size=17/\T[1]?=some (.pointer (some ⟨bx,0,none⟩))/\CB u bx [.slice a1 b.tg.length c1,.slice a2 b.bs.length c2]/\K6 u (.agg #[.slice a1 b.tg.length c1,.slice a2 b.bs.length c2]) b/\R u
theorem AjZ(b:Bk)(bv:Value)(w:World)(h:K6 w bv b){R:World->Prop}(HR:Hid (∀u,Up w u->R u)):
  BG prog [Vr] (λe a u=>e=.normal/\AtK b R a u) ⟨slK bv,[]⟩ w:=by
 obtain⟨a1,c1,a2,c2,rfl,h1,h2⟩:=h.parts;clear h1 h2;simp only[Vr,slK,EB,Tryz.f16,Option.getD_some];obtain⟨W1,a3,kA,a0,a4⟩:=cbE1 w [Vz a1 b.tg.length c1,Vz a2 b.bs.length c2] 26;apply Al;intro K hK
 go_wp2_with fail;try rw[a3]
 exact⟨rfl,_,w.heap.size,a1,c1,a2,c2,rfl,rfl,rfl,kA,h.up a0,HR.out _ a0⟩
section
variable {X:Nat->Prop} {Shun:Loc->Prop} {c:Frame} {cs:List Frame} {T:Array Value} {w:World}
theorem Ag6(bv:Value):Frame.enter prog 16 #[bv] .normal=bK.at ⟨slK bv,[]⟩ [.code EB]:=by
 simp[Frame.enter,Frame.at,func16,bK,base,slK,EB,Tryz.f16]
theorem Ag7(hX:Y9 Shun X){bx:Nat}{s1 s2:Value}(hT:T.size=17)(t1:T[1]?=some (Pz bx 0)){τ:Nat->Question->Nat}{d:Nat}(hc0:(E0 X w τ d).cell? ⟨bx,0,none⟩=some s1)(hc1:(E0 X w τ d).cell? ⟨bx,1,none⟩=some s2):
  Go.Conc.Goes prog true AtRel (DE (EvL Shun w.heap.size)) (λg w'=>(∃T',g=G (Frame.enter prog 14 #[.agg #[s1,s2]] .normal) (bK.at ⟨T',[]⟩ (.inRegion Fi [1,2,3,4,5,6,7,8,9,10,11,12,13,14]::[.code .ret])::c::cs)/\T'.size=17/\T'[1]?=some (Pz bx 0))/\AtRel w w') 20 (G (bK.at ⟨T,[]⟩ [.code LY]) (c::cs)) w:=by
 obtain⟨hc0,hx⟩:=AA hc0;obtain⟨hc1,-⟩:=AA hc1;have a1:=World.block_lt_of_cell? w _ hc0;have a2:∀o,¬Shun (.cell ⟨bx,o,none⟩):=λo h=>by (obtain⟨a,e,ha⟩:=hX _ h;cases e;exact hx ha)
 obtain⟨v0,v1,v2,v3,v4,v5,v6,v7,v8,v9,a4,a5,a6,a7,a8,a9,b0,rfl⟩:=HU T hT;simp only[List.getElem?_toArray,List.getElem?_cons_succ,List.getElem?_cons_zero,Option.some.injEq] at t1;subst t1;simp only[LY,Fi,EB,Tryz.f16,Option.getD_some];have rl:∀{V w w₁:World},AtRel V w->AtRel w w₁->AtRel V w₁:=λh r=>atRel_trans _ _ _ h r;have hF:AtRel w w:=atRel_refl w;u_c stepG_seq rl hF
 u_reg rl hF
 u_in rl hF;refine goes_oper_k rfl rfl (by k_ne) (λK hK=>?_);have a3:(‹World›).cell? ⟨bx,0,none⟩=some s1:=(by obtain⟨d,rfl⟩:=hF;exact hc0);have a0:(‹World›).cell? ⟨bx,1,none⟩=some s2:=(by obtain⟨d,rfl⟩:=hF;exact hc1);go_simp;refine hK _ _ ⟨(λe he=>by have hm:=mem_listed he;simp[go_sem, *] at hm;rcases hm with rfl|rfl<;>exact X7 a1 (a2 _)),?_⟩;clear hK K a3 a0;(try walk_nrm)
 u_in rl hF
 refine JH #[.agg #[s1,s2]] rfl rfl (by k_ne) rfl func14 (by kernel_rfl) rfl (by simp[Act.eval]) ⟨λe he=>by simp at he,?_⟩;exact Go.Conc.Goes.stop λw₁ r=>⟨⟨_,rfl,rfl,rfl⟩,rl hF r⟩
theorem Aka(hT:T.size=17):
  Go.Conc.Goes prog true AtRel (DE λ_=>False) (λg w'=>g=G (c.finish (.bool false)) cs/\AtRel w w') 30 (G ((bK.at ⟨T,[]⟩ (.inRegion Fi [1,2,3,4,5,6,7,8,9,10,11,12,13,14]::[.code .ret])).finish (.bool false)) (c::cs)) w:=by
 obtain⟨v0,v1,v2,v3,v4,v5,v6,v7,v8,v9,a0,a1,a2,a3,a4,a5,a6,rfl⟩:=HU T hT;rw[Frame.finish_at];simp only[LY,Fi,EB,Tryz.f16,Option.getD_some];have rl:∀{V w w₁:World},AtRel V w->AtRel w w₁->AtRel V w₁:=λh r=>atRel_trans _ _ _ h r;have hF:AtRel w w:=atRel_refl w;walk_nrm
 u_op rl hF
 u_skip rl hF
 u_skip rl hF
 u_skip rl hF
 u_skip rl hF
 u_op rl hF
 u_op rl hF
 u_skip rl hF
 u_skip rl hF
 u_skip rl hF
 u_skip rl hF
 u_op rl hF
 u_op rl hF
 u_c stepG_region_end rl hF;u_c stepG_ret' rl hF;u_in rl hF;rw[stepG_leave (b:=bK) rfl rfl func16 (results_tmp rfl _ _ _) (events_results_tmp rfl _ _)];simp only[goes_go];refine⟨by u_nil,?_⟩;exact Go.Conc.Goes.stop λw₁ r=>⟨rfl,rl hF r⟩
theorem Akb(hX:Y9 Shun X){bx:Nat}{s1:Value}{a2:Option Addr}{c2:Nat}(hT:T.size=17)(t1:T[1]?=some (Pz bx 0)){τ:Nat->Question->Nat}{d:Nat}(hc0:(E0 X w τ d).cell? ⟨bx,0,none⟩=some s1)(hc1:(E0 X w τ d).cell? ⟨bx,1,none⟩=some (Vz a2 0 c2)):
  Go.Conc.Goes prog true AtRel (DE (EvL Shun w.heap.size)) (λg w'=>g=G (c.finish (.bool false)) cs/\AtRel w w') 30 (G ((bK.at ⟨T,[]⟩ (.inRegion Fi [1,2,3,4,5,6,7,8,9,10,11,12,13,14]::[.code .ret])).finish (.bool true)) (c::cs)) w:=by
 obtain⟨s2,a1⟩:∃s2,s2=Vz a2 0 c2:=⟨_,rfl⟩;rw[← a1] at hc1;obtain⟨hc0,hx⟩:=AA hc0;obtain⟨hc1,-⟩:=AA hc1;have a3:=World.block_lt_of_cell? w _ hc0;have a4:∀o,¬Shun (.cell ⟨bx,o,none⟩):=λo h=>by (obtain⟨a,e,ha⟩:=hX _ h;cases e;exact hx ha)
 obtain⟨v0,v1,v2,v3,v4,v5,v6,v7,v8,v9,a5,a6,a7,a8,a9,b0,b1,rfl⟩:=HU T hT;simp only[List.getElem?_toArray,List.getElem?_cons_succ,List.getElem?_cons_zero,Option.some.injEq] at t1;subst t1;rw[Frame.finish_at];simp only[LY,Fi,EB,Tryz.f16,Option.getD_some];have rl:∀{V w w₁:World},AtRel V w->AtRel w w₁->AtRel V w₁:=λh r=>atRel_trans _ _ _ h r;have hF:AtRel w w:=atRel_refl w;walk_nrm
 u_op rl hF
 u_op rl hF
 u_in rl hF;refine goes_oper_k rfl rfl (by k_ne) (λK hK=>?_);have a0:(‹World›).cell? ⟨bx,1,none⟩=some s2:=(by obtain⟨d,rfl⟩:=hF;exact hc1);go_simp;refine hK _ _ ⟨(λe he=>by have hm:=mem_listed he;simp[go_sem, *] at hm;subst hm;exact X7 a3 (a4 _)),?_⟩;clear hK K a0;(try walk_nrm)
 subst a1;u_in rl hF;refine goes_oper_k rfl rfl (by k_ne) (λK hK=>?_);go_simp;refine hK _ _ ⟨(λe he=>by have hm:=mem_listed he;simp[go_sem,Builtin.len_, *] at hm),?_⟩;clear hK K;(try walk_nrm)
 u_op rl hF
 u_op rl hF
 u_op rl hF
 u_skip rl hF
 u_skip rl hF
 u_skip rl hF
 u_skip rl hF
 u_op rl hF
 u_op rl hF
 u_c stepG_region_end rl hF;u_c stepG_ret' rl hF;u_in rl hF;rw[stepG_leave (b:=bK) rfl rfl func16 (results_tmp rfl _ _ _) (events_results_tmp rfl _ _)];simp only[goes_go];refine⟨by u_nil,?_⟩;exact Go.Conc.Goes.stop λw₁ r=>⟨rfl,rl hF r⟩
theorem Ag8(hX:Y9 Shun X){bx n:Nat}{s1:Value}{a2:Option Addr}{c2:Nat}(hn:0<n)(hT:T.size=17)(t1:T[1]?=some (Pz bx 0)){τ:Nat->Question->Nat}{d:Nat}(hc0:(E0 X w τ d).cell? ⟨bx,0,none⟩=some s1)(hc1:(E0 X w τ d).cell? ⟨bx,1,none⟩=some (Vz a2 n c2)):
  Go.Conc.Goes prog true AtRel (DE (EvL Shun w.heap.size)) (λg w'=>(∃T',g=G (Frame.enter prog 17 #[.agg #[s1,Vz a2 n c2]] .normal) (bK.at ⟨T',[]⟩ (.inRegion Fi [10,11,12,13,14]::[.code .ret])::c::cs)/\T'.size=17/\T'[11]?=some (.bool true))/\AtRel w w') 30 (G ((bK.at ⟨T,[]⟩ (.inRegion Fi [1,2,3,4,5,6,7,8,9,10,11,12,13,14]::[.code .ret])).finish (.bool true)) (c::cs)) w:=by
 have hd:decide ((n:Int) > 0)=true:=decide_eq_true (by omega);obtain⟨s2,a1⟩:∃s2,s2=Vz a2 n c2:=⟨_,rfl⟩;rw[← a1] at hc1;obtain⟨hc0,hx⟩:=AA hc0;obtain⟨hc1,-⟩:=AA hc1;have a3:=World.block_lt_of_cell? w _ hc0;have a4:∀o,¬Shun (.cell ⟨bx,o,none⟩):=λo h=>by (obtain⟨a,e,ha⟩:=hX _ h;cases e;exact hx ha)
 obtain⟨v0,v1,v2,v3,v4,v5,v6,v7,v8,v9,a6,a7,a8,a9,b0,b1,b2,rfl⟩:=HU T hT;simp only[List.getElem?_toArray,List.getElem?_cons_succ,List.getElem?_cons_zero,Option.some.injEq] at t1;subst t1;rw[Frame.finish_at];simp only[LY,Fi,EB,Tryz.f16,Option.getD_some];have rl:∀{V w w₁:World},AtRel V w->AtRel w w₁->AtRel V w₁:=λh r=>atRel_trans _ _ _ h r;have hF:AtRel w w:=atRel_refl w;walk_nrm
 u_op rl hF
 u_op rl hF
 u_in rl hF;refine goes_oper_k rfl rfl (by k_ne) (λK hK=>?_);have a0:(‹World›).cell? ⟨bx,1,none⟩=some s2:=(by obtain⟨d,rfl⟩:=hF;exact hc1);go_simp;refine hK _ _ ⟨(λe he=>by have hm:=mem_listed he;simp[go_sem, *] at hm;subst hm;exact X7 a3 (a4 _)),?_⟩;clear hK K a0;(try walk_nrm)
 subst a1;u_in rl hF;refine goes_oper_k rfl rfl (by k_ne) (λK hK=>?_);go_simp;refine hK _ _ ⟨(λe he=>by have hm:=mem_listed he;simp[go_sem,Builtin.len_, *] at hm),?_⟩;clear hK K;(try walk_nrm)
 u_op rl hF
 u_op rl hF
 u_op rl hF
 obtain⟨s2,a1⟩:∃s2,s2=Vz a2 n c2:=⟨_,rfl⟩;rw[← a1] at hc1;u_in rl hF;refine goes_oper_k rfl rfl (by k_ne) (λK hK=>?_);have a5:(‹World›).cell? ⟨bx,0,none⟩=some s1:=(by obtain⟨d,rfl⟩:=hF;exact hc0);have a0:(‹World›).cell? ⟨bx,1,none⟩=some s2:=(by obtain⟨d,rfl⟩:=hF;exact hc1);go_simp;refine hK _ _ ⟨(λe he=>by have hm:=mem_listed he;simp[go_sem, *] at hm;rcases hm with rfl|rfl<;>exact X7 a3 (a4 _)),?_⟩;clear hK K a5 a0;(try walk_nrm)
 u_in rl hF
 subst a1;refine JH #[.agg #[s1,Vz a2 n c2]] rfl rfl (by k_ne) rfl func17 (by kernel_rfl) rfl (by simp[Act.eval]) ⟨λe he=>by simp at he,?_⟩;exact Go.Conc.Goes.stop λw₁ r=>⟨⟨_,rfl,rfl,rfl⟩,rl hF r⟩
theorem Akc{a2:Option Addr}{m c2:Nat}(hT:T.size=17)(t11:T[11]?=some (.bool true)):
  Go.Conc.Goes prog true AtRel (DE λ_=>False) (λg w'=>g=G (c.finish (.bool ((m:Int)==0))) cs/\AtRel w w') 20 (G ((bK.at ⟨T,[]⟩ (.inRegion Fi [10,11,12,13,14]::[.code .ret])).finish (Vz a2 m c2)) (c::cs)) w:=by
 obtain⟨v0,v1,v2,v3,v4,v5,v6,v7,v8,v9,a0,a1,a3,a4,a5,a6,a7,rfl⟩:=HU T hT;simp only[List.getElem?_toArray,List.getElem?_cons_succ,List.getElem?_cons_zero,Option.some.injEq] at t11;subst t11;rw[Frame.finish_at];simp only[LY,Fi,EB,Tryz.f16,Option.getD_some];have rl:∀{V w w₁:World},AtRel V w->AtRel w w₁->AtRel V w₁:=λh r=>atRel_trans _ _ _ h r;have hF:AtRel w w:=atRel_refl w;walk_nrm
 u_in rl hF;refine goes_oper_k rfl rfl (by k_ne) (λK hK=>?_);go_simp;refine hK _ _ ⟨(λe he=>by have hm:=mem_listed he;simp[go_sem,Builtin.len_, *] at hm),?_⟩;clear hK K;(try walk_nrm)
 u_op rl hF
 u_op rl hF
 u_op rl hF
 u_c stepG_region_end rl hF;u_c stepG_ret' rl hF;u_in rl hF;rw[stepG_leave (b:=bK) rfl rfl func16 (results_tmp rfl _ _ _) (events_results_tmp rfl _ _)];simp only[goes_go];refine⟨by u_nil,?_⟩;exact Go.Conc.Goes.stop λw₁ r=>⟨rfl,rl hF r⟩
end
noncomputable def Gf(b:Bk):Bool:=J6 b&&(decide (0<b.bs.length)&&decide ((N5 b).length=0))
theorem Ag9(b:Bk)(a:Act):N6 (AtK b (λ_=>True) a):=λ_ _ _ h=>h
theorem AgA:EB=Bz [Vr] LY:=by simp only[Bz,Vr,LY,EB,Tryz.f16,Option.getD_some]
theorem okK:∀r∈[Vr],O0 prog (λg=>Fm.contains g) r=true:=by
 intro r hr;simp only[List.mem_cons,List.not_mem_nil,or_false] at hr;subst hr;kernel_rfl
theorem frK:Cm prog bK:=⟨rfl,_,func16⟩
theorem Abx{X:Nat->Prop}{Shun:Loc->Prop}{W:World}{b:Bk}{bv:Value}(hX:Y9 Shun X)(hbW:M1 X W)(hB:∀τ d,K6 (E0 X W τ d) bv b):
  AB prog 16 #[bv] X Shun W λv _=>v=.bool (Gf b):=by
 intro Post c cs gs sl t hh k;rw[Ag6,AgA] at hh;have b6:∀τ d,Hid (∀u,Below (E0 X W τ d).heap.size (E0 X W τ d) u->∃τ d,True/\Below W.heap.size (E0 X W τ d) u):=λτ d u hu=>⟨τ,d,trivial,by (try unfold Up at hu);rw[I5] at hu;exact hu⟩;refine Y5 hX hh (EE R4 frK LY [] (c::cs) [Vr] okK rfl hbW (λτ d=>AW hbW (λτ d=>AjZ b bv _ (hB τ d) (b6 τ d)) τ d)) λgs1 g1 w1 sl1 t1 hh1 hst=>?_;obtain⟨a,rfl,hd,b2,hQ⟩:=hst;have a4:∀τ d,Below W.heap.size (E0 X W τ d) (E0 X w1 τ d):=λτ d=>(S8 (Q:=λ_=>True) (λ_ _ _ h=>h) ((hQ τ d).imp λu h=>let ⟨_,_,_,_,_,_,_,_,_,_,_,h⟩:=h;h)).2;obtain⟨T,bx,a1,c1,a2,c2,rfl,hT,s1,kA,hk,-⟩:=AG.out (Ag9 b a) ((hQ (λ_ _=>0) 0).imp λu h=>let ⟨T,bx,a1,c1,a2,c2,h1,h2,h3,h4,h5,_⟩:=h;⟨T,bx,a1,c1,a2,c2,h1,h2,h3,h4,h5,trivial⟩);have a8:W.heap.size<=w1.heap.size:=by have:=(a4 (λ_ _=>0) 0).size;(try unfold Up at this);rwa [I5,I5] at this
 refine P5 (D:=DE (EvL Shun w1.heap.size)) (B0:=w1.heap.size) (λ_ _ _ h=>h) hh1 (Ag7 hX hT s1 (kA.1 0 _ rfl) (kA.1 1 _ rfl)) λgs2 g2 w2 sl2 t2 hh2 hst2=>?_;obtain⟨⟨T2,rfl,a7,e1⟩,d2,rfl⟩:=hst2;refine Y5 hX hh2 (KI R4 (f:=14) (by kernel_rfl) (b2.at d2) (R:=λw v u=>v=.bool (J6 b)/\Up w u) (λτ d=>(Cf b _ (E0 X (w1.at d2) τ d) hk).mono ?_) _ (c::cs)) λgs3 g3 w3 sl3 t3 hh3 hst3=>?_
 ·rintro e u' ⟨rfl,hb⟩;exact⟨_,rfl,rfl,hb⟩
 obtain⟨v3,rfl,a9,b3⟩:=hst3;have a3:∀τ d,v3=.bool (J6 b)/\Below w1.heap.size (E0 X w1 τ d) (E0 X w3 τ d):=λτ d=>S8 (Q:=λ_=>v3=.bool (J6 b)) (λ_ _ _ h=>h) ((b3 τ d).imp λu h=>let ⟨τ,d,h1,h2⟩:=h;⟨τ,d,h1,by (try unfold Up at h2);rw[I5] at h2;exact h2⟩);obtain rfl:=(a3 (λ_ _=>0) 0).1;have a0:∀τ d,Below W.heap.size (E0 X W τ d) (E0 X w3 τ d):=λτ d=>(a4 τ d).trans ((a3 τ d).2.mono a8);have a5:W.heap.size<=w3.heap.size:=by have:=(a0 (λ_ _=>0) 0).size;(try unfold Up at this);rwa [I5,I5] at this
 have b0:∀τ d,Below (E0 X w1 τ d).heap.size (E0 X w1 τ d) (E0 X w3 τ d):=λτ d=>by (try unfold Up);rw[I5];exact (a3 τ d).2
 have a6:=CB.up (w:=E0 X w1 (λ_ _=>0) 0) kA (b0 _ _) kA.2.2;have b7:∀τ d,K6 (E0 X w3 τ d) (.agg #[Vz a1 b.tg.length c1,Vz a2 b.bs.length c2]) b:=λτ d=>K6.up (w:=E0 X w1 τ d) hk (b0 τ d)
 have b1:Gf b=false->∀gs w sl t,G6 prog Shun gs (G (c.finish (.bool false)) cs) t->(∃d,w=w3.at d)->E7 prog Post (crowd gs w sl) t:=λhL gs w sl t h1 ⟨d,h2⟩=>by
  subst h2;exact k X Shun gs _ sl t _ hX (λb hb=>.inl hb) h1 (a9.at d) λτ d=>⟨by rw[hL],a0 τ d⟩
 cases hq:J6 b with
 | false =>
  rw[hq] at hh3;refine P5 (D:=DE λ_=>False) (B0:=0) (λ_ _ _ h e he=>(h e he).elim) hh3 (Aka (w:=w3) a7) λgs4 g4 w4 sl4 t4 hh4 hst4=>?_;obtain⟨rfl,d4,rfl⟩:=hst4;exact b1 (by simp[Gf,hq]) _ _ _ _ hh4 ⟨_,rfl⟩
 | true =>
  rw[hq] at hh3;by_cases hn:0<b.bs.length
  ·refine P5 (D:=DE (EvL Shun w3.heap.size)) (B0:=w3.heap.size) (λ_ _ _ h=>h) hh3 (Ag8 hX hn a7 e1 (a6.1 0 _ rfl) (a6.1 1 _ rfl)) λgs4 g4 w4 sl4 t4 hh4 hst4=>?_;obtain⟨⟨T4,rfl,b4,b5⟩,d4,rfl⟩:=hst4;refine Vq (b:=b) hX (a9.at d4) (λτ d=>b7 τ d) _ _ (c::cs) gs4 sl4 t4 hh4 λX' Shun' gs' w' sl' t' v hX' hW' hh' hb' hR'=>?_;obtain⟨av,cv,rfl⟩:=(hR' (λ_ _=>0) 0).1.lst.shape;refine P5 (D:=DE λ_=>False) (B0:=0) (λ_ _ _ h e he=>(h e he).elim) hh' (Akc (w:=w') b4 b5) λgs5 g5 w5 sl5 t5 hh5 hst5=>?_;obtain⟨rfl,d5,rfl⟩:=hst5;refine k X' Shun' gs5 _ sl5 t5 _ hX' (λb hb=>(hW' b hb).imp id λh=>B4 a5 h) hh5 (hb'.at d5) λτ d=>⟨?_,(a0 τ d).trans ((hR' τ d).2.mono a5)⟩;congr 1
   rw[Gf,hq,Bool.true_and,Bool.eq_iff_iff,beq_iff_eq,Bool.and_eq_true,decide_eq_true_eq,decide_eq_true_eq];omega
  ·have b8:b.bs.length=0:=by omega
   have k1:=a6.1 1 _ rfl;rw[b8] at k1;refine P5 (D:=DE (EvL Shun w3.heap.size)) (B0:=w3.heap.size) (λ_ _ _ h=>h) hh3 (Akb hX a7 e1 (a6.1 0 _ rfl) k1) λgs4 g4 w4 sl4 t4 hh4 hst4=>?_;obtain⟨rfl,d4,rfl⟩:=hst4;exact b1 (by simp[Gf,hn]) _ _ _ _ hh4 ⟨_,rfl⟩
end Go.Proofs.YtcgkgmmclfeohaaGreatDoor
namespace Go.Proofs.YtcgkgmmclfeohaaGreatDoor
open Go.Proofs.Tryz
open Go.RowKit
theorem Xe(b:Bk)(nm:BA)(ls:List BA):L0 b (O8 b nm ls)=AF b nm ls/\K7 b (O8 b nm ls) (X8 b (F3 b nm) (R6 ls))=Z5 b nm ls:=by
 cases hb:J6 b
 ·obtain⟨h1,h2⟩:=IW (nm:=nm) (nd:=ls) hb;exact⟨by rw[h1];simp[L0,hb],by rw[h2];simp[K7,hb]⟩
 ·cases hm:D7 (I3 b.bs) nm
  ·obtain⟨h1,h2⟩:=EK (nd:=ls) hb hm;exact⟨by rw[h1];simp[L0,hb,O8,hm],by rw[h2];simp[K7,hb,O8,hm]⟩
  ·cases hp:pB (J3 ls (N8 b nm))
   ·obtain⟨h1,h2⟩:=Fq hb hm hp;exact⟨by rw[h1];simp[L0,hb,O8,hm,hp],by rw[h2];simp[K7,hb,O8,hm,hp]⟩
   ·obtain⟨h1,h2⟩:=Fs hb hm hp;exact⟨by rw[h1];simp[L0,hb,O8,hm,hp],by rw[h2];simp[K7,hb,O8,hm,hp]⟩
end Go.Proofs.YtcgkgmmclfeohaaGreatDoor
namespace Go.Proofs.YtcgkgmmclfeohaaGreatDoor
open Go.Proofs.Tryz
open Go.RowKit Go.Shelf Go.Lib
theorem ZK(ps:List Bv)(p:Bv)(k:Nat)(Z:List Value)(hk:k<ps.length)(hz:Z.length=(ps.length+1-k)*3):
  let xs:=E4 (ps.take k)++Z
  let xs2:=xs.take (k*3)++P6 p++xs.drop (k*3+(P6 p).length)
  xs2.take ((k+1)*3)++E4 (ps.drop k)++xs2.drop ((k+1)*3+(E4 (ps.drop k)).length)=E4 (ps.take k++p::ps.drop k):=by
 intro xs xs2;have h1:(E4 (ps.take k)).length=k*3:=by rw[R7,B8];omega
 have h2:(E4 (ps.drop k)).length=(ps.length-k)*3:=by rw[R7,A8]
 have hb:(P6 p).length=3:=rfl;have h3:xs.take (k*3)=E4 (ps.take k):=List.take_left' h1;have a0:xs.length=(ps.length+1)*3:=by show (E4 (ps.take k)++Z).length=_;rw[A9,h1,hz];omega
 have h4:(E4 (ps.take k)++P6 p).length=(k+1)*3:=by rw[A9,h1,hb];omega
 have h5:xs2.take ((k+1)*3)=E4 (ps.take k)++P6 p:=by
  show (xs.take (k*3)++P6 p++_).take _=_
  rw[h3];exact List.take_left' h4
 have h6:xs2.drop ((k+1)*3+(E4 (ps.drop k)).length)=[]:=List.drop_eq_nil_of_le (by
  show (xs.take (k*3)++P6 p++xs.drop (k*3+(P6 p).length)).length<=_
  rw[A9,h3,h4,A8,a0,hb,h2];omega)
 rw[h5,h6,AP];simp[E4]
theorem Tg(ps:List Bv)(p:Bv)(k g c base vb:Nat)(w:World)(hk:k<ps.length)(hn:ps.length<=100)(hroom:c<ps.length+1)(hrow:w.ownsRow base 57 3 (Sz g ps.length c) ps.length (E4 ps))(hone:∀u∈E4 ps,u.oneCell'=true)(hB:DN w vb p)(hop:∀u∈P6 p,u.oneCell'=true)(hz:base<=w.heap.size):
  ∃G W1 W2 w',(∀ty,(Builtin.append_ #[24,3] ty #[Sz g k c,Iz ((ps.length:Int)+1-(k:Int))]).run prog w=.ok (Sz w.heap.size (ps.length+1) G) W1)/\
   (∀ty dc,(Builtin.copy_ #[24,24] ty #[Sy w.heap.size (k*3) (ps.length+1-k) dc,Sz vb 1 1]).run prog W1=.ok (goInt ((1:Nat):Int)) W2)/\
   (∀ty dc sc,(Builtin.copy_ #[24,24] ty #[Vz (some ⟨w.heap.size,(k+1)*3,none⟩) (ps.length-k) dc,Sy g (k*3) (ps.length-k) sc]).run prog W2.drew=.ok (goInt ((ps.length-k:Nat):Int)) w')/\
   w'.ownsRow base 57 3 (Sz w.heap.size (ps.length+1) G) (ps.length+1) (E4 (ps.take k++p::ps.drop k))/\Up w W2/\Up w w'/\ps.length+1<=G/\G<=9223372036854775807/\c=ps.length:=by
 obtain⟨ii,hi,b9,b0,b1⟩:=info_parts CR;have b3:(prog.info? 57).map (·.size)=some 3:=by kernel_rfl
 obtain⟨c7,c8⟩:=GW hrow;obtain rfl:c=ps.length:=by omega
 have c9:=(hrow.lt g rfl).2;have a4:(E4 (ps.take k)).length=k*3:=by rw[R7,B8];omega
 have a5:(E4 (ps.drop k)).length=(ps.length-k)*3:=by rw[R7,A8]
 have a7:(Builtin.firstCells ii.size k (Sz g k ps.length)).run prog w.drew=.ok (E4 (ps.take k)).toArray w.drew:=by
  rw[b0]
  exact run_firstCells_some w.drew 3 k ⟨g,0,none⟩ k ps.length (E4 (ps.take k)) a4 (by
   have h:=Cg hrow 0 (ps.take k) (Ox ps k);intro j v hj;have h2:=h j v hj;simpa using h2)
 have b4:=grownCap_ge w (ps.length+1) ps.length 57;have b5:=grownCap_le_maxLen w (ps.length+1) ps.length 57 (by unfold maxLen;omega);have c1:(ps.length:Int)+1-(k:Int)=((ps.length+1-k:Nat):Int):=by omega
 have a1:k+(ps.length+1-k)=ps.length+1:=by omega
 obtain⟨z,b2⟩:∃z:Value,z=.agg #[Ez,Nz,Nz]:=⟨_,rfl⟩;have b6:z.cells.size=3:=by rw[b2];rfl
 have c2:∀ty,(Builtin.append_ #[24,3] ty #[Sz g k ps.length,Iz ((ps.length:Int)+1-(k:Int))]).run prog w =
   .ok (Sz w.heap.size (ps.length+1) (grownCap w (ps.length+1) ps.length 57)) (w.drew.alloc (.cells ((E4 (ps.take k)).toArray++Builtin.zeroCells z.cells (ps.length+1-k)++Builtin.zeroCells z.cells (grownCap w (ps.length+1) ps.length 57-(ps.length+1))) 57)):=λty=>by
  have h:=Lib.run_append_grow_zeros (P:=prog) w 24 3 ty 57 ii z .i64 .i64 underlying24 underlying3 hi (by rw[b2];exact b9) (some ⟨g,0,none⟩) k ps.length (E4 (ps.take k)) a7 (ps.length+1-k) (by omega) (by rw[b0];omega) (by omega) (by omega) (by rw[b1];omega) (by rw[b1,a1];exact growslice_fits (by omega) (by omega));rw[a1] at h;rw[c1];exact h
 generalize grownCap w (ps.length+1) ps.length 57=G at *;obtain⟨Z,hZ⟩:∃Z,Z=(Builtin.zeroCells z.cells (ps.length+1-k)).toList:=⟨_,rfl⟩;have a8:Z.length=(ps.length+1-k)*3:=by rw[hZ,Array.length_toList,size_zeroCells,b6]
 have a0:(w.drew.alloc (.cells ((E4 (ps.take k)).toArray++Builtin.zeroCells z.cells (ps.length+1-k)++Builtin.zeroCells z.cells (G-(ps.length+1))) 57)).ownsRow w.heap.size 57 3 (Sz w.heap.size (ps.length+1) G) (ps.length+1) (E4 (ps.take k)++Z):=by
  refine⟨by rw[A9,a4,a8];omega,.inr ⟨_,_,_,rfl,A3 _,heap_alloc_new _ _,b4,b5,?_,?_⟩⟩
  ·rw[Array.size_append,Array.size_append,size_zeroCells,size_zeroCells,b6];simp only[List.size_toArray,a4];omega
  ·rw[Array.toList_append,Array.toList_append,List.toList_toArray,← hZ];exact List.take_left' (by rw[A9,a4,a8];omega)
 have b7:Up w (w.drew.alloc (.cells ((E4 (ps.take k)).toArray++Builtin.zeroCells z.cells (ps.length+1-k)++Builtin.zeroCells z.cells (G-(ps.length+1))) 57)):=(A4 _ _).drew.alloc (by simp) _;generalize w.drew.alloc (.cells ((E4 (ps.take k)).toArray++Builtin.zeroCells z.cells (ps.length+1-k)++Builtin.zeroCells z.cells (G-(ps.length+1))) 57)=W1 at *;have c3:vb<w.heap.size:=(D2.1 (show w.heap[vb]?=_ from hB)).1;have c4:DN W1 vb p:=by unfold DN;rw[b7.block vb c3];exact hB
 have b8:(E4 (ps.take k)++Z).length=(ps.length+1)*3:=a0.1;have c5:(P6 p).length=3:=rfl;obtain⟨t1,t2⟩:=Fh (P6 p) (k*3) W1 (E4 (ps.take k)++Z) a0 (by rw[b8,c5];omega);have a2:=t1.1;have a6:(W1.setCells w.heap.size (k*3) (P6 p)).drew.ownsRow w.heap.size 57 3 (Sz w.heap.size (ps.length+1) G) (ps.length+1) _:=t1;obtain⟨s1,s2⟩:=Fh (E4 (ps.drop k)) ((k+1)*3) (W1.setCells w.heap.size (k*3) (P6 p)).drew _ a6 (by rw[a2,a5];omega);rw[ZK ps p k Z hk a8] at s1;have a9:Up w (W1.setCells w.heap.size (k*3) (P6 p)):=O6 b7 a0 t2 (A3 _);have c6:=O6 (W:=(W1.setCells w.heap.size (k*3) (P6 p)).drew) a9.drew a6 s2 (A3 _);have a3:(W1.setCells w.heap.size (k*3) (P6 p)).drew.ownsRow base 57 3 (Sz g ps.length ps.length) ps.length (E4 ps):=P0 hrow a9.drew;refine⟨G,W1,_,_,c2,λty dc=>?_,λty dc sc=>?_,N1 s1 hz,a9,c6,b4,by unfold maxLen at b5;omega,rfl⟩
 ·have h:=Iy (P:=prog) W1 24 24 ty 57 3 w.heap.size (k*3) (ps.length+1-k) dc ⟨vb,0,none⟩ 1 1 (P6 p) underlying24 b3 (by rw[show Nat.min 1 (ps.length+1-k)=1 from Nat.min_eq_left (by omega)];rfl)
   c4.cell (λj hj=>?_) (λj hj=>a0.frozenAt _) hop
  ·rw[h,show Nat.min 1 (ps.length+1-k)=1 from Nat.min_eq_left (by omega)]
  ·have d0:j<3:=hj;rw[a0.cellAt _ (by omega),A0 (by rw[b8];omega)];rfl
 ·have h:=Iy (P:=prog) (W1.setCells w.heap.size (k*3) (P6 p)).drew 24 24 ty 57 3 w.heap.size ((k+1)*3) (ps.length-k) dc ⟨g,k*3,none⟩ (ps.length-k) sc (E4 (ps.drop k)) underlying24 b3 (by rw[a5,show Nat.min (ps.length-k) (ps.length-k)=ps.length-k from Nat.min_self _])
   (Cg a3 k (ps.drop k) (IR ps k)) (λj hj=>?_) (λj hj=>a6.frozenAt _) (λu hu=>hone u (by
    rw[← List.take_append_drop k ps,AP];exact List.mem_append_right _ hu))
  ·rw[h,show Nat.min (ps.length-k) (ps.length-k)=ps.length-k from Nat.min_self _]
  ·rw[a6.cellAt _ (by rw[a5] at hj;omega),A0 (by rw[a2];rw[a5] at hj;omega)];rfl
theorem Uc(ps:List Bv)(p:Bv)(k g c base vb:Nat)(w:World)(hk:k<ps.length)(hn:ps.length<=100)(hroom:c<ps.length+1)(hrow:w.ownsRow base 57 3 (Sz g ps.length c) ps.length (E4 ps))(hone:∀u∈E4 ps,u.oneCell'=true)(hB:DN w vb p)(hop:∀u∈P6 p,u.oneCell'=true)(hz:base<=w.heap.size):
  Calls prog 81 #[(Sz g ps.length c),Iz k,Sz vb 1 1] w
   λe w'=>∃u,e=.returned u/\w'.ownsRow base 57 3 u (ps.length+1) (E4 (ps.take k++p::ps.drop k))/\Up w w'/\∀g',u.ownBlock=some g'->w.heap.size<=g':=by
 obtain⟨G,W1,W2,w4,a3,a4,a5,a1,a6,a2,a7,a8,rfl⟩:=Tg ps p k g c base vb w hk hn hroom hrow hone hB hop hz;have a0:Up w W2.drew:=a6.drew;have a9:¬((k:Int)=(ps.length:Int)):=by omega
 have b0:¬(G=k+1):=by omega
 have b1:¬(G=k):=by omega
 have b2:¬(ps.length=k):=by omega
 have b3:k<=ps.length:=by omega
 have b4:(k:Int)<=(ps.length:Int):=by omega
 have b5:(ps.length:Int)<(ps.length:Int)+1:=by omega
 have b6:IntKind.i64.wrap ((k:Int)+1)=(k:Int)+1:=by rw[IntKind.wrap_i64];omega
 have b7:0<=(k:Int)+1:=by omega
 have b8:(k:Int)+1<=(ps.length:Int)+1:=by omega
 have b9:(k:Int)<=(ps.length:Int)+1:=by omega
 have c1:((k:Int)+1).toNat=k+1:=by omega
 have c2:((ps.length+1:Nat):Int)=(ps.length:Int)+1:=by omega
 clear hrow hone hB hop hroom;go_in
 go_wp2_with (first
  | (at_builtin;refine BJ _ rfl _ _ _ _ rfl _ _ _ _ rfl rfl (a3 _) ?_)
  | (at_builtin;refine wpList_copy_runI _ rfl _ _ 24 24 rfl _ _ rfl rfl (a4 _ _) ?_))
 refine T9 99 (λw'=>Up w w') (by kernel_rfl) ?_;refine I2 0 rfl a0 ?_;refine I2 1 rfl a0 ?_;refine I2 2 rfl a0 ?_;refine I2 3 rfl a0 ?_;refine I2 4 rfl a0 ?_;refine I2 5 rfl a0 ?_;refine I2 6 rfl a0 ?_;refine I2 7 rfl a0 ?_;refine T0 8 rfl (λK hK=>?_);refine step_copy_runI rfl _ _ 24 24 rfl (Vz (some ⟨w.heap.size,(k+1)*3,none⟩) (ps.length-k) (G-(k+1))) (Sy g (k*3) (ps.length-k) (ps.length-k)) (by simp[Act.eval,Act.put]) (by simp[Act.eval,Act.put]) (a5 _ _ _) ?_;refine Y1 hK a2 ?_;clear hK K;refine Y2 (by kernel_rfl) ?_ _;go_wp2_with fail;go_ret;exact⟨_,rfl,a1,a2,λg' hg'=>by simp[Value.ownBlock] at hg';omega⟩
end Go.Proofs.YtcgkgmmclfeohaaGreatDoor
namespace Go.Proofs.YtcgkgmmclfeohaaGreatDoor
open Go.Proofs.Tryz
open Go.RowKit
theorem Ud(ps:List Bv)(p:Bv)(k:Nat)(v:Value)(base vb:Nat)(w:World)(hk:k<=ps.length)(hn:ps.length<=100)(hrow:w.ownsRow base 57 3 v ps.length (E4 ps))(hone:∀u∈E4 ps,u.oneCell'=true)(hB:DN w vb p)(hop:∀u∈P6 p,u.oneCell'=true)(hne:v.ownBlock≠some vb)(hz:base<=w.heap.size):
  Calls prog 81 #[v,Iz k,Sz vb 1 1] w
   λe w'=>∃u,e=.returned u/\w'.ownsRow base 57 3 u (ps.length+1) (E4 (ps.take k++p::ps.drop k))/\w.grownBy w' v.ownBlock/\MT w v u:=by
 by_cases h0:k=ps.length
 ·subst h0;rw[List.take_length,List.drop_length];exact WY ps p v base vb w hn hrow hB hop hz
 ·obtain⟨g,c,rfl⟩:=U5 hrow (by omega);have a0:vb≠g:=λe=>hne (by rw[e];rfl);by_cases hr:ps.length+1<=c
  ·refine (TY ps p k g c base vb w (by omega) hn hr hrow hone hB hop a0).mono ?_;rintro e w' ⟨rfl,h1,h2⟩;exact⟨_,rfl,h1,h2,λg' hg'=>.inl hg'⟩
  ·refine (Uc ps p k g c base vb w (by omega) hn (by omega) hrow hone hB hop hz).mono ?_;rintro e w' ⟨u,rfl,h1,h2,h3⟩;exact⟨u,rfl,h1,Bm h2,λg' hg'=>.inr (h3 g' hg')⟩
noncomputable def As(b:Bk)(nm:BA)(ls:List BA):Int:=if (U0 nm&&pB (J3 ls b.tg))=false then 2 else if D7 (I3 b.bs) nm=true then 3 else if 5<=b.bs.length then 4 else 0
theorem LZ(b:Bk)(nm:BA)(ls:List BA):L0 b (As b nm ls)=R8 b nm ls/\K7 b (As b nm ls) ⟨b.tg,b.bs.take (U3 b nm)++⟨nm,[],ls⟩::b.bs.drop (U3 b nm)⟩=N9 b nm ls:=by
 cases hb:J6 b
 ·exact⟨by simp[L0,R8,hb],by simp[K7,N9,hb]⟩
 ·have e:R8 b nm ls=As b nm ls:=by simp[R8,As,hb]
  exact⟨by rw[e];simp[L0,hb],by unfold N9;rw[e];simp[K7,hb]⟩
theorem Th(b:Bk)(v:Value)(nm:BA)(lv:Value)(ls:List BA)(w:World)(h:K6 w v b)(hok:I8 b)(hl:Ls w lv ls)(hnz:nm.size<=maxLen):
  Calls prog 143 #[.agg #[Tz nm,lv],v] w λe w'=>e=.returned (Y4 (As b nm ls))/\Up w w':=by
 obtain⟨a1,c1,a2,c2,rfl,ht,-⟩:=h.parts;obtain⟨la,lc,rfl,-⟩:=id hl;have c6:b.bs.length<=5:=hok.2.1;obtain⟨W1,b2,kA,kB,a7,c5⟩:=cbE2 w [Tz nm,Vz la ls.length lc] 51 [Vz a1 (b).tg.length c1,Vz a2 (b).bs.length c2] 26;go_in;go_upto_region 1 with fail;try rw[b2]
 clear b2;have b3:=h.up a7;have b4:=hl.up a7;have b5:=ht.up a7;obtain⟨e0,e1⟩:=kA.c2';obtain⟨d0,d1⟩:=kB.c2';go_wp2_with fail;refine (Jn nm _ hnz).mono ?_;rintro e w2 ⟨rfl,a0⟩;have c7:=a0.size;have a9:=kA.up a0 (by omega);have b0:=kB.up a0 (by omega);have b6:=b3.up a0;have b7:=b4.up a0;have b8:=b5.up a0;have a3:=D4 a7 a0;clear e0 e1 d0 d1 kA kB b3 b4 b5 a7 a0 h hl ht;cases hnm:U0 nm
 ·have HV:Hid (Y4 (As b nm ls)=.iface 91 (.agg #[Iz 2])):=by show _=_;simp[As,hnm,Y4]
  go_wp2_with fail;go_ret;exact⟨EL HV.out,a3⟩
 obtain⟨e0,e1⟩:=a9.c2';obtain⟨d0,d1⟩:=b0.c2';go_wp2_with fail;refine (ET ls b.tg _ _ _ b7 b8).mono ?_;rintro e w3 ⟨rfl,a6⟩;have c8:=a6.size;have b9:=a9.up a6 (by omega);have b1:=b0.up a6 (by omega);have c3:=b6.up a6;have a4:=D4 a3 a6;clear e0 e1 d0 d1 a9 b0 b6 b7 b8 a3 a6;cases hpt:pB (J3 ls b.tg)
 ·have HV:Hid (Y4 (As b nm ls)=.iface 91 (.agg #[Iz 2])):=by show _=_;simp[As,hnm,hpt,Y4]
  go_wp2_with fail;go_ret;exact⟨EL HV.out,a4⟩
 obtain⟨e0,e1⟩:=b9.c2';obtain⟨d0,d1⟩:=b1.c2';go_wp2_with fail;refine (Ft b _ nm _ c3 hok).mono ?_;rintro e w4 ⟨rfl,a8⟩;have c9:=a8.size;have c4:=b1.up a8 (by omega);have a5:=D4 a4 a8;clear e0 e1 d0 d1 b9 b1 c3 a4 a8;generalize Jt (I3 b.bs) nm=q at *;cases hm:D7 (I3 b.bs) nm
 ·obtain⟨d0,d1⟩:=c4.c2';by_cases h5:b.bs.length=5
  ·have HV:Hid (Y4 (As b nm ls)=.iface 91 (.agg #[Iz 4])):=by show _=_;simp[As,hnm,hpt,hm,h5,Y4]
   rw[h5] at d1;go_wp2_with fail;go_ret;exact⟨EL HV.out,a5⟩
  ·have HV:Hid (Y4 (As b nm ls)=.nilIface):=by show _=_;simp[As,hnm,hpt,hm,Y4];omega
   have d2:¬((b.bs.length:Int)=5):=by omega
   go_wp2_with fail;go_ret;exact⟨EL HV.out,a5⟩
 ·have HV:Hid (Y4 (As b nm ls)=.iface 91 (.agg #[Iz 3])):=by show _=_;simp[As,hnm,hpt,hm,Y4]
  go_wp2_with fail;go_ret;exact⟨EL HV.out,a5⟩
end Go.Proofs.YtcgkgmmclfeohaaGreatDoor
