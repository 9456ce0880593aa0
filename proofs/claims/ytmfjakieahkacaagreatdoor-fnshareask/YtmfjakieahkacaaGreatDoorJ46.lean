/- The program's ShareAsk. -/
import Derived.Test.YtmfjakieahkacaaGreatDoorJ40
import Derived.Test.YtmfjakieahkacaaGreatDoorJ44
import Derived.Test.YtmfjakieahkacaaGreatDoorJ35
import Derived.Test.YtmfjakieahkacaaGreatDoorJ32
import Derived.Test.YtmfjakieahkacaaGreatDoorJ36
import Derived.Test.YtmfjakieahkacaaGreatDoorWwi
import Derived.Test.YtmfjakieahkacaaGreatDoorDn6
import Derived.Test.YtmfjakieahkacaaGreatDoorJ17
set_option maxRecDepth 100000
set_option maxHeartbeats 4000000
namespace Go.Proofs.YtmfjakieahkacaaGreatDoor
open Go.RowKit
noncomputable def Y3(b:Bk)(nm:ByteArray)(ls:List ByteArray):Int:=S0 b (As b nm ls)
noncomputable def Az(b:Bk)(nm:ByteArray)(ls:List ByteArray):Bk:=U3 b (As b nm ls) (X8 b (I3 b nm) (N6 ls))
theorem Aar{b b':Bk}{nm:ByteArray}{ls:List ByteArray}{cd:Int}(h:Cr b nm ls cd b'):cd=Y3 b nm ls/\b'=Az b nm ls:=Abj h
theorem Ye{b:Bk}{nm:ByteArray}{ls:List ByteArray}(h:Bh b)(hn:∀s∈ls,s.size<=maxLen):Bh (Az b nm ls):=by
 unfold Az U3;split
 ·exact Ek
 ·split
  ·exact Sc h hn
  ·exact h
end Go.Proofs.YtmfjakieahkacaaGreatDoor
namespace Go.Proofs.YtmfjakieahkacaaGreatDoor
open Go.Conc Go.RowKit
section
variable {P:Program} {X:Nat->Prop} {s:Nat->Bool}
theorem Yf(S:N0 P s){r:Code}(hr:N7 P s r=true){b:Frame}(hb:CC P b){a:Act}(hd:a.defers=[]){Q:Act->World->Prop}{u:World}(hu:R4 (λ_=>False) u u)(h:r.wp P (λe a u=>e=.ret/\Q a u) a u){N:Nat}{a':Act}{todo:List Item}{u':World}
  (hN:runN P N (lone (b.at a [.code r]) ([]++[c0 P]) u)=.next (lone {b.at a' todo with mode:=.returning} [c0 P] u')):todo≠[]:=λe=>by
 subst e;have hok:N8 P s (b.at a [.code r]):=hb.ok hd (by intro i hi;simp at hi;subst hi;exact hr);obtain⟨e,a2,u2,⟨rfl,_⟩,harr⟩:=h b [My] [c0 P];obtain⟨todo2,M,hM⟩:=harr;exact Mx S My (λfr x h1 h2 h3=>PU fr x h1 h2 h3) N hok (seg:=[]) (by simp) (by simp) (by simp) hu (λ_=>rfl) hN rfl rfl M hM rfl
def AbF(X:Nat->Prop)(b:Frame)(bw:List Frame)(Q:Act->World->Prop)(g:Goroutine)(w:World):Prop:=∃a' todo,g=G {b.at a' todo with mode:=.returning} bw/\a'.defers=[]/\N9 X w/\∀τ d,Aq (Q a') (E0 X w τ d)
theorem Ww(S:N0 P s){r:Code}(hr:N7 P s r=true){b:Frame}(hb:CC P b){a:Act}(hd:a.defers=[]){w:World}(hw:N9 X w){Q:Act->World->Prop}
  (h:∀τ d,Aq (λu=>r.wp P (λe a u=>e=.ret/\Q a u) a u) (E0 X w τ d)) (k:List Item) (bw:List Frame) :
  AU P X (AbF X b bw Q) (G (b.at a (.code r::k)) bw) w:=by
 have hok:N8 P s (b.at a [.code r]):=hb.ok hd (by intro i hi;simp at hi;subst hi;exact hr)
 have hst:St P X s Gz (λfe u=>∃a' todo,fe={b.at a' todo with mode:=.returning}/\Aq (Q a') u) (b.at a [.code r]) [] w:=by
  refine⟨hok,by simp,hw,λτ d=>?_⟩;obtain⟨u0,h1,h2⟩:=h τ d;obtain⟨e,a',u',⟨rfl,hq⟩,harr⟩:=h1 b [] [c0 P];obtain⟨todo,N,hN⟩:=harr;have hne:=Yf S hr hb hd (h2.trans h2.symm) h1 hN;obtain⟨ve,q1,q2⟩:=shift S N hok (seg:=[]) (by simp) h2 hN;exact⟨N,_,ve,q1,⟨rfl,hne⟩,a',todo,rfl,_,hq,q2⟩
 refine (Lt S (λfe u v hf ⟨a',todo,h1,h3⟩=>⟨a',todo,h1,h3.full hf⟩) k bw hst).mono λg w' ⟨fe,h1,h2,h3,h4,h5⟩=>?_;obtain⟨a',todo,e,_⟩:=h5 (λ_ _=>0) 0;subst e;refine⟨a',todo++k,h1,h2.defers,h3,λτ d=>?_⟩;obtain⟨a'',todo',e,hq⟩:=h5 τ d;have e1:a'.tmps=a''.tmps:=congrArg Frame.tmps e;have e2:a'.defers=a''.defers:=congrArg Frame.defers e;obtain rfl:a'=a'':=by cases a';cases a'';simp_all
 exact hq
variable {X0:Nat->Prop} {W0 V:World} {F:World->Prop} {Shun:Loc->Prop} {Post:Value->World->Prop} {b:Frame} {a:Act} {k:List Item} {bw:List Frame} {gs:Array Goroutine} {sl:Option (Nat×Nat)} {t:Trace}
theorem LE(S:N0 P s){r:Code}(hr:N7 P s r=true)(hb:CC P b)(hd:a.defers=[])(hF:Ay F)(hI:L8 X0 W0 F X Shun V){G':Act->World->Prop}(hG:∀a,P4 (G' a))(h:∀u,F u->r.wp P (λe a' u'=>e=.ret/\G' a' u'/\Below u.heap.size u u') a u)
  (hh:K1 P Shun gs (G (b.at a (.code r::k)) bw) t) (kk:∀gs V sl t a' todo,K1 P Shun gs (G {b.at a' todo with mode:=.returning} bw) t->a'.defers=[]->L8 X0 W0 (λu=>F u/\G' a' u) X Shun V->G4 P Post (crowd gs V sl) t):G4 P Post (crowd gs V sl) t:=by
 refine Y8 hI.hX hh (Ww S hr hb hd hI.base (Q:=λa u=>∃τ d,G' a u/\Below V.heap.size (E0 X V τ d) u) (λτ d=>AG hI.base (λτ d=>wp_mono (h _ (hI.hold τ d)) ?_) τ d) k bw) λgs' g' w' sl' t' hh' hst=>?_
 ·intro e a' u' hq;refine⟨hq.1,τ,d,hq.2.1,?_⟩;have:=hq.2.2;rwa [K5] at this
 obtain⟨a',todo,rfl,hd',hb',hQ⟩:=hst;have h1:=λτ d=>U6 (hG a') (hQ τ d);exact kk gs' w' sl' t' a' todo hh' hd' ⟨hI.hX,hb',λτ d=>⟨hF.up _ _ (hI.hold τ d) (by rw[K5];exact (h1 τ d).2),(h1 τ d).1⟩,λτ d=>(hI.low τ d).trans ((h1 τ d).2.mono hI.size),hI.far⟩
end
end Go.Proofs.YtmfjakieahkacaaGreatDoor
namespace Go.Proofs.YtmfjakieahkacaaGreatDoor
open Go.Conc Go.ConcN Go.RowKit Go.Conc.Lib Go.ConcR.Gen Go.ConcN.Gen
open Go.ConcR (KK wgBlock WgAt stA smA rd wr mk Payload DC0)
theorem TX{P:Program}{main:Bool}{R:World->World->Prop}{D:World->World->Array Event->Prop}(T:Terms R D){b:Frame}{a:Act}{k:List Item}{cs:List Frame}{w:World}{ops:Array Oper}{i:Nat}{rest:List Nat}{o:Oper}{f:FuncId}{fn:Func}{c:Code}{a0:Act}
  {nf m:Nat} {Post:Value->World->Prop} {Stop:Goroutine->World->Prop} (ho:ops[i]?=some o) (hf:P.funcs[f]?=some fn)
  (hwp:c.wpC P main R D f nf (bodyPostC P fn Post) a0 w)
  (hnext:∀v w',Post v w'->Goes P main R D Stop m (G (b.at (a.put o.dst v) (.inRegion ops rest::k)) cs) w') :
  Goes P main R D Stop (m+2+nf) (G ((base f).at a0 [.code c]) (b.at a (.inRegion ops (i::rest)::k)::cs)) w:=by
 have hfin:∀v,(b.at a (.inRegion ops (i::rest)::k)).finish v=b.at (a.put o.dst v) (.inRegion ops rest::k):=λv=>by rw[Frame.finish_at,ho];rfl
 have hleave:∀(a':Act)(w':World)(todo:List Item),(a'.defers=[]/\∃v,ResultsC P fn a'.tmps v/\Post v w')->
   Goes P main R D Stop (m+1) (G {(base f).at a' todo with mode:=.returning} (b.at a (.inRegion ops (i::rest)::k)::cs)) w':=by
  rintro a' w' todo ⟨hd,v,hr,hp⟩;refine Goes.step rfl λw₁ h₁=>?_;rw[stepG_leave (b:=base f) rfl hd hf (hr w₁).1 (hr w₁).2,hfin];exact⟨T.idle _,(hnext v w' hp).rely T.trans h₁⟩
 refine hwp (base f) [] _ Stop (m+2) rfl (by simp[base]) λe a' w' q=>?_;cases e with
 | normal=>exact Goes.step rfl λw₁ h₁=>by rw[stepG_end];exact⟨T.idle _,(hleave a' w' [] q).rely T.trans h₁⟩
 | ret=>exact λtodo=>(hleave a' w' todo q).more
 | exit id=>exact q.elim
 | goto l=>exact q.elim
 | panic ch=>exact q.elim
 | outgrown=>exact q.elim
theorem Rk(P:Program)(w:World)(es:Array Event)(a:Addr)(m:Mode)(s:ByteArray):(store a (.string s) m).events P w es=storedEv P w es a (.string s) m:=events_store P w es a _ m rfl
theorem Qn(P:Program)(w:World)(es:Array Event)(a:Addr)(m:Mode)(s:Bool):(store a (.bool s) m).events P w es=storedEv P w es a (.bool s) m:=events_store P w es a _ m rfl
theorem JL{w:World}{b k:Nat}{xs:Array Value}{ty:TypeId}(h:w.heap[b]?=some (.cells xs ty))(v:Value):(w.setCell ⟨b,k,none⟩ v).heap[b]?=some (.cells (xs.setIfInBounds k v) ty):=by
 rw[setCell_eq_setRow w b k xs ty (0,0) v h,setRow_heap w b xs _ ty _ h]
theorem Df{M:Nat->Prop}{b:Nat}(hb:M b)(w:World)(k:Nat)(v:Value):Em M w (w.setCell ⟨b,k,none⟩ v):=by
 have has:=aside_setCell w ⟨b,k,none⟩ v;exact⟨has.tape,has.os,has.output,λh=>FM h _ _,has.size,λc hc=>has.block c λe=>hc (by rw[show c=b from e];exact hb)⟩
theorem Em.trans{M:Nat->Prop}{w w₁ w₂:World}(h:Em M w w₁)(h':Em M w₁ w₂):Em M w w₂ :=
 ⟨h'.tape.trans h.tape,h'.os.trans h.os,h'.output.trans h.output,h'.nv ∘ h.nv,h'.size.trans h.size,λb hb=>(h'.block b hb).trans (h.block b hb)⟩
def Gm(tb:Nat):Value:=.func (.func 32) #[.pointer (some ⟨tb,0,none⟩)] #[]
theorem EV.owns{p:K7}{W w w':World}{C i b:Nat}(h:EV p W C i w)(o:p.Ok)(hb:p.Low<=b)(hC:C≠b)(r:Em (R6 b) w w'):EV p W C i w':=by
 have hS:p.S≠b:=λe=>by have:=o.s;omega
 have hW:p.Wg≠b:=λe=>by have:=o.wg;omega
 refine⟨⟨?_,?_,(r.block C hC).trans h.tk.box⟩,λk h1 h2 h3=>(r.block k λe=>by have:k=b:=e;omega).trans (h.low k h1 h2 h3)⟩
 ·obtain⟨s,m,hs⟩:=h.tk.live;exact⟨s,m,hs.of_block (r.block _ hW)⟩
 ·obtain⟨s,hs⟩:=h.tk.sum;exact⟨s,(r.block _ hS).trans hs⟩
section
variable {p:K7} {W:World} {M:Nat->Prop} {C hB i b:Nat} {tb g n cap:Nat} {s0:ByteArray} {hb nb fb:Nat}
theorem Wx(o:p.Ok)(hC:M C)(AC:M b)(hbL:p.Low<=b)(hbC:C≠b)(h1:Ep p ⟨tb,1,none⟩)(c1:W.cell? ⟨tb,1,none⟩=some (.int .u64 fb))(l1:hb<256)(l2:fb<256){Stop:Goroutine->World->Prop}{m:Nat}
  (hnext:∀w,EV p W C i w->Goes Tryz.prog false (RK p M) (DK p M) Stop m (G (bW.at ⟨EL p hB C i (Gm tb) (.bool (bits .andNot .u64 (nb:Int) ((fb:Int)+(hb:Int))==0)),Ns p⟩ (.inRegion Gg []::[.code Gh])) [Gf]) w) :
  ∃mm,∀w,Jl p W C i b #[.string ⟨#[]⟩,.int .u64 0,.int .u64 0,.bool false] w->Goes Tryz.prog false (RK p M) (DK p M) Stop mm (G (bC.at ⟨Ql tb g i n cap (.pointer (some ⟨b,0,none⟩)) (.agg #[.string s0,.int .u64 hb,.int .u64 nb,.bool false]),[]⟩ (.inRegion LB [8]::[.code Wr])) [bW.at ⟨EL p hB C i (Gm tb) undef,Ns p⟩ (.inRegion Gg [2]::[.code Gh]),Gf]) w:=by
 obtain⟨nf,htail⟩:=Aao (p:=p) (W:=W) (M:=M) (C:=C) (i:=i) (g:=g) (n:=n) (cap:=cap) (x0:=.string s0) (nb:=nb) o hC AC hbL h1 c1 l1 l2 (.agg #[.string s0,.int .u64 hb,.int .u64 nb,.bool false]);have hns:∀k,¬p.Sh (.cell ⟨b,k,none⟩):=λk h=>by have:=o.low h;simp at this;omega
 refine⟨m+2+nf+2,λw hF=>?_⟩;simp only[Ql,LB,JK,Tryz.f32,Option.getD_some] at htail ⊢
 refine Goes.step rfl (λ_ h₁=>?_);replace hF:=DR hC AC hF h₁;clear h₁;refine goes_oper_k rfl rfl (by k_ne) (λK hK=>?_);have d0:=hF.cell (k:=0) (v:=.string ⟨#[]⟩) rfl;have d1:=hF.cell (k:=1) (v:=.int .u64 0) rfl;have d2:=hF.cell (k:=2) (v:=.int .u64 0) rfl;have d3:=hF.cell (k:=3) (v:=.bool false) rfl;have t0:∀k,(‹World›).frozen? ⟨b,k,none⟩=false:=λk=>by simp[World.frozen?,hF.row]
 go_simp;have hO:Em M ‹World› _:=(((Df AC _ 0 (.string s0)).trans (Df AC _ 1 (.int .u64 hb))).trans (Df AC _ 2 (.int .u64 nb))).trans (Df AC _ 3 (.bool false));have hO1:Em (R6 b) ‹World› _:=(((Df (M:=R6 b) rfl _ 0 (.string s0)).trans (Df (M:=R6 b) rfl _ 1 (.int .u64 hb))).trans (Df (M:=R6 b) rfl _ 2 (.int .u64 nb))).trans (Df (M:=R6 b) rfl _ 3 (.bool false));have hR:=JL (k:=3) (JL (k:=2) (JL (k:=1) (JL (k:=0) hF.row (.string s0)) (.int .u64 hb)) (.int .u64 nb)) (.bool false);refine hK _ _ ⟨⟨hO,λe he=>?_⟩,?_⟩
 ·have hm:=mem_listed he;simp[go_sem,Rk,Qn, *] at hm;rcases hm with rfl|rfl|rfl|rfl<;>exact Eo AC (hns _)
 clear hK K d0 d1 d2 d3 t0 hO;have hF':=hF.kn.owns o hbL hbC hO1;clear hF hO1;have hF:=Jl.mk hF' hR;clear hF' hR;generalize ((((‹World›).setCell ⟨b,0,none⟩ (.string s0)).setCell ⟨b,1,none⟩ (.int .u64 hb)).setCell ⟨b,2,none⟩ (.int .u64 nb)).setCell ⟨b,3,none⟩ (.bool false)=w₂ at hF;have hF':Jl p W C i b #[.string s0,.int .u64 hb,.int .u64 nb,.bool false] w₂:=hF;clear hF;have hF:=hF';clear hF';refine Goes.step rfl (λ_ h₁=>?_);replace hF:=DR hC AC hF h₁;clear h₁;rw[stepG_region_end];simp only[goes_go];refine⟨O3 _,?_⟩;refine TX (P3 p M) (f:=32) (i:=2) (rest:=[]) rfl Tryz.func32 (htail _ hF) λv w' hv=>?_;obtain⟨rfl,hw'⟩:=hv;exact hnext _ hw'.kn
end
section
variable {X:Nat->Prop} {Shun:Loc->Prop} {W:World}
theorem Wy(hX:∀l,Shun l->∃a,l=.cell a/\X a.block)(hbW:N9 X W){n tb g cap fb:Nat}{ha ne:Nat->Nat}(hn:n<=5)
  (c2:W.cell? ⟨tb,0,none⟩=some (.slice (some ⟨g,0,none⟩) n cap)) (x2:¬X tb) (c1:W.cell? ⟨tb,1,none⟩=some (.int .u64 fb)) (x3:¬X g) (l1:∀j,ha j<256) (l2:fb<256)
  (r0:∀i,i<n->∃s,W.cell? ⟨g,i*4,none⟩=some (.string s)) (r1:∀i,i<n->W.cell? ⟨g,i*4+1,none⟩=some (.int .u64 (ha i))) (r2:∀i,i<n->W.cell? ⟨g,i*4+2,none⟩=some (.int .u64 (ne i))) (r3:∀i,i<n->W.cell? ⟨g,i*4+3,none⟩=some (.bool false)) :
  JI Shun W n (λj=>bits .andNot .u64 (ne j:Int) ((fb:Int)+(ha j:Int))==0) (Gm tb):=by
 intro p hp hty htS o hL hWg hS hSh hbit j hj C w hCL hW;have lt:∀{a:Addr} {v:Value},W.cell? a=some v->a.block<W.heap.size+1:=λ{a v} hc=>by have:=World.block_lt_of_cell? W a hc;omega
 have L:∀{a:Addr} {v:Value},W.cell? a=some v->¬X a.block->Ep p a:=λhc hx=>TN hX hL hWg hS hSh (lt hc) hx;have hhB:Ep p ⟨W.heap.size,0,none⟩:=TN hX hL hWg hS hSh (Nat.lt_succ_self _) (λh=>Nat.lt_irrefl _ (hbW.old _ h));obtain⟨s0,r0⟩:=r0 j hj;have hg:g<W.heap.size+1:=lt r0;refine⟨2,0+23,A3 _,λh=>by omega,?_⟩;unfold Wk;rw[hp];refine AcR o hCL hj hhB AcK (L c2 x2) (Et c2) (λk=>TN (a:=⟨g,k,none⟩) hX hL hWg hS hSh hg x3) (Et r0) (Et (r1 j hj)) (Et (r2 j hj)) (Et (r3 j hj)) (λw' hw'=>?_) w hW;refine Goes.stop (λw₁ r₁=>?_);replace hw':=CR (M:=R6 C) rfl hw' r₁;clear r₁
 have hlt:C<w₁.heap.size:=by
  have:=hw'.tk.box;rw[C9] at this;exact this.1
 have hgr:=Cm w₁ #[.string ⟨#[]⟩,.int .u64 0,.int .u64 0,.bool false] 95;have hnew:(w₁.alloc (.cells #[.string ⟨#[]⟩,.int .u64 0,.int .u64 0,.bool false] 95)).heap[w₁.heap.size]?=some (.cells #[.string ⟨#[]⟩,.int .u64 0,.int .u64 0,.bool false] 95):=heap_alloc_new w₁ _;simp only[Ql,LB,JK,Tryz.f32,Option.getD_some]
 refine⟨rfl,_,w₁.alloc (.cells #[.string ⟨#[]⟩,.int .u64 0,.int .u64 0,.bool false] 95),by rw[hp];exact Mn (by
   refine goes_oper_k rfl rfl (by k_ne) (λK hK=>?_);go_simp;exact hK _ _ ⟨rfl,rfl,listed_nil (by simp[go_sem])⟩),hgr,?_⟩
 have hsz:p.Low<=w₁.heap.size:=by omega
 have hk:EV p (VC W (Gm tb)) C j (w₁.alloc (.cells #[.string ⟨#[]⟩,.int .u64 0,.int .u64 0,.bool false] 95)) :=
  ⟨⟨(Z8.gr hgr o hsz).live hw'.tk.live,(Z8.gr hgr o hsz).sum hw'.tk.sum,(hgr.block C hlt).trans hw'.tk.box⟩,λb h1 h2 h3=>(hgr.block b (by omega)).trans (hw'.low b h1 h2 h3)⟩
 have hr:=Jl.mk hk hnew;have hCb:C≠w₁.heap.size:=by omega
 clear hk hnew hgr hw';generalize w₁.alloc (.cells #[.string ⟨#[]⟩,.int .u64 0,.int .u64 0,.bool false] 95)=w₂ at hr ⊢
 generalize w₁.heap.size=b at hr hsz hCb ⊢
 by_cases hy:(bits .andNot .u64 (ne j:Int) ((fb:Int)+(ha j:Int))==0)=true
 ·have hb1:p.bit j=2 ^ j:=by rw[hbit,if_pos hy]
  have hty':=λw' (hw':EV p (VC W (Gm tb)) C j w')=>ZJ (p:=p) (M:=λx=>R6 C x∨x=b) (C:=C) (i:=j) (hB:=W.heap.size) hp hty htS o (.inl rfl) hCL (by omega) hb1 (Gm tb) w' hw'.tk;unfold Wk at hty';simp only[hp] at hty';obtain⟨mm,hst⟩:=Wx (p:=p) (W:=VC W (Gm tb)) (M:=λx=>R6 C x∨x=b) (C:=C) (i:=j) (b:=b) (g:=g) (n:=n) (cap:=cap) (s0:=s0) (nb:=ne j) o (.inl rfl) (.inr rfl) hsz hCb (L c1 x2) (Et c1) (l1 j) l2 (m:=40) (λw' hw'=>by rw[hy];exact hty' w' hw');refine⟨mm,λ_=>?_,λh=>absurd h (by rw[hb1];exact Nat.ne_of_gt (Nat.two_pow_pos j))⟩;unfold Wk;rw[hp];exact hst _ hr
 ·have hb0:p.bit j=0:=by rw[hbit,if_neg hy]
  rw[Bool.not_eq_true] at hy;have hty':=λw' (hw':EV p (VC W (Gm tb)) C j w')=>AaV (p:=p) (M:=λx=>R6 C x∨x=b) (C:=C) (i:=j) (hB:=W.heap.size) hp hty (.inl rfl) (Gm tb) w' hw'.tk;unfold Wk at hty';simp only[hp] at hty';obtain⟨mm,hst⟩:=Wx (p:=p) (W:=VC W (Gm tb)) (M:=λx=>R6 C x∨x=b) (C:=C) (i:=j) (b:=b) (g:=g) (n:=n) (cap:=cap) (s0:=s0) (nb:=ne j) o (.inl rfl) (.inr rfl) hsz hCb (L c1 x2) (Et c1) (l1 j) l2 (m:=28) (λw' hw'=>by rw[hy];exact hty' w' hw');refine⟨mm,λh=>absurd hb0 h,λ_=>?_⟩;unfold Wk;rw[hp];exact hst _ hr
end
def frW(b:Bk):Nat:=F0 b.tg (P6 (V6 b.bs b.bs.length))
def AC(b:Bk)(j:Nat):Bool:=bits .andNot .u64 (VV b j:Int) ((frW b:Int)+(VU b j:Int))==0
noncomputable def Ae(b:Bk):List ByteArray:=if I1 b=true then pk (AC b) (I9 b.bs) b.bs.length else []
noncomputable def bM:Frame:=base 12
noncomputable def Oi:Array Oper:=match Qm with | .seq (.region _ o _) _=>o|_=>#[]
section
variable {X:Nat->Prop} {Shun:Loc->Prop} {c:Frame} {cs:List Frame}
theorem AbG(bv:Value):Frame.enter Tryz.prog 12 #[bv] .normal=bM.at ⟨Su bv,[]⟩ [.code Bx]:=by
 simp[Frame.enter,Frame.at,Tryz.func12,bM,base,Su,Bx,Tryz.f12]
theorem AcS{T:Array Value}(hT:T.size=13)(ht:T[6]?=some (.bool true))(w:World):
  Go.Conc.Goes Tryz.prog true AtRel (DE λ_=>False) (λg w'=>g=G (c.finish (.slice none 0 0)) cs/\AtRel w w') 20 (G (bM.at ⟨T,[]⟩ [.code LC,.code Ws]) (c::cs)) w:=by
 obtain⟨v0,v1,v2,v3,v4,v5,v6,v7,v8,v9,v10,v11,v12,rfl⟩:=MC T hT;simp only[List.getElem?_toArray,List.getElem?_cons_succ,List.getElem?_cons_zero,Option.some.injEq] at ht;subst ht;simp only[LC,Ws,Bx,Tryz.f12,Option.getD_some];have rl:∀{V w w₁:World},AtRel V w->AtRel w w₁->AtRel V w₁:=λh r=>atRel_trans _ _ _ h r;have hF:AtRel w w:=atRel_refl w;u_cond true rl hF
 u_c stepG_seq rl hF
 u_reg rl hF
 u_op rl hF
 u_c stepG_region_end rl hF
 u_c stepG_ret' rl hF
 u_in rl hF
 rw[stepG_leave (b:=bM) rfl rfl Tryz.func12 (results_tmp rfl _ _ _) (events_results_tmp rfl _ _)];simp only[goes_go];refine⟨by u_nil,?_⟩;exact Go.Conc.Goes.stop λw₁ r=>⟨rfl,rl hF r⟩
theorem AcT{W:World}{tb:Nat}{T:Array Value}(hT:T.size=13)(t3:T[3]?=some (.pointer (some ⟨tb,0,none⟩))):
  Go.Conc.Goes Tryz.prog true AtRel (DE λ_=>False) (λg w=>(∃T',T'.size=13/\g=G (Frame.enter Tryz.prog 31 #[.pointer (some ⟨tb,0,none⟩),Gm tb] .normal) (bM.at ⟨T',[]⟩ (.inRegion Oi [3,4]::[.code .ret])::c::cs))/\AtRel W w) 20 (G (bM.at ⟨T,[]⟩ [.code Qm]) (c::cs)) W:=by
 obtain⟨v0,v1,v2,v3,v4,v5,v6,v7,v8,v9,v10,v11,v12,rfl⟩:=MC T hT;simp only[List.getElem?_toArray,List.getElem?_cons_succ,List.getElem?_cons_zero,Option.some.injEq] at t3;subst t3;simp only[Qm,Oi,Bx,Tryz.f12,Option.getD_some];have rl:∀{V w w₁:World},AtRel V w->AtRel w w₁->AtRel V w₁:=λh r=>atRel_trans _ _ _ h r;have hF:AtRel W W:=atRel_refl W;u_c stepG_seq rl hF
 u_reg rl hF
 u_op rl hF
 u_op rl hF
 u_op rl hF
 u_in rl hF
 refine goes_call rfl rfl (by k_ne) rfl Tryz.func31 (by kernel_rfl) rfl ⟨λe he=>by simp at he,?_⟩;walk_nrmf Tryz.f31
 refine Go.Conc.Goes.stop λw₁ r=>⟨⟨#[v0,v1,v2,.pointer (some ⟨tb,0,none⟩),v4,v5,v6,v7,v8,.pointer (some ⟨tb,0,none⟩),.pointer (some ⟨tb,0,none⟩),Gm tb,v12],rfl,?_⟩,rl hF r⟩;rw[Abh];simp only[Gm,EA,Tryz.f31,Option.getD_some];rfl
theorem AdW{T:Array Value}(hT:T.size=13)(v:Value)(w:World):
  Go.Conc.Goes Tryz.prog true AtRel (DE λ_=>False) (λg w'=>g=G (c.finish v) cs/\AtRel w w') 10 (G ((bM.at ⟨T,[]⟩ (.inRegion Oi [3,4]::[.code .ret])).finish v) (c::cs)) w:=by
 obtain⟨v0,v1,v2,v3,v4,v5,v6,v7,v8,v9,v10,v11,v12,rfl⟩:=MC T hT;rw[Frame.finish_at];simp only[Oi,Qm,Bx,Tryz.f12,Option.getD_some];have rl:∀{V w w₁:World},AtRel V w->AtRel w w₁->AtRel V w₁:=λh r=>atRel_trans _ _ _ h r;have hF:AtRel w w:=atRel_refl w;walk_nrm
 u_op rl hF
 u_c stepG_region_end rl hF
 u_c stepG_ret' rl hF
 u_in rl hF
 rw[stepG_leave (b:=bM) rfl rfl Tryz.func12 (results_tmp rfl _ _ _) (events_results_tmp rfl _ _)];simp only[goes_go];refine⟨by u_nil,?_⟩;exact Go.Conc.Goes.stop λw₁ r=>⟨rfl,rl hF r⟩
end
theorem Yg{b:Bk}(h:I1 b=false):Ae b=[]:=by simp[Ae,h]
theorem AbH(b:Bk)(a:Act):P4 (AtM b (λ_=>True) a):=λ_ _ _ h=>h
theorem AbI:Bx=AM [Jm] (.seq (.seq Sq LC) Ws):=by simp only[AM,Jm,Sq,LC,Ws,Bx,Tryz.f12,Option.getD_some]
theorem AbJ:Bx=AM [Jm,Sr,Ss] Qm:=by simp only[AM,Jm,Sr,Ss,Qm,Bx,Tryz.f12,Option.getD_some]
theorem okM:∀r∈[Jm,Sq,Sr,Ss],N7 Tryz.prog (λg=>EN.contains g) r=true:=by
 intro r hr;simp only[List.mem_cons,List.not_mem_nil,or_false] at hr;rcases hr with rfl|rfl|rfl|rfl<;>kernel_rfl
theorem frM:CC Tryz.prog bM:=⟨rfl,_,Tryz.func12⟩
theorem Aas{X:Nat->Prop}{Shun:Loc->Prop}{W:World}{b:Bk}{bv:Value}(hX:AH Shun X)(hbW:N9 X W)(hB:∀τ d,K0 (E0 X W τ d) bv b):
  CD Tryz.prog 12 #[bv] X Shun W λv u=>E5 u W.heap.size v (Ae b):=by
 intro Post c cs gs sl t hh k;rw[AbG] at hh;have hR0:∀τ d,Hid (∀u,Below (E0 X W τ d).heap.size (E0 X W τ d) u->∃τ d,True/\Below W.heap.size (E0 X W τ d) u):=λτ d u hu=>⟨τ,d,trivial,by rw[K5] at hu;exact hu⟩
 have fin:Ae b=[]->∀gs w sl t,K1 Tryz.prog Shun gs (G (c.finish (.slice none 0 0)) cs) t->N9 X w->(∀τ d,Aq (λu=>∃τ d,True/\Below W.heap.size (E0 X W τ d) u) (E0 X w τ d))->G4 Tryz.prog Post (crowd gs w sl) t:=λhL gs w sl t h1 h2 h3 =>
  k X Shun gs w sl t _ hX (λb hb=>.inl hb) h1 h2 λτ d=>⟨by rw[hL];exact Aaa _ _,(U6 (Q:=λ_=>True) (λ_ _ _ h=>h) (h3 τ d)).2⟩
 cases hbk:I1 b with
 | false =>
  rw[AbI] at hh;refine Y8 hX hh (Ms R9 frM Sq LC Ws (okM _ (by simp)) [] (c::cs) [Jm] (λr hr=>okM r (by simp at hr;simp[hr])) rfl hbW (λτ d=>AG hbW (λτ d=>Yc b bv _ (hB τ d) hbk (hR0 τ d)) τ d)) λgs1 a1 w1 sl1 t1 hh1 hst=>?_;obtain⟨a,rfl,hd,hb1,hQ⟩:=hst;obtain⟨u0,⟨⟨T,rfl,hT,ht⟩,-⟩,-⟩:=hQ (λ_ _=>0) 0;refine X4 (D:=DE λ_=>False) (B0:=0) (λ_ _ _ h e he=>(h e he).elim) hh1 (AcS hT ht w1) λgs2 a2 w2 sl2 t2 hh2 hst2=>?_;obtain⟨rfl,d2,rfl⟩:=hst2;exact fin (Yg hbk) _ _ _ _ hh2 (hb1.at d2) λτ d=>(hQ τ d).imp λu h=>h.2
 | true =>
  have hok:J0 b:=O7.1 hbk;rw[AbJ] at hh;refine Y8 hX hh (Es R9 frM Qm [] (c::cs) [Jm,Sr,Ss] (λr hr=>okM r (by simp at hr;rcases hr with rfl|rfl|rfl<;>simp)) rfl hbW (λτ d=>AG hbW (λτ d=>Yb b bv _ (hB τ d) hok hbk (hR0 τ d)) τ d)) λgs1 a1 w1 sl1 t1 hh1 hst=>?_;obtain⟨a,rfl,hd,hb1,hQ⟩:=hst;have hbel:∀τ d,Below W.heap.size (E0 X W τ d) (E0 X w1 τ d):=λτ d=>(U6 (Q:=λ_=>True) (λ_ _ _ h=>h) ((hQ τ d).imp λu h=>let ⟨_,_,_,_,_,_,h⟩:=h;h)).2;obtain⟨T,tb,rfl,hT,t3,hTab0,-⟩:=Aq.out (AbH b a) ((hQ (λ_ _=>0) 0).imp λu h=>let ⟨T,tb,h1,h2,h3,h4,_⟩:=h;⟨T,tb,h1,h2,h3,h4,trivial⟩);have hTab:∀τ d,AK (E0 X w1 τ d) tb b.tg (V6 b.bs b.bs.length):=λτ d=>Abi tb _ _ _ τ d hTab0;refine X4 (D:=DE λ_=>False) (B0:=0) (λ_ _ _ h e he=>(h e he).elim) hh1 (AcT hT t3) λgs2 a2 w2 sl2 t2 hh2 hst2=>?_;obtain⟨⟨T',hT',rfl⟩,d2,rfl⟩:=hst2;have hlen:(V6 b.bs b.bs.length).length=b.bs.length:=Hd (A3 _);have h5:b.bs.length<=5:=hok.2.1
  have hW:JI Shun (w1.at d2) b.bs.length (AC b) (Gm tb):=by
   by_cases hn:b.bs.length=0
   ·intro p _ _ _ _ _ _ _ _ _ j hj;omega
   obtain⟨rv,hC,hown⟩:=hTab0;rw[hlen] at hown;obtain⟨g,cap,rfl⟩:=T7 hown (by omega);have r:=λ(i:Nat) (hi:i<b.bs.length)=>DM (tg:=b.tg) (ts:=V6 b.bs b.bs.length) (by rw[hlen];exact hown) (Sa hi);have cc:∀{a:Addr} {v:Value},(E0 X w1 (λ_ _=>0) 0).cell? a=some v->(w1.at d2).cell? a=some v/\¬X a.block:=λh=>Dm (W:=w1.at d2) h;have h0:∀i,i<b.bs.length->∃s,(w1.at d2).cell? ⟨g,i*4,none⟩=some (.string s):=λi hi=>⟨_,(cc (r i hi).1).1⟩
   have h1:∀i,i<b.bs.length->(w1.at d2).cell? ⟨g,i*4+1,none⟩=some (.int .u64 (VU b i)):=λi hi=>by
    rw[(cc (r i hi).2.1).1,VU,A0 hi];rfl
   have h2:∀i,i<b.bs.length->(w1.at d2).cell? ⟨g,i*4+2,none⟩=some (.int .u64 (VV b i)):=λi hi=>by
    rw[(cc (r i hi).2.2.1).1,VV,A0 hi];rfl
   have h3:∀i,i<b.bs.length->(w1.at d2).cell? ⟨g,i*4+3,none⟩=some (.bool false):=λi hi=>(cc (r i hi).2.2.2).1;have h8:b.tg.length<=8:=hok.1.1;exact Wy hX (hb1.at d2) h5 (cc (hC.1 0 _ rfl)).1 (cc (hC.1 0 _ rfl)).2 (cc (hC.1 1 _ rfl)).1 (cc (r 0 (by omega)).2.1).2 (λi=>S2 h8 _) (S2 h8 _) h0 h1 h2 h3
  refine XS (f:=32) hX (hb1.at d2) (λτ d=>hTab τ d) (by rw[hlen];exact h5) (hb:=AC b) (by rw[hlen];exact hW) Post _ (c::cs) gs2 sl2 t2 hh2 λX' Shun' gs' w' sl' t' v hX' hW' hh' hb' hR'=>?_;refine X4 (D:=DE λ_=>False) (B0:=0) (λ_ _ _ h e he=>(h e he).elim) hh' (AdW hT' v w') λgs3 a3 w3 sl3 t3 hh3 hst3=>?_;obtain⟨rfl,d3,rfl⟩:=hst3;have hsz:W.heap.size<=w1.heap.size:=by have:=(hbel (λ_ _=>0) 0).size;rwa [K5,K5] at this
  refine k X' Shun' gs3 _ sl3 t3 v hX' (λb hb=>(hW' b hb).imp id λh=>B3 hsz h) hh3 (hb'.at d3) λτ d=>?_;obtain⟨h1,h2⟩:=hR' τ d;rw[VW,hlen] at h1;refine⟨?_,(hbel τ d).trans (h2.mono hsz)⟩;have:Ae b=pk (AC b) (I9 b.bs) b.bs.length:=by rw[Ae,if_pos hbk]
  rw[this];exact N3 h1 hsz
end Go.Proofs.YtmfjakieahkacaaGreatDoor
namespace Go.Proofs.YtmfjakieahkacaaGreatDoor
open Go.RowKit
theorem YM{hb:Nat->Bool}{l:List ByteArray}{s:ByteArray}:∀{n:Nat},n<=l.length->s∈pk hb l n->∃k,k<n/\hb k=true/\l[k]?=some s
 | 0,_,h=>by simp[pk] at h
 | n+1,hn,h=>by
  rw[pk,C6] at h;have hg:l.getD n ByteArray.empty=l[n]:=by rw[List.getD_eq_getElem?_getD,A0 (by omega)];rfl
  rcases h with h|h
  ·obtain⟨k,h1,h2,h3⟩:=YM (by omega:n<=l.length) h;exact⟨k,by omega,h2,h3⟩
  ·split at h
   ·next hy =>
    simp only[C7] at h;exact⟨n,by omega,hy,by rw[h,hg,A0 (by omega)]⟩
   ·simp at h
theorem Aat{b:Bk}(hok:J0 b){k:Nat}(hk:k<b.bs.length):AC b k=true↔CQ b.bs k []:=by
 have h8:b.tg.length<=8:=hok.1.1;have hg:=Sa hk
 have ht:=Jr hok (ts:=V6 b.bs b.bs.length) (by rw[Jv,List.take_length]) (gone:=[]) (λi p hp=>by
  rw[V6,List.take_length,A9] at hp;obtain⟨x,-,rfl⟩:=B6.1 hp;rfl) hg rfl
 have hn:VV b k=F0 b.tg (D2 (b.bs[k]).nd):=by rw[VV,A0 hk];rfl
 have hh:VU b k=F0 b.tg (D2 (b.bs[k]).has):=by rw[VU,A0 hk];rfl
 rw[AC,← ht,hn,hh,frW];have n1:=S2 h8 (D2 (b.bs[k]).has);have n2:=S2 h8 (D2 (b.bs[k]).nd);have n3:=S2 h8 (P6 (V6 b.bs b.bs.length));rw[← Int.natCast_add,IV _ _ n2 (by omega),beq_iff_eq];exact Int.natCast_eq_zero
theorem Wz{b:Bk}{nm:ByteArray}{ls:List ByteArray}(hok:J0 b)(hc:Y0 b nm ls=0)(ht:¬T4 b.bs (I3 b nm:Int) ls)(hs:BV b)(hn:¬BV (X8 b (I3 b nm) (N6 ls))):D2 (Ae b) nm=false:=by
 cases hq:D2 (Ae b) nm with
 | false=>rfl
 | true =>
  exfalso
  have hb:I1 b=true:=Z3 hok;rw[R8,Ae,if_pos hb] at hq;obtain⟨k,hk,hm,hkn⟩:=YM (by rw[O1];exact A3 _) hq;obtain⟨x,hx,hxn,hpl⟩:=FR (Da hc);have e:k=I3 b nm:=Ib hok k (I3 b nm) nm hkn (by rw[I9,A9,hx,← hxn];rfl);subst e;exact VZ hok hc ht hs hn ((Aat hok hk).1 hm)
theorem Qo{w:World}{v:Value}{b:Bk}(h:K0 w v b):∀s∈Ae b,s.size<=maxLen:=λs hs=>by
 rw[Ae] at hs;split at hs
 ·exact XT h s (UU (by rw[O1];exact A3 _) s hs)
 ·simp at hs
theorem Yh{b:Bk}{nm:ByteArray}{ls:List ByteArray}(hok:J0 b)(hc:Y0 b nm ls=0):(⟨b.tg,b.bs.map (Cf nm ls)⟩:Bk)=X8 b (I3 b nm) (N6 ls):=by
 obtain⟨x,hx,hxn,hpl⟩:=FR (Da hc);rw[Ck hx]
 have:b.bs.map (Cf nm ls)=b.bs.set (I3 b nm) (N6 ls x):=List.ext_getElem? λi=>by
  rw[A9,List.getElem?_set];split
  ·rename_i e;subst e;rw[hx,Option.map_some];congr 1
   rw[PN (by rw[hxn];simp),N6,Mw hok hc hx,hxn];congr 1
   refine List.filter_congr λs _=>?_;rw[D2,D2,D2,List.any_append]
  ·rename_i hne;cases hy:b.bs[i]? with
   | none=>rfl
   | some y =>
    rw[Option.map_some];congr 1
    refine RT ?_;cases hq:(y.nm.toList==nm.toList) with
    | false=>rfl
    | true =>
     have e:y.nm=nm:=EG (by simpa using hq);exact absurd (Ib hok i (I3 b nm) nm (by rw[I9,A9,hy,← e];rfl) (by rw[I9,A9,hx,← hxn];rfl)) λe'=>hne e'.symm
 rw[this]
theorem Sv{P:Program}{fn:Func}{q q2 q3:Tmp}{T:TypeId}(h:fn.results=#[.cell q T,.tmp q2,.tmp q3]){d:TypeDesc}(hu:P.underlying T=some d)(hd:d.isRow=true){tmps:Array Value}{Z:World}{rk:Nat}{cs:List Value}(hi:(P.info? T).map (·.size)=some cs.length)
  {v u:Value} (ht:tmps.getD q undef=.pointer (some ⟨rk,0,none⟩)) (hv:tmps.getD q2 undef=v) (hu':tmps.getD q3 undef=u) (hZ:CB Z rk cs):(results fn tmps).run P Z=.ok (.tuple #[.agg cs.toArray,v,u]) Z:=by
 have hl:=run_loadVar_mid (P:=P) Z rk 0 T cs d hZ.1 hu hd hi;have ha:(asAddr (.pointer (some ⟨rk,0,none⟩))).run P Z=.ok ⟨rk,0,none⟩ Z:=by simp[go_sem]
 have ht':tmps[q]?.getD undef=.pointer (some ⟨rk,0,none⟩):=by simpa using ht
 have hv':tmps[q2]?.getD undef=v:=by simpa using hv
 have hw':tmps[q3]?.getD undef=u:=by simpa using hu'
 simp only[results,h];simp[Sem.run_bind,Result.andThen,ht',hv',hw',ha,hl]
theorem Yi{P:Program}{fn:Func}{q q2 q3:Tmp}{T:TypeId}(h:fn.results=#[.cell q T,.tmp q2,.tmp q3]){d:TypeDesc}(hu:P.underlying T=some d)(hd:d.isRow=true)(hi:(P.info? T).map (·.size)=some 2){R:Ending->World->Prop}{tmps:Array Value}{w:World}{rk:Nat}{y0 y1 x0 x1 v u:Value}
  (k:CB w rk [y0,y1]) (ht:tmps.getD q undef=.pointer (some ⟨rk,0,none⟩)) (hv:tmps.getD q2 undef=v) (hu':tmps.getD q3 undef=u) (hR:R (.returned (.tuple #[.agg #[x0,x1],v,u])) ((w.setCell ⟨rk,0,none⟩ x0).setCell ⟨rk,1,none⟩ x1)) :
  bodyPost P fn R .ret {tmps:=tmps,defers:=[]} ((w.setCell ⟨rk,0,none⟩ x0).setCell ⟨rk,1,none⟩ x1) :=
 bodyPost_ret (Sv (cs:=[x0,x1]) h hu hd hi ht hv hu' (k.copy2 x0 x1)) rfl hR
theorem WA{P:Program}{fn:Func}{q q2 q3:Tmp}{T:TypeId}(h:fn.results=#[.cell q T,.tmp q2,.tmp q3]){d:TypeDesc}(hu:P.underlying T=some d)(hd:d.isRow=true)(hi:(P.info? T).map (·.size)=some 2){R:Ending->World->Prop}{tmps:Array Value}{w:World}{rk:Nat}{y0 y1 x0 x1 v u:Value}
  (k:CB w rk [y0,y1]) (ht:tmps.getD q undef=.pointer (some ⟨rk,0,none⟩)) (hv:tmps.getD q2 undef=v) (hu':tmps.getD q3 undef=u) (hR:R (.returned (.tuple #[.agg #[x0,x1],v,u])) ((w.setCell ⟨rk,0,none⟩ x0).setCell ⟨rk,1,none⟩ x1).drew) :
  bodyPost P fn R .ret {tmps:=tmps,defers:=[]} ((w.setCell ⟨rk,0,none⟩ x0).setCell ⟨rk,1,none⟩ x1).drew :=
 bodyPost_ret (Sv (cs:=[x0,x1]) h hu hd hi ht hv hu' (k.copy2 x0 x1)) rfl hR
def Sw(w w':World)(e:Ending):Prop:=∃(u:Value)(b:Bk)(nm:ByteArray)(al:Option Addr)(cl:Nat)(list:List ByteArray),e=.returned (.tuple #[u,.string nm,.slice al list.length cl])/\Ec w' w.heap.size u b/\nm.size<=maxLen/\E5 w' w.heap.size (.slice al list.length cl) list/\(∀s∈list,s.size<=maxLen)/\list.length<=101
theorem TY(a:Option Addr)(n cap:Nat)(w:World)(h:Y4 w w.heap.size (.slice a n cap) n)(hcap:n<=cap)(hbig:cap<=maxLen):
  Calls Tryz.prog 15 #[.slice a n cap] w λe w'=>Sw w w' e/\Below w.heap.size w w':=by
 go_enter Tryz.func15,Tryz.ntmps15;go_upto_region 1 with fail;obtain⟨W1,hW1,kR,hB1,hs1⟩:=cbE1 w [.slice none 0 0,.slice none 0 0] 26;rw[hW1];clear hW1;go_wp2_with fail;refine (Tv a n cap _ (h.up hB1 (by omega)) hcap hbig).mono ?_;rintro e w2 ⟨⟨rb,len,v,rfl,hR2,hrb⟩,hb2⟩;have kR:=kR.up hb2 (by omega);have hB2:=D1 hB1 hb2;have hrb':w.heap.size+1<=rb:=by omega
 have hrl:=hR2.lt;clear hB1 hb2 hs1 hrb;go_wp2_with fail;refine (Wt rb len 0 v _ hR2 (by omega)).mono ?_;rintro e w3 ⟨⟨u,b,rfl,hD⟩,hR3,hg3⟩;have kR:=kR.kept hg3 (by simp;omega);have hB3:=Kh hB2 hg3 (by omega);have hz3:=hg3.size;obtain⟨a1,c1,a2,c2,rfl⟩:=hD.parts;clear hB2 hg3 hR2;go_upto_region 3 with fail;obtain⟨W4,hW4,kX,hb4,hs4⟩:=cbE1 w3 [.slice a1 b.tg.length c1,.slice a2 b.bs.length c2] 26;rw[hW4];have kR:=kR.up hb4 kR.2.2;have hB4:=D1 hB3 hb4;have hD4:=hD.up hb4;have hR4:=hR3.kept hb4;clear hW4 hB3 hb4 hD hR3;have hqz:w.heap.size+1<=w3.heap.size:=by omega
 have hqr:w3.heap.size≠rb:=by omega
 generalize w3.heap.size=q at *;obtain⟨z0,z1⟩:=kX.c2';go_wp2_with fail;refine (Lq rb len _ w2.heap.size v _ b _ hR4 (by omega) hD4 hrl).mono ?_;rintro e w5 ⟨⟨kd,nm,al,cl,list,rfl,hol,hnz,hlz,hll⟩,-,hg5⟩;have kX:=kX.kept hg5 (by simp;omega);have kR:=kR.kept hg5 (by simp;omega);have hB5:=Kh hB4 hg5 (by omega);have hD5:=hD4.gr hg5 hrl;have hL5:=hol.lst.ls hlz;have hz5:=hg5.size;clear z0 z1 hR4 hD4 hB4 hg5 hL5;go_upto_region 4 with fail;obtain⟨W6,hW6,kD,hb6,hs6⟩:=cbE1 w5 [.int .i64 kd,.string nm,.slice al list.length cl] 69;try rw[hW6]
 have kX:=kX.up hb6 kX.2.2;have kR:=kR.up hb6 kR.2.2;have hB6:=D1 hB5 hb6;have hD6:=hD5.up hb6;have hol:=hol.up hb6;clear hW6 hb6 hB5 hD5 hs6;obtain⟨z0,z1⟩:=kX.c2';obtain⟨⟨d0,d1,d2⟩,-⟩:=kD.c3;obtain⟨⟨y0,y1⟩,g0,g1⟩:=kR.c2;have hrl6:=kR.2.2;have hn5:w.heap.size+1<=w5.heap.size:=by omega
 have hn6:¬w5.heap.size=w.heap.size:=by omega
 have hn7:¬w.heap.size=w5.heap.size:=by omega
 have hD7:=((hD6.1.set (j:=0) (u:=.slice a1 b.tg.length c1) (show w.heap.size<w2.heap.size by omega)).set (j:=1) (u:=.slice a2 b.bs.length c2) (show w.heap.size<w2.heap.size by omega)).low (show w.heap.size<=w2.heap.size by omega);have hB7:=I7 hB6 (A3 _) (.slice a1 b.tg.length c1) (.slice a2 b.bs.length c2);have hol7:E5 ((W6.setCell ⟨w.heap.size,0,none⟩ (.slice a1 b.tg.length c1)).setCell ⟨w.heap.size,1,none⟩ (.slice a2 b.bs.length c2)) W4.heap.size (.slice al list.length cl) list:=G9 hol (E3 (rb:=w.heap.size) (E3 (rb:=w.heap.size) (F7 W6 _) _) _) (by omega);have hol8:=N3 hol7 (show w.heap.size<=W4.heap.size by omega);go_region
 all_goals
  go_wp2_with fail;refine WA Tryz.results15 Tryz.underlying26 rfl L9 kR rfl rfl rfl ?_;exact⟨⟨_,b,nm,al,cl,list,rfl,⟨hD7.up (A4 _ _).drew,hD6.2⟩,hnz,hol8,hlz,by omega⟩,hB7.drew⟩
theorem Rl(a:Option Addr)(n cap:Nat)(w:World)(h:Y4 w w.heap.size (.slice a n cap) n)(hcap:n<=cap)(hbig:cap<=maxLen):
  Calls Tryz.prog 4 #[.slice a n cap] w λe w'=>Sw w w' e/\Below w.heap.size w w':=by
 go_enter Tryz.func4,Tryz.ntmps4;go_upto_region 1 with fail;obtain⟨W1,hW1,kR,hB1,hs1⟩:=cbE1 w [.slice none 0 0,.slice none 0 0] 26;rw[hW1];clear hW1;go_wp2_with fail;refine (TY a n cap _ (h.up hB1 (by omega)) hcap hbig).mono ?_;rintro e w2 ⟨⟨u,b,nm,al,cl,list,rfl,hD,hnz,hol,hlz,hll⟩,hb2⟩;have hz2:=hb2.size;have kR:=kR.up hb2 (by omega);have hB2:=D1 hB1 hb2;obtain⟨a1,c1,a2,c2,rfl⟩:=hD.parts;obtain⟨⟨y0,y1⟩,g0,g1⟩:=kR.c2;clear hB1 hb2;go_wp2_with fail;refine Yi Tryz.results4 Tryz.underlying26 rfl L9 kR rfl rfl rfl ?_;refine⟨⟨_,b,nm,al,cl,list,rfl,⟨((hD.1.set (by omega)).set (by omega)).low (by omega),hD.2⟩,hnz,?_,hlz,hll⟩,I7 hB2 (A3 _) _ _⟩;exact N3 (G9 hol (E3 (rb:=w.heap.size) (E3 (rb:=w.heap.size) (F7 w2 _) _) _) (by omega)) (by omega)
theorem Yj(b:Bk)(v:Value)(ss:List ByteArray)(ov:Value)(w:World)(h:K0 w v b)(ho:Ls w ov ss):
  Calls Tryz.prog 33 #[v,ov] w λe w'=>e=.returned (.bool (pB (CL b ss)))/\Below w.heap.size w w':=by
 obtain⟨a1,c1,a2,c2,rfl,h1,h2⟩:=h.parts;obtain⟨a,c,rfl,-⟩:=id ho;have g2:=h2.at.1;have g3:=ho.inv.1;unfold maxLen at g2 g3;obtain⟨W1,hW1,kA,hB1,hs1⟩:=cbE1 w [.slice a1 (b).tg.length c1,.slice a2 (b).bs.length c2] 26;clear hs1;go_enter Tryz.func33,Tryz.ntmps33;go_upto_region 1 with fail;try rw[hW1]
 clear hW1;have hk:=h.up hB1;have l2:=h2.up hB1;have lo:=ho.up hB1;obtain⟨e0,e1⟩:=kA.c2';have hlt:=kA.2.2;clear h h1 h2 ho;go_wp2_with fail;refine (BK b _ _ hk).mono ?_;rintro e w2 ⟨rfl,hB2⟩;cases hq:I1 b
 ·have Hq:Hid (¬CL b ss):=λh=>by rw[I1,Z3 h.1] at hq;cases hq
  go_wp2_with fail;go_ret;exact⟨F6 (V4 Hq.out).symm,D1 hB1 hB2⟩
 have hok:J0 b:=O7.1 hq;have Hok:Hid (J0 b):=hok;have h8:=hok.1.1;have h5:=hok.2.1;clear hq hok;have f0:=(hB2.cell (p:=⟨w.heap.size,0,none⟩) hlt).trans e0;have f1:=(hB2.cell (p:=⟨w.heap.size,1,none⟩) hlt).trans e1;by_cases hl:ss.length=b.bs.length
 case neg =>
  have Hq:Hid (¬CL b ss):=λh=>hl h.2.1;have hlb:((ss.length:Int) != (b.bs.length:Int))=true:=by rw[bne_iff_ne];omega
  go_wp2_with fail;go_ret;exact⟨F6 (V4 Hq.out).symm,D1 hB1 hB2⟩
 have Hl:Hid (ss.length=b.bs.length):=hl;have hlb:((ss.length:Int) != (b.bs.length:Int))=false:=by rw[bne_eq_false_iff_eq];omega
 clear hl;go_wp2_with fail;refine (Ej b.bs _ _ (l2.up hB2) (by omega)).mono ?_;rintro e w3 ⟨⟨u,rfl,-,hu⟩,hb3⟩;have hB3:=D1 hB2 hb3;clear hb3 f0 f1 hlb hB2;have f0:=(hB3.cell (p:=⟨w.heap.size,0,none⟩) hlt).trans e0;have f1:=(hB3.cell (p:=⟨w.heap.size,1,none⟩) hlt).trans e1;obtain⟨au,cu,rfl,-⟩:=id hu;go_wp2_with fail;refine (Gv b _ _ (hk.up hB3) Hok.out).mono ?_;rintro e w4 ⟨⟨tb,rfl,hT,htb⟩,hb4⟩;clear f0 f1;have hBA:=D1 hB1 hB3;have lo3:=lo.up hB3;go_wp2_with fail;go_loopw [8,9,28] (λ_ _ i w'=>∃(k:Nat)(ts:List Tr),k<=ss.length/\i=.int .i64 k/\BI b.bs ss k/\AK w' tb b.tg ts/\ts.map (·.1)=b.bs/\Cl ts (ss.take k)/\Below w3.heap.size w3 w') (λ_ _ i _=>ss.length-(intOf i).toNat)
 case atStart=>exact⟨0,_,by omega,rfl,BI.zero _ _,hT,by rw[Jv,List.take_length],Ni _ _,hb4⟩
 case round =>
  clear hT hb4;obtain⟨k,ts,hkl,rfl,hal,hT,hfst,hG,hB⟩:=hrel;have Hal:Hid (BI b.bs ss k):=hal;have Hfst:Hid (ts.map (·.1)=b.bs):=hfst;have HG:Hid (Cl ts (ss.take k)):=hG
  have hl5:ts.length<=5:=by
   have:=congrArg List.length hfst;simp at this;omega
  clear hal hfst hG;by_cases hp:k<ss.length
  ·obtain⟨-,-,hpos⟩:=lo3.inv;obtain⟨g,o,rfl,hS,hg⟩:=hpos (by omega);have s0:=(hB.cell (p:=⟨g,o+k,none⟩) hg).trans (hS.cell hp);have HY:Hid (0<=Z7 (I9 b.bs) ss[k]/\D2 (ss.take k) ss[k]=false/\CQ b.bs (Z7 (I9 b.bs) ss[k]).toNat (ss.take k)->BI b.bs ss (k+1)):=λh=>Hal.out.step hp h;have HN:Hid (¬(0<=Z7 (I9 b.bs) ss[k]/\D2 (ss.take k) ss[k]=false/\CQ b.bs (Z7 (I9 b.bs) ss[k]).toNat (ss.take k))->¬CL b ss):=λh hf=>h (Za hf hp);have HS:Hid (ss.take (k+1)=ss.take k++[ss[k]]):=A7 hp;generalize ss[k]=s at *;clear hS;go_wp2_with fail;refine (KT (I9 b.bs) _ s _ (hu.up hB)).mono ?_;rintro e w' ⟨rfl,hw⟩;obtain rfl:=hw.symm;clear hw s0;by_cases hneg:Z7 (I9 b.bs) s<0
   ·have Hs:Hid (¬CL b ss):=HN.out λh=>by omega
    go_wp2_with fail;go_ret;exact⟨F6 (V4 Hs.out).symm,D1 hBA hB⟩
   obtain⟨n,hn,hnl',hnm⟩:=Fm (l:=I9 b.bs) (s:=s) (by omega);have hnl:n<b.bs.length:=by rwa [O1] at hnl'
   rw[BF b.bs n hnl] at hnm;rw[hn] at HY HN ⊢
   obtain⟨p,hpt,hpb⟩:=UZ Hfst.out hnl;rw[← hpb] at hnm;have HC:Hid (p.2=false->((F0 b.tg (D2 p.1.nd) &&& (18446744073709551615-(F0 b.tg (P6 ts)+F0 b.tg (D2 p.1.has)))=0)↔CQ b.bs n (ss.take k))):=λhg=>Jr Hok.out Hfst.out HG.out hpt hg;have hgn:p.2=D2 (ss.take k) s:=by rw[HG.out n p hpt,hnm]
   have hnb:decide ((n:Int)<0)=false:=by simp
   clear hn hneg hnl' hpb;go_wp2_with fail;refine (Rz tb n b.tg ts p _ hT h8 hpt hl5).mono ?_;rintro e w5 ⟨rfl,hb5⟩;have hB5:=D1 hB hb5;have hT5:=hT.up hb5;clear hB hT hb5;cases hm:D2 (ss.take k) s
   case true =>
    have Hs:Hid (¬CL b ss):=HN.out λh=>by rw[h.2.1] at hm;cases hm
    rw[hgn,hm];go_wp2_with fail;go_ret;exact⟨F6 (V4 Hs.out).symm,D1 hBA hB5⟩
   have hg0:p.2=false:=by rw[hgn,hm]
   by_cases hcn:CQ b.bs n (ss.take k)
   case neg =>
    have Hs:Hid (¬CL b ss):=HN.out λh=>hcn (by simpa using h.2.2);have hd:decide (F0 b.tg (D2 p.1.nd) &&& (18446744073709551615-(F0 b.tg (P6 ts)+F0 b.tg (D2 p.1.has)))=0)=false:=decide_eq_false λh=>hcn ((HC.out hg0).1 h);rw[hg0,hd];go_wp2_with fail;go_ret;exact⟨F6 (V4 Hs.out).symm,D1 hBA hB5⟩
   have Hs:Hid (BI b.bs ss (k+1)):=HY.out ⟨by omega,hm,by simpa using hcn⟩;have hd:decide (F0 b.tg (D2 p.1.nd) &&& (18446744073709551615-(F0 b.tg (P6 ts)+F0 b.tg (D2 p.1.has)))=0)=true:=decide_eq_true ((HC.out hg0).2 hcn);rw[hg0,hd]
   have Hgs:Hid (Cl (ts.set n (p.1,true)) (ss.take (k+1))):=by
    show Cl _ _
    rw[HS.out,← hnm];exact Nh Hok.out.2.2.2.1 Hfst.out HG.out hpt
   have Hfs:Hid ((ts.set n (p.1,true)).map (·.1)=b.bs):=RE Hfst.out hpt;clear HY HN HC hd hcn;go_wp2_with fail;refine (Nk tb n b.tg ts p b.bs _ hT5 h8 hpt hg0 Hfst.out Hok.out.2.2.2.2.2 hl5).mono ?_;rintro e w6 ⟨⟨v6,rfl⟩,hT6,hb6,-⟩;have hB6:=hB5.trans (hb6.mono htb);clear hT5 hB5 hb6;go_wp2_with fail;go_roundw
   case rel=>exact⟨k+1,_,by omega,by go_num,Hs.out,hT6,Hfs.out,Hgs.out,hB6⟩
   case measure=>simp[intOf];omega
  ·have Hs:Hid (CL b ss):=WI Hok.out Hl.out Hal.out hp;go_wp2_with fail;go_ret;exact⟨F6 (Z3 Hs.out).symm,D1 hBA hB⟩
end Go.Proofs.YtmfjakieahkacaaGreatDoor
