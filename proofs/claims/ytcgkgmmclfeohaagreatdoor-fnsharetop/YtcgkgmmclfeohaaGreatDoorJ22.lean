/- Workers who read, add to one sum and leave, 2: what holds of the machine at every moment. -/
import Derived.Test.YtcgkgmmclfeohaaGreatDoorJ20
import Derived.Conc.WgGenN3
set_option maxRecDepth 100000
set_option maxHeartbeats 8000000
namespace Go.Proofs.YtcgkgmmclfeohaaGreatDoor
open Go.Conc Go.ConcN
open Go.ConcR (KK wgBlock WgAt stA smA rd wr mk Payload DC0 g_of_ofEvents ofEvent_mk again_blocked)
structure WX where
 d:WD
 e:Nat
 c:Nat
 v:Value
 m:Nat->Prop
def ds(X:Nat->WX):Nat->WD:=λi=>(X i).d
theorem Se(X:Nat->WX)(i:Nat)(x:WX):ds (upd X i x)=upd (ds X) i x.d:=by
 funext a
 by_cases e:a=i
 ·subst e;simp[ds,upd_same]
 ·simp[ds,upd_ne _ _ e]
def total(p:L6)(j:Nat)(X:Nat->WX):Nat:=sumTo j λi=>if (X i).e=0 then p.bit i else 0
structure EO (p:L6) (j:Nat) (gs:Array Goroutine) (w:World) (t:Trace) (X:Nat->WX) (ow q:Nat->Nat) (d0:Nat) (M0:Nat->Prop):Prop where
 size:gs.size=p.m0+j
 old:∀i,1<=i->i<p.m0->∃g,gs[i]?=some g/\QuitsD p.P (q i) (Deaf t i) g
 wk:∀i,i<j->∃g,gs[p.m0+i]?=some g/\WS p i (X i).c (X i).v (X i).m (X i).e (X i).d.stage (X i).d.fuel (X i).d.deaf g w
 mc:∀i,i<j->(X i).m (X i).c
 mo:∀i,i<j->∀b,(X i).m b->ow b=p.m0+i/\p.Low<=b/\b<w.heap.size
 m0:∀b,M0 b->ow b=0/\p.Low<=b/\b<w.heap.size
 low:p.Low<=w.heap.size
 ti:TI p t ow w.heap.size (p.m0+j)
 norel:Lj p t
 deaf0:Deaf t 0=d0
 deafW:∀i,i<j->Deaf t (p.m0+i)=(X i).d.deaf
 above:∀k,p.m0+j<=k->Deaf t k=0
 rel:∀i,i<j->(X i).d.stage<=6->∃r,RelBy (stA p.Wg) t (p.m0+i) r/\p.t0.size<=r
 sum:AE p w (total p j X)
def Fl(p:L6)(Anch Fin:Goroutine->World->Prop)(μ:Nat×Nat)(m:Machine)(t:Trace):Prop :=
 ∃(gs:Array Goroutine)(w:World)(sl:Option (Nat×Nat)) (j:Nat) (X:Nat->WX) (ow q:Nat->Nat) (tag:CTag) (e0 f0 d0:Nat) (M0:Nat->Prop) (a:Goroutine) (st sm:Int),
  m=crowd gs w sl/\gs[0]?=some a/\CS p Anch Fin tag e0 j f0 d0 M0 a w/\EO p j gs w t X ow q d0 M0/\WgAt p.ty p.Wg w st sm/\ConcN.Mode j (ds X) tag st sm/\
  μ=(phi p.n (Vc j (ds X)) tag+e0+Ssum j (ds X)+sumTo j (λi=>(X i).e),f0+2*Fsum j (ds X)+2*sumTo p.m0 q)
section
variable {p:L6} {Anch Fin:Goroutine->World->Prop} {tag:CTag} {e0 j f d:Nat} {M0:Nat->Prop} {a:Goroutine} {w w':World}
theorem CS.rely(h:CS p Anch Fin tag e0 j f d M0 a w)(hr:R0 p M0 w w'):CS p Anch Fin tag e0 j f d M0 a w':=by
 cases h with
 | al hn h=>exact .al hn (Goes.rely R0.tr h hr)
 | ow hn h=>exact .ow hn (Goes.rely R0.tr h hr)
 | kd5 hn h=>exact .kd5 hn (Goes.rely R0.tr h hr)
 | a1 hn h=>exact .a1 hn (Goes.rely R0.tr h hr)
 | sr hn h=>exact .sr hn (Goes.rely R0.tr h hr)
 | ke2 hn h=>exact .ke2 hn (Goes.rely R0.tr h hr)
 | go hn h=>exact .go hn (Goes.rely R0.tr h hr)
 | kd h=>exact .kd (Goes.rely R0.tr h hr)
 | anch h=>exact .anch (Goes.rely R0.tr h hr)
 | w1 h=>exact .w1 (Goes.rely R0.tr h hr)
 | w2 h=>exact .w2 (Goes.rely R0.tr h hr)
 | sw h=>exact .sw (Goes.rely R0.tr h hr)
 | w3 h=>exact .w3 (Goes.rely R0.tr h hr)
 | blk h=>exact .blk (λw₂ h₂=>h w₂ (hr.trans h₂))
 | w4 h=>exact .w4 (Goes.rely R0.tr h hr)
 | ke h=>exact .ke (Goes.rely R0.tr h hr)
 | acq h=>exact .acq (Goes.rely R0.tr h hr)
theorem CS.status(hAr:∀g w,Anch g w->g.status=.running)(h:CS p Anch Fin tag e0 j f d M0 a w):(a.status=.running/\tag≠.blk)∨(a.status=.blocked/\tag=.blk):=by
 cases h with
 | al _ h=>exact .inl ⟨Goes.running (λ_ _ x=>x.1) w (.refl w) h,by simp⟩
 | ow _ h=>exact .inl ⟨Goes.running (λ_ _ x=>x.1) w (.refl w) h,by simp⟩
 | kd5 _ h=>exact .inl ⟨Goes.running (λ_ _ x=>x.1) w (.refl w) h,by simp⟩
 | a1 _ h=>exact .inl ⟨Goes.running (λ_ _ x=>x.1) w (.refl w) h,by simp⟩
 | sr _ h=>exact .inl ⟨Goes.running (λ_ _ x=>x.1) w (.refl w) h,by simp⟩
 | ke2 _ h=>exact .inl ⟨Goes.running (λ_ _ x=>x.1) w (.refl w) h,by simp⟩
 | go _ h=>exact .inl ⟨Goes.running (λ_ _ x=>x.1) w (.refl w) h,by simp⟩
 | kd h=>exact .inl ⟨Goes.running (λ_ _ x=>x.1) w (.refl w) h,by simp⟩
 | anch h=>exact .inl ⟨Goes.running hAr w (.refl w) h,by simp⟩
 | w1 h=>exact .inl ⟨Goes.running (λ_ _ x=>x.1) w (.refl w) h,by simp⟩
 | w2 h=>exact .inl ⟨Goes.running (λ_ _ x=>x.1) w (.refl w) h,by simp⟩
 | sw h=>exact .inl ⟨Goes.running (λ_ _ x=>x.1) w (.refl w) h,by simp⟩
 | w3 h=>exact .inl ⟨Goes.running (λ_ _ x=>x.1) w (.refl w) h,by simp⟩
 | blk h=>exact .inr ⟨rfl,rfl⟩
 | w4 h=>exact .inl ⟨Goes.running (λ_ _ x=>x.1) w (.refl w) h,by simp⟩
 | ke h=>exact .inl ⟨Goes.running (λ_ _ x=>x.1) w (.refl w) h,by simp⟩
 | acq h=>exact .inl ⟨Goes.running (λ_ _ x=>x.1) w (.refl w) h,by simp⟩
theorem CS.wokenBy(hAr:∀g w,Anch g w->g.status=.running)(h:CS p Anch Fin tag e0 j f d M0 a w)(hr:R0 p M0 w w')(g g':Goroutine):
  ∃tag' f',CS p Anch Fin tag' e0 j f' d M0 (woken p.P g g' w' a) w'/\f'<=f+1/\(tag'=tag∨(tag=.blk/\tag'=.w3))/\(mayWake p.P g=true->g'.status=.running->tag'≠.blk):=by
 have h':=h.rely hr;unfold Go.Conc.woken;split
 ·rcases h'.status hAr with⟨hs,hne⟩|⟨_,rfl⟩
  ·exact⟨tag,f,by rw[again_running _ (.inl hs)];exact h',by omega,.inl rfl,λ_ _=>hne⟩
  ·cases h' with
   | blk hb =>
    rename_i g0;have h3:=hb w' (.refl w');exact⟨.w3,0+1,by rw[again_blocked h3.1 h3.2.1];exact .w3 (Goes.stop hb),by omega,.inr ⟨rfl,rfl⟩,λ_ _=>by simp⟩
 ·rename_i hc;exact⟨tag,f,h',by omega,.inl rfl,λh1 h2=>absurd (by simp[h1,h2]) hc⟩
theorem CS.bound(h:CS p Anch Fin tag e0 j f d M0 a w):j+pend tag<=p.n:=by
 cases h<;>simp only[pend]<;>(try simp)<;>omega
end
section
variable {p:L6} {Anch Fin:Goroutine->World->Prop} {gs:Array Goroutine} {w w':World} {sl:Option (Nat×Nat)} {j:Nat} {X:Nat->WX} {ow ow' q:Nat->Nat} {tag:CTag} {e0 f0 d0:Nat} {M0:Nat->Prop} {a:Goroutine} {t:Trace}
theorem EO.at(h:EO p j gs w t X ow q d0 M0)(d:Nat):EO p j gs (w.at d) t X ow q d0 M0 :=
 ⟨h.size,h.old,λi hi=>let ⟨g,hg,hs⟩:=h.wk i hi;⟨g,hg,hs.rely (h.mc i hi) ⟨λ_ _ _ _=>rfl,λ_ _=>rfl,A3 _,id,id⟩⟩,h.mc,h.mo,h.m0,h.low,h.ti,h.norel,h.deaf0,h.deafW,h.above,h.rel,h.sum⟩
theorem EZ(f:Goroutine->Goroutine){a b:Nat}(x:Goroutine)(hb:a≠b):((gs.map f).setIfInBounds a x)[b]?=(gs[b]?).map f:=by
 rw[Array.getElem?_setIfInBounds_ne hb,Array.getElem?_map]
theorem Ln(f:Goroutine->Goroutine){a:Nat}(x:Goroutine)(ha:a<gs.size):((gs.map f).setIfInBounds a x)[a]?=some x:=by simp[ha]
theorem Fd(hAr:∀g w,Anch g w->g.status=.running)(hm1:1<=p.m0)
  (ha:gs[0]?=some a) (hcs:CS p Anch Fin tag e0 j f0 d0 M0 a w) (hcom:EO p j gs w t X ow q d0 M0)
  {i:Nat} (hi:i<j) {g g':Goroutine} {es:Array Event} {x':WX} {st' sm':Int} (hg:gs[p.m0+i]?=some g) (hgo:stepG p.P false g w=.go g' w' es)
  {Z:Nat->Prop} (hT:Ar p Z w w') (hZ:∀b,Z b->b=p.Wg∨b=p.S∨(X i).m b) (hWS:p.Wg<p.Low/\p.S<p.Low)
  (how:∀b,b<w.heap.size->ow' b=ow b) (hmc:x'.m x'.c) (hm:∀b,x'.m b->ow' b=p.m0+i/\p.Low<=b/\b<w'.heap.size)
  (hti:TI p (t++MemOp.ofEvents (p.m0+i) g.frame.fn g.frame.place es) ow' w'.heap.size (p.m0+j))
  (hs':WS p i x'.c x'.v x'.m x'.e x'.d.stage x'.d.fuel x'.d.deaf g' w')
  (hnr:∀e∈es,e.loc≠.mark (.release (stA p.Wg))) (hdeaf:deafBehind (X i).d.deaf es=x'.d.deaf)
  (hrel:x'.d.stage<=6->∃r,RelBy (stA p.Wg) (t++MemOp.ofEvents (p.m0+i) g.frame.fn g.frame.place es) (p.m0+i) r/\p.t0.size<=r)
  (hsum:AE p w' (total p j (upd X i x'))) (hwg:WgAt p.ty p.Wg w' st' sm')
  (hmode:∀tag',(tag'=tag∨(tag=.blk/\tag'=.w3))->(mayWake p.P g=true->g'.status=.running->tag'≠.blk)->ConcN.Mode j (upd (ds X) i x'.d) tag' st' sm')
  (hlt:(x'.d.stage+x'.e<(X i).d.stage+(X i).e/\cnt x'.d<=cnt (X i).d)∨(x'.d.stage=(X i).d.stage/\x'.e=(X i).e/\x'.d.fuel+1=(X i).d.fuel)) :
  ∃m₁ ops μ',runT p.P (crowd gs w sl) (p.m0+i)=(.next m₁,ops)/\
   Lt2 μ' (phi p.n (Vc j (ds X)) tag+e0+Ssum j (ds X)+sumTo j (λi=>(X i).e),f0+2*Fsum j (ds X)+2*sumTo p.m0 q)/\Fl p Anch Fin μ' m₁ (t++ops):=by
 have a5:∀b,Z b->b=p.Wg∨b=p.S∨p.Low<=b:=λb hb=>(hZ b hb).imp id λh=>h.imp id λh=>(hcom.mo i hi b h).2.1
 have hM:∀(M:Nat->Prop)(k:Nat),k≠p.m0+i->(∀b,M b->ow b=k/\p.Low<=b/\b<w.heap.size)->∀b,M b->¬Z b/\b<w.heap.size:=λM k hk h b hb=>by
  refine⟨λhz=>?_,(h b hb).2.2⟩;have:=(h b hb).2.1;rcases hZ b hz with e|e|e
  ·omega
  ·omega
  ·have:=(hcom.mo i hi b e).1;have:=(h b hb).1;omega
 have a2:R0 p M0 w w':=hT.r0 hcom.low a5 (hM M0 0 (by omega) hcom.m0);obtain⟨tag',f',a1,a8,a0,a6⟩:=hcs.wokenBy hAr a2 g g';have a3:=runT_crowd_go (P:=p.P) (sl:=sl) (i:=p.m0+i) hg (by rw[show (p.m0+i==0)=false by simp;omega];exact hgo);have e1:=sumTo_upd (ds X) x'.d cnt hi;have e2:=sumTo_upd (ds X) x'.d WD.stage hi;have e3:=sumTo_upd (ds X) x'.d WD.fuel hi;have e4:=sumTo_upd X x' WX.e hi;have a9:=hT.size
 refine⟨_,_,(phi p.n (Vc j (ds (upd X i x'))) tag'+e0+Ssum j (ds (upd X i x'))+sumTo j (λk=>(upd X i x' k).e),f'+2*Fsum j (ds (upd X i x'))+2*sumTo p.m0 q),a3,?_,
  _,w',sl,j,upd X i x',ow',q,tag',e0,f',d0,M0,woken p.P g g' w' a,st',sm',rfl,by rw[EZ _ _ (by omega),ha];rfl,a1,?_,hwg,by rw[Se];exact hmode tag' a0 a6,rfl⟩
 ·rw[phi_retag p.n _ a0,Se];simp only[Vc,Ssum,Fsum] at *;rcases hlt with⟨h1,h2⟩|⟨h1,h2,h3⟩
  ·refine Prod.Lex.left _ _ ?_;have:=phi_mono p.n (v':=sumTo j λa=>cnt (upd (ds X) i x'.d a)) (v:=sumTo j λa=>cnt (ds X a)) (by simp only[ds] at *;omega) tag;simp only[ds] at *;omega
  ·have ec:cnt x'.d=cnt (ds X i):=by unfold cnt;rw[h1];rfl
   have ev:(sumTo j λa=>cnt (upd (ds X) i x'.d a))=sumTo j λa=>cnt (ds X a):=by omega
   have a7:(sumTo j λa=>(upd (ds X) i x'.d a).stage)=sumTo j λa=>(ds X a).stage:=by simp only[ds] at *;omega
   rw[ev,a7];have ee:(sumTo j λk=>(upd X i x' k).e)=sumTo j λk=>(X k).e:=by omega
   rw[ee];refine Prod.Lex.right _ ?_;simp only[ds] at *;omega
 ·refine⟨by simp[hcom.size],λk k1 k2=>?_,λk hk=>?_,λk hk=>?_,λk hk=>?_,λb hb=>?_,by have:=hcom.low;omega,hti,hcom.norel.app (norel_of hnr),by rw[Deaf_other t (by omega) _ g_of_ofEvents,hcom.deaf0],λk hk=>?_,λk hk=>?_,λk hk hst=>?_,hsum⟩
  ·obtain⟨y,hy,hq⟩:=hcom.old k k1 k2;exact⟨y,by rw[EZ _ _ (by omega),hy,Option.map_some,woken_quitsD hq],by rw[Deaf_other t (by omega) _ g_of_ofEvents];exact hq⟩
  ·by_cases e:k=i
   ·subst e;exact⟨g',Ln _ _ (by rw[hcom.size];omega),by rw[upd_same];exact hs'⟩
   ·obtain⟨y,hy,a4⟩:=hcom.wk k hk;refine⟨y,by rw[EZ _ _ (by omega),hy,Option.map_some,a4.woken],?_⟩;rw[upd_ne X _ e];exact a4.rely (hcom.mc k hk) (hT.r0 hcom.low a5 (hM _ (p.m0+k) (by omega) (hcom.mo k hk))).rk
  ·by_cases e:k=i
   ·subst e;rw[upd_same];exact hmc
   ·rw[upd_ne X _ e];exact hcom.mc k hk
  ·by_cases e:k=i
   ·subst e;rw[upd_same];exact hm
   ·rw[upd_ne X _ e];intro b hb;obtain⟨h1,h2,h3⟩:=hcom.mo k hk b hb;exact⟨(how b h3).trans h1,h2,by omega⟩
  ·obtain⟨h1,h2,h3⟩:=hcom.m0 b hb;exact⟨(how b h3).trans h1,h2,by omega⟩
  ·by_cases e:k=i
   ·subst e;rw[Deaf_own,hcom.deafW k hk,upd_same];exact hdeaf
   ·rw[Deaf_other t (by omega) _ g_of_ofEvents,hcom.deafW k hk,upd_ne X _ e]
  ·rw[Deaf_other t (by omega) _ g_of_ofEvents];exact hcom.above k hk
  ·by_cases e:k=i
   ·subst e;rw[upd_same] at hst;exact hrel hst
   ·rw[upd_ne X _ e] at hst;obtain⟨r,hr,a2⟩:=hcom.rel k hk hst;exact⟨r,hr.appOther g_of_ofEvents (by omega),a2⟩
theorem Jz(hm1:1<=p.m0)
  (ha:gs[0]?=some a) (hcom:EO p j gs w t X ow q d0 M0)
  {a':Goroutine} {es:Array Event} {tag':CTag} {e' f':Nat} {M':Nat->Prop} {st' sm':Int} (hgo:stepG p.P true a w=.go a' w' es)
  {Z:Nat->Prop} (hT:Ar p Z w w') (hZ:∀b,Z b->b=p.Wg∨b=p.S∨M0 b) (hWS:p.Wg<p.Low/\p.S<p.Low)
  (how:∀b,b<w.heap.size->ow' b=ow b) (hm:∀b,M' b->ow' b=0/\p.Low<=b/\b<w'.heap.size)
  (hti:TI p (t++MemOp.ofEvents 0 a.frame.fn a.frame.place es) ow' w'.heap.size (p.m0+j)) (hnr:∀e∈es,e.loc≠.mark (.release (stA p.Wg)))
  (hcs':CS p Anch Fin tag' e' j f' (deafBehind d0 es) M' a' w') (hsum:AE p w' (total p j X)) (hwg:WgAt p.ty p.Wg w' st' sm') (hmode:ConcN.Mode j (ds X) tag' st' sm')
  (hlt:phi p.n (Vc j (ds X)) tag'+e'<phi p.n (Vc j (ds X)) tag+e0∨(phi p.n (Vc j (ds X)) tag'+e'=phi p.n (Vc j (ds X)) tag+e0/\f'<f0)) :
  ∃m₁ ops μ',runT p.P (crowd gs w sl) 0=(.next m₁,ops)/\
   Lt2 μ' (phi p.n (Vc j (ds X)) tag+e0+Ssum j (ds X)+sumTo j (λi=>(X i).e),f0+2*Fsum j (ds X)+2*sumTo p.m0 q)/\Fl p Anch Fin μ' m₁ (t++ops):=by
 have a0:=runT_crowd_go (P:=p.P) (sl:=sl) (i:=0) ha (by simpa using hgo);have a4:=hT.size;have a3:∀b,Z b->b=p.Wg∨b=p.S∨p.Low<=b:=λb hb=>(hZ b hb).imp id λh=>h.imp id λh=>(hcom.m0 b h).2.1
 refine⟨_,_,(phi p.n (Vc j (ds X)) tag'+e'+Ssum j (ds X)+sumTo j (λi=>(X i).e),f'+2*Fsum j (ds X)+2*sumTo p.m0 q),a0,?_,
  _,w',sl,j,X,ow',q,tag',e',f',deafBehind d0 es,M',a',st',sm',rfl,Ln _ _ (by rw[hcom.size];omega),hcs',?_,hwg,hmode,rfl⟩
 ·rcases hlt with h|⟨h1,h2⟩
  ·exact Prod.Lex.left _ _ (by omega)
  ·rw[h1];exact Prod.Lex.right _ (by omega)
 ·refine⟨by simp[hcom.size],λk k1 k2=>?_,λk hk=>?_,hcom.mc,λk hk b hb=>?_,hm,by have:=hcom.low;omega,hti,hcom.norel.app (norel_of hnr),by rw[Deaf_own,hcom.deaf0],λk hk=>by rw[Deaf_other t (by omega) _ g_of_ofEvents,hcom.deafW k hk],λk hk=>by rw[Deaf_other t (by omega) _ g_of_ofEvents];exact hcom.above k hk,λk hk hst=>?_,hsum⟩
  ·obtain⟨y,hy,hq⟩:=hcom.old k k1 k2;exact⟨y,by rw[EZ _ _ (by omega),hy,Option.map_some,woken_quitsD hq],by rw[Deaf_other t (by omega) _ g_of_ofEvents];exact hq⟩
  ·obtain⟨y,hy,a1⟩:=hcom.wk k hk;refine⟨y,by rw[EZ _ _ (by omega),hy,Option.map_some,a1.woken],a1.rely (hcom.mc k hk) (hT.r0 hcom.low a3 λb hb=>?_).rk⟩;obtain⟨h1,h2,h3⟩:=hcom.mo k hk b hb;refine⟨λhz=>?_,h3⟩;rcases hZ b hz with e|e|e
   ·omega
   ·omega
   ·have:=(hcom.m0 b e).1;omega
  ·obtain⟨h1,h2,h3⟩:=hcom.mo k hk b hb;exact⟨(how b h3).trans h1,h2,by omega⟩
  ·obtain⟨r,hr,a2⟩:=hcom.rel k hk hst;exact⟨r,hr.appOther g_of_ofEvents (by omega),a2⟩
theorem AcT(o:p.Ok)(hAr:∀g w,Anch g w->g.status=.running)
  (ha:gs[0]?=some a) (hcs:CS p Anch Fin tag e0 j f0 d0 M0 a w) (hcom:EO p j gs w t X ow q d0 M0) {st sm:Int} (hwg:WgAt p.ty p.Wg w st sm) (hmode:ConcN.Mode j (ds X) tag st sm)
  {i:Nat} (h1:1<=i) (hi:i<p.m0) {g:Goroutine} (hg:gs[i]?=some g) (hrun:g.status=.running) :
  ∃m₁ ops μ',runT p.P (crowd gs w sl) i=(.next m₁,ops)/\
   Lt2 μ' (phi p.n (Vc j (ds X)) tag+e0+Ssum j (ds X)+sumTo j (λi=>(X i).e),f0+2*Fsum j (ds X)+2*sumTo p.m0 q)/\Fl p Anch Fin μ' m₁ (t++ops):=by
 obtain⟨g₁,a3,hq⟩:=hcom.old i h1 hi;obtain rfl:g=g₁:=by rw[hg] at a3;exact A5 a3
 cases hqi:q i with
 | zero=>rw[hqi] at hq;rw[hq.1] at hrun;cases hrun
 | succ k =>
  rw[hqi] at hq;rcases hq with⟨hf,_⟩|⟨_,g',es,hmute,hstep,hq'⟩
  ·rw[hf] at hrun;cases hrun
  have a7:∀op∈MemOp.ofEvents i g.frame.fn g.frame.place es,op.act.touch?=none:=λop hop=>by
   obtain⟨e,he,rfl⟩:=Go.Conc.mem_ofEvents hop;exact touch_mute (hmute e he)
  have a8:∀e∈es,e.loc≠.mark (.release (stA p.Wg)):=λe he hl=>by
   have:=hmute e he;obtain⟨l,wr,sy⟩:=e;simp only at hl;subst hl;simp[Event.mute] at this
  obtain⟨a0,f',a2,b0,a1,_⟩:=hcs.wokenBy hAr (.refl w) g g';have a9:=runT_crowd_go (P:=p.P) (sl:=sl) (i:=i) hg (by rw[show (i==0)=false by simp;omega];exact hstep w)
  have e1:sumTo p.m0 (upd q i k)+(k+1)=sumTo p.m0 q+k:=by
   have:=sumTo_upd q k id hi;simpa [hqi] using this
  refine⟨_,_,(phi p.n (Vc j (ds X)) a0+e0+Ssum j (ds X)+sumTo j (λi=>(X i).e),f'+2*Fsum j (ds X)+2*sumTo p.m0 (upd q i k)),a9,?_,
   _,w,sl,j,X,ow,upd q i k,a0,e0,f',d0,M0,woken p.P g g' w a,st,sm,rfl,by rw[EZ _ _ (by omega),ha];rfl,a2,?_,hwg,hmode.retag a1,rfl⟩
  ·rw[phi_retag p.n _ a1];refine Prod.Lex.right _ ?_;omega
  ·refine⟨by simp[hcom.size],λk' k1 k2=>?_,λk' hk=>?_,hcom.mc,hcom.mo,hcom.m0,hcom.low,hcom.ti.app o (g:=i) (λop hop=>by obtain⟨e,_,rfl⟩:=Go.Conc.mem_ofEvents hop;rfl) (λop hop x hx=>by rw[a7 op hop] at hx;cases hx),hcom.norel.app (norel_of a8),by rw[Deaf_other t (by omega) _ g_of_ofEvents,hcom.deaf0],
    λk' hk=>by rw[Deaf_other t (by omega) _ g_of_ofEvents,hcom.deafW k' hk],λk' hk=>by rw[Deaf_other t (by omega) _ g_of_ofEvents];exact hcom.above k' hk,λk' hk hst=>?_,hcom.sum⟩
   ·by_cases e:k'=i
    ·subst e;exact⟨g',Ln _ _ (by rw[hcom.size];omega),by rw[upd_same,Deaf_own];exact hq'⟩
    ·obtain⟨y,hy,a4⟩:=hcom.old k' k1 k2;exact⟨y,by rw[EZ _ _ (by omega),hy,Option.map_some,woken_quitsD a4],by rw[upd_ne q k e,Deaf_other t (by omega) _ g_of_ofEvents];exact a4⟩
   ·obtain⟨y,hy,a5⟩:=hcom.wk k' hk;exact⟨y,by rw[EZ _ _ (by omega),hy,Option.map_some,a5.woken],a5⟩
   ·obtain⟨r,hr,a6⟩:=hcom.rel k' hk hst;exact⟨r,hr.appOther g_of_ofEvents (by omega),a6⟩
end
end Go.Proofs.YtcgkgmmclfeohaaGreatDoor
namespace Go.Proofs.YtcgkgmmclfeohaaGreatDoor
open Go.Conc Go.ConcN Go.RowKit
open Go.ConcR (KK wgBlock WgAt stA smA rd wr mk Payload DC0 Bk g_of_ofEvents bk_of_mute ofEvent_loc_mark ofEvent_mk)
theorem JC{j i:Nat}(p:L6)(X:Nat->WX)(x:WX)(h:(if x.e=0 then p.bit i else 0)=(if (X i).e=0 then p.bit i else 0)):total p j (upd X i x)=total p j X :=
 sumTo_congr λa _=>by
  by_cases e:a=i
  ·subst e;rw[upd_same];exact h
  ·rw[upd_ne X _ e]
theorem Sf{j i:Nat}(p:L6)(X:Nat->WX)(x:WX)(hi:i<j)(h0:x.e=0)(h1:(X i).e≠0):total p j (upd X i x)=total p j X+p.bit i:=by
 have a0:∀j,i<j->sumTo j (λa=>if (upd X i x a).e=0 then p.bit a else 0)=sumTo j (λa=>if (X a).e=0 then p.bit a else 0)+p.bit i:=by
  intro j;induction j with
  | zero=>intro h;omega
  | succ j ih =>
   intro h;simp only[sumTo];by_cases e:j=i
   ·subst e;rw[upd_same,if_pos h0,if_neg h1,sumTo_congr (g:=λa=>if (X a).e=0 then p.bit a else 0) (λa ha=>by rw[upd_ne X x (by omega)])];omega
   ·rw[ih (by omega),upd_ne X x e];omega
 exact a0 j hi
theorem AeQ{p:L6}{j:Nat}(X:Nat->WX)(hj:j<=p.n):total p j X<=sumTo p.n p.bit:=by
 have h1:∀j,total p j X<=sumTo j p.bit:=λj=>by
  induction j with
  | zero=>exact A3 _
  | succ j ih =>
   simp only[total,sumTo] at *;split<;>omega
 have h2:∀k j,sumTo j p.bit<=sumTo (j+k) p.bit:=λk=>by
  induction k with
  | zero=>exact λj=>A3 _
  | succ k ih=>exact λj=>B4 (ih j) (by rw[show j+(k+1)=(j+k)+1 by omega];simp only[sumTo];omega)
 have:=h2 (p.n-j) j;rw[show j+(p.n-j)=p.n by omega] at this;exact B4 (h1 j) this
theorem AeR{p:L6}{j i:Nat}(X:Nat->WX)(hi:i<j)(hj:j<=p.n)(he:(X i).e≠0):total p j X+p.bit i<=sumTo p.n p.bit:=by
 have h:=Sf p X (⟨⟨0,0,0⟩,0,0,undef,λ_=>False⟩:WX) hi rfl he;rw[← h];exact AeQ _ hj
section
variable {p:L6} {ow:Nat->Nat} {h g:Nat} {M:Nat->Prop} {fn:FuncId} {pos:String} {es:Array Event}
theorem CT(hb:∀e∈es,Go.ConcR.Bk p.Wg e):∀op∈MemOp.ofEvents g fn pos es,∀x,op.act.touch?=some x->UF p ow h g x:=λop hop x hx=>by
 rcases (okW_of_Bk (Own:=No) (Rd:=No) (k:=g) hb op hop).2 x hx with⟨h1,h2,h3⟩|h1|h1
 ·exact .inl ⟨.inl h1,h2,λe=>absurd e h3⟩
 ·exact h1.elim
 ·exact h1.1.elim
theorem UI(hM:∀b,M b->ow b=g/\p.Low<=b/\b<h)(he:∀e∈es,Yu p M e):∀op∈MemOp.ofEvents g fn pos es,∀x,op.act.touch?=some x->UF p ow h g x:=λop hop x hx=>by
 obtain⟨e,hee,rfl⟩:=Go.Conc.mem_ofEvents hop;rcases (he e hee).1 x hx with⟨h1,h2,h3⟩|⟨h1,a,h2,h3,h4⟩
 ·exact .inl ⟨.inl h1,h2,λe=>absurd e h3⟩
 ·exact .inr ⟨h1,a,h2,h3,h4.imp id λhm=>⟨(hM _ hm).2.1,(hM _ hm).2.2,(hM _ hm).1⟩⟩
theorem JD(hn:∀e∈es,(MemAct.ofEvent e).touch?=none):∀op∈MemOp.ofEvents g fn pos es,∀x,op.act.touch?=some x->UF p ow h g x:=λop hop x hx=>by
 obtain⟨e,he,rfl⟩:=Go.Conc.mem_ofEvents hop;rw[hn e he] at hx;cases hx
end
theorem OG{g:Nat}{fn:FuncId}{pos:String}{es:Array Event}:∀op∈MemOp.ofEvents g fn pos es,op.g=g:=λop hop=>by obtain⟨e,_,rfl⟩:=Go.Conc.mem_ofEvents hop;rfl
theorem AE.set{p:L6}{w:World}{s:Int}(h:AE p w s)(v:Int):AE p (w.setCell (sA p) (.int .u32 v)) v:=by
 unfold AE at h ⊢
 rw[sA,setCell_eq_setRow w p.S 0 _ p.tS (0,0) _ h,setRow_heap w p.S _ _ p.tS _ h];simp
theorem Sg(t:Trace)(g:Nat)(fn:FuncId)(pos:String):t++MemOp.ofEvents g fn pos #[]=t:=by rw[ofEvents_eq];simp
section
variable {p:L6} {Anch Fin:Goroutine->World->Prop} {gs:Array Goroutine} {w:World} {sl:Option (Nat×Nat)} {j:Nat} {X:Nat->WX} {ow q:Nat->Nat} {tag:CTag} {e0 f0 d0:Nat} {M0:Nat->Prop} {a:Goroutine} {t:Trace} {st sm:Int}
theorem Ws(o:p.Ok)(hAr:∀g w,Anch g w->g.status=.running)
  (ha:gs[0]?=some a) (hcs:CS p Anch Fin tag e0 j f0 d0 M0 a w) (hcom:EO p j gs w t X ow q d0 M0) (hwg:WgAt p.ty p.Wg w st sm) (hmode:ConcN.Mode j (ds X) tag st sm)
  {i:Nat} (hi:i<j) {g:Goroutine} (hg:gs[p.m0+i]?=some g) (hrun:g.status=.running) :
  ∃m₁ ops μ',runT p.P (crowd gs w sl) (p.m0+i)=(.next m₁,ops)/\
   Lt2 μ' (phi p.n (Vc j (ds X)) tag+e0+Ssum j (ds X)+sumTo j (λi=>(X i).e),f0+2*Fsum j (ds X)+2*sumTo p.m0 q)/\Fl p Anch Fin μ' m₁ (t++ops):=by
 obtain⟨g₁,c5,hs⟩:=hcom.wk i hi;obtain rfl:g=g₁:=by rw[hg] at c5;exact A5 c5
 have b4:=o.m0;have b5:p.Wg<p.Low/\p.S<p.Low:=⟨o.wg,o.s⟩;have a6:=hcom.mo i hi;have c6:¬(X i).m p.Wg:=λh=>by have:=(a6 _ h).2.1;have:=o.wg;omega
 have c7:¬(X i).m p.S:=λh=>by have:=(a6 _ h).2.1;have:=o.s;omega
 have b8:p.m0+i=0∨(p.m0<=p.m0+i/\p.m0+i<p.m0+j):=.inr ⟨by omega,by omega⟩;have hb:=hcs.bound;have e8:=Vc_le j (ds X);generalize hst:(X i).d.stage=s at hs;generalize hfu:(X i).d.fuel=m at hs;generalize hde:(X i).d.deaf=dd at hs;generalize hee:(X i).e=e at hs;have a7:(ds X i).stage=s:=hst;have c8:Deaf t (p.m0+i)=dd:=by rw[hcom.deafW i hi,hde]
 cases hs with
 | pre h =>
  have a4:∀m',ConcN.Mode j (upd (ds X) i ⟨7,m',0⟩) tag st sm:=λm'=>by have:=hmode.same (i:=i) m' 0;rwa [a7] at this
  have b0:∀{g':Goroutine} {w':World} {es:Array Event} {m':Nat},stepG p.P false g w=.go g' w' es->DK p (X i).m w w' es->Wk p i (X i).c (X i).v e (X i).m m' g' w'->m'+1=m->
    ∃m₁ ops μ',runT p.P (crowd gs w sl) (p.m0+i)=(.next m₁,ops)/\
     Lt2 μ' (phi p.n (Vc j (ds X)) tag+e0+Ssum j (ds X)+sumTo j (λi=>(X i).e),f0+2*Fsum j (ds X)+2*sumTo p.m0 q)/\Fl p Anch Fin μ' m₁ (t++ops):=by
   intro g' w' es m' a0 hD hk hm
   refine Fd (x':=⟨⟨7,m',0⟩,e,(X i).c,(X i).v,(X i).m⟩) (ow':=ow) hAr b4 ha hcs hcom hi hg a0 (Ar.ow hD.1 c6 c7) (λb hb=>.inr (.inr hb)) b5 (λ_ _=>rfl) (hcom.mc i hi) (λb hb=>by have:=a6 b hb;rw[hD.1.size];exact this)
    ?_ (.pre hk) (λe he=>(hD.2 e he).2.2.2) (by rw[hde];exact deafBehind_idle (λe he=>⟨(hD.2 e he).2.1,(hD.2 e he).2.2.1⟩) 0) (λh=>by simp at h) ?_ (hwg.of_block (hD.1.block _ c6)) (λ_ ht _=>(a4 m').retag ht) (.inr ⟨hst.symm,hee.symm,by rw[hfu];exact hm⟩)
   ·rw[hD.1.size];exact hcom.ti.app o OG λop hop x hx=>⟨b8,UI a6 hD.2 op hop x hx⟩
   ·rw[JC p X _ (by simp[hee])];exact (hD.1.block _ c7).trans hcom.sum
  match e,h with
  | 0,h =>
   unfold Wk at h;rcases Goes.cases h with hstop|⟨m',rfl,hstep⟩
   ·obtain⟨_,d7,g',a0,m₂,hk⟩:=hstop w (RK.refl w)
    refine Fd (x':=⟨⟨6,m₂,0⟩,0,(X i).c,(X i).v,(X i).m⟩) (ow':=ow) hAr b4 ha hcs hcom hi hg a0 (Z:=λ_=>False) (.refl w) (λb hb=>hb.elim) b5 (λ_ _=>rfl) (hcom.mc i hi) a6
     (hcom.ti.app o OG λop hop x hx=>⟨b8,JD (by intro e he;simp at he;subst he;rfl) op hop x hx⟩) (.post (A3 _) (.k1 hk)) (by intro e he;simp at he;subst he;simp[mk]) (by rw[hde];rfl)
     (λ_=>⟨t.size,RelBy.new c8 _ _,by obtain⟨u,hu⟩:=hcom.ti.pre;rw[hu];simp⟩) ?_ hwg (λ_ ht _=>(hmode.counted hi (by omega) (.inl rfl) _ _).retag ht) (.inl ⟨by rw[hst,hee];simp only;omega,by simp[cnt,hst]⟩)
    rw[JC p X _ (by simp[hee])];exact hcom.sum
   ·obtain⟨g',w',es,a0,hD,a2⟩:=hstep w (RK.refl w);exact b0 a0 hD (by unfold Wk;exact a2) rfl
  | 1,h =>
   unfold Wk at h;rcases Goes.cases h with hstop|⟨m',rfl,hstep⟩
   ·obtain⟨_,hx⟩:=hstop w (RK.refl w);have e9:=AeR X hi (show j<=p.n by omega) (by omega);have f1:=o.bits;obtain⟨g',a0,m₂,hk⟩:=hx (total p j X) (by omega) hcom.sum;have b9:=aside_setCell w (sA p) (.int .u32 ((total p j X+p.bit i:Nat):Int));have c9:=hcom.sum.set ((total p j X+p.bit i:Nat):Int)
    refine Fd (x':=⟨⟨7,m₂,0⟩,0,(X i).c,(X i).v,(X i).m⟩) (ow':=ow) hAr b4 ha hcs hcom hi hg a0 (Ar.su b9 ⟨_,c9⟩ o.ne) (λb hb=>.inr (.inl hb)) b5 (λ_ _=>rfl) (hcom.mc i hi) (λb hb=>by have:=a6 b hb;rw[b9.size];exact this)
     ?_ (.pre hk) (by intro e he;simp at he;rcases he with rfl|rfl<;>simp[rd,wr]) (by rw[hde];exact deafBehind_idle (by intro e he;simp at he;rcases he with rfl|rfl<;>simp[rd,wr]) 0) (λh=>by simp at h) ?_ (hwg.of_block (b9.block _ o.ne)) (λ_ ht _=>(a4 m₂).retag ht) (.inl ⟨by rw[hst,hee];simp only;omega,by simp[cnt,hst]⟩)
    ·rw[b9.size];refine hcom.ti.app o OG λop hop x hx=>⟨b8,?_⟩;obtain⟨e,he,rfl⟩:=Go.Conc.mem_ofEvents hop;simp at he;rcases he with rfl|rfl<;>simp only[rd,wr,Go.ConcR.ofEvent_cell,MemAct.touch?,Option.some.injEq] at hx<;>subst hx<;>exact .inl ⟨.inr ⟨sA p,rfl,rfl⟩,by simp,by simp⟩
    ·rw[Sf p X _ hi rfl (by omega)];exact c9
   ·obtain⟨g',w',es,a0,hD,a2⟩:=hstep w (RK.refl w);exact b0 a0 hD (by unfold Wk;exact a2) rfl
  | e+2,h =>
   unfold Wk at h;rcases Goes.cases h with hstop|⟨m',rfl,hstep⟩
   ·obtain⟨_,g',w',a0,b7,m₂,d8,d9⟩:=hstop w (RK.refl w);have e2:=b7.size
    have a8:∀e',Wk p i (X i).c (X i).v e' (λx=>(X i).m x∨x=w.heap.size) m₂ g' w'->e'<e+2->(if e'=0 then p.bit i else 0)=0->
      ∃m₁ ops μ',runT p.P (crowd gs w sl) (p.m0+i)=(.next m₁,ops)/\
       Lt2 μ' (phi p.n (Vc j (ds X)) tag+e0+Ssum j (ds X)+sumTo j (λi=>(X i).e),f0+2*Fsum j (ds X)+2*sumTo p.m0 q)/\Fl p Anch Fin μ' m₁ (t++ops):=by
     intro e' hk he' hz
     refine Fd (x':=⟨⟨7,m₂,0⟩,e',(X i).c,(X i).v,λx=>(X i).m x∨x=w.heap.size⟩) (ow':=upd ow w.heap.size (p.m0+i)) hAr b4 ha hcs hcom hi hg a0 (Ar.gr b7 o hcom.low) (λb hb=>hb.elim) b5 (λb hb=>upd_ne ow _ (by omega)) (.inl (hcom.mc i hi)) (λb hb=>?_)
      ?_ (.pre hk) (by simp) (by rw[hde];rfl) (λh=>by simp at h) ?_ (hwg.of_block (b7.block _ (by have:=hcom.low;have:=o.wg;omega))) (λ_ ht _=>(a4 m₂).retag ht) (.inl ⟨by rw[hst,hee];simp only;omega,by simp[cnt,hst]⟩)
     ·rcases hb with hb|rfl
      ·have:=a6 b hb;exact⟨by rw[upd_ne ow _ (by omega)];exact this.1,this.2.1,by omega⟩
      ·exact⟨upd_same _ _ _,hcom.low,by omega⟩
     ·rw[Sg,e2];exact hcom.ti.fresh _
     ·rw[JC p X _ (by simp only;rw[hz,hee];simp)];exact (b7.block _ (by have:=hcom.low;have:=o.s;omega)).trans hcom.sum
    by_cases hb0:p.bit i=0
    ·exact a8 0 (d9 hb0) (by omega) (by simp[hb0])
    ·exact a8 (e+1) (d8 hb0) (by omega) (by simp)
   ·obtain⟨g',w',es,a0,hD,a2⟩:=hstep w (RK.refl w);exact b0 a0 hD (by unfold Wk;exact a2) rfl
 | post h6 h =>
  have a9:∀{g':Goroutine} {w':World} {es:Array Event} {s' m' dd':Nat} {st' sm':Int},stepG p.P false g w=.go g' w' es->Go.Conc.Aside p.Wg w w'->WgAt p.ty p.Wg w' st' sm'->(∀e∈es,Go.ConcR.Bk p.Wg e)->
    (∀jx e,es[jx]?=some e->(MemAct.ofEvent e).touch?=none∨0<deafBehind dd (es.extract 0 jx))->WSit p.P p.ty p.Wg (X i).c 1 No No 0 1 (X i).v s' m' dd' g' w'->deafBehind dd es=dd'->s'<=6->
    (∀tag',(tag'=tag∨(tag=.blk/\tag'=.w3))->(mayWake p.P g=true->g'.status=.running->tag'≠.blk)->ConcN.Mode j (upd (ds X) i ⟨s',m',dd'⟩) tag' st' sm')->((s'<s/\cnt ⟨s',m',dd'⟩<=cnt (ds X i))∨(s'=s/\m'+1=m))->
    ∃m₁ ops μ',runT p.P (crowd gs w sl) (p.m0+i)=(.next m₁,ops)/\
     Lt2 μ' (phi p.n (Vc j (ds X)) tag+e0+Ssum j (ds X)+sumTo j (λi=>(X i).e),f0+2*Fsum j (ds X)+2*sumTo p.m0 q)/\Fl p Anch Fin μ' m₁ (t++ops):=by
   intro g' w' es s' m' dd' st' sm' a0 hAs hwg' b1 hd hs' hdd h6' hmode' hlt
   refine Fd (x':=⟨⟨s',m',dd'⟩,0,(X i).c,(X i).v,(X i).m⟩) (ow':=ow) hAr b4 ha hcs hcom hi hg a0 (Ar.wg hAs ⟨_,_,hwg'⟩ o.ne) (λb hb=>.inl hb) b5 (λ_ _=>rfl) (hcom.mc i hi) (λb hb=>by have:=a6 b hb;rw[hAs.size];exact this)
    ?_ (.post h6' hs') (norel_of_Bk b1) (by rw[hde];exact hdd) (λ_=>let ⟨r,hr,hr0⟩:=hcom.rel i hi (by omega);⟨r,hr.book c8 _ _ b1 hd,hr0⟩) ?_ hwg' hmode' ?_
   ·rw[hAs.size];exact hcom.ti.app o OG λop hop x hx=>⟨b8,CT b1 op hop x hx⟩
   ·rw[JC p X _ (by simp[hee])];exact (hAs.block _ (Ne.symm o.ne)).trans hcom.sum
   ·rcases hlt with⟨h1,h2⟩|⟨h1,h2⟩
    ·exact .inl ⟨by rw[hst,hee];exact h1,h2⟩
    ·exact .inr ⟨by rw[hst];exact h1,hee.symm,by rw[hfu];exact h2⟩
  have a1:∀{g':Goroutine} {w':World} {es:Array Event} {s' m' dd':Nat} {st' sm':Int},stepG p.P false g w=.go g' w' es->Go.Conc.Aside p.Wg w w'->WgAt p.ty p.Wg w' st' sm'->(∀e∈es,Go.ConcR.Bk p.Wg e)->
    (∀jx e,es[jx]?=some e->(MemAct.ofEvent e).touch?=none∨0<deafBehind dd (es.extract 0 jx))->WSit p.P p.ty p.Wg (X i).c 1 No No 0 1 (X i).v s' m' dd' g' w'->deafBehind dd es=dd'->s'<=6->
    ConcN.Mode j (upd (ds X) i ⟨s',m',dd'⟩) tag st' sm'->((s'<s/\cnt ⟨s',m',dd'⟩<=cnt (ds X i))∨(s'=s/\m'+1=m))->
    ∃m₁ ops μ',runT p.P (crowd gs w sl) (p.m0+i)=(.next m₁,ops)/\
     Lt2 μ' (phi p.n (Vc j (ds X)) tag+e0+Ssum j (ds X)+sumTo j (λi=>(X i).e),f0+2*Fsum j (ds X)+2*sumTo p.m0 q)/\Fl p Anch Fin μ' m₁ (t++ops) :=
   λa0 hAs hwg' b1 hd hs' hdd h6' hmode' hlt=>a9 a0 hAs hwg' b1 hd hs' hdd h6' (λ_ ht _=>hmode'.retag ht) hlt
  have a5:∀{g':Goroutine} {m':Nat},stepG p.P false g w=.go g' w #[]->WSit p.P p.ty p.Wg (X i).c 1 No No 0 1 (X i).v s m' dd g' w->m'+1=m->
    ∃m₁ ops μ',runT p.P (crowd gs w sl) (p.m0+i)=(.next m₁,ops)/\
     Lt2 μ' (phi p.n (Vc j (ds X)) tag+e0+Ssum j (ds X)+sumTo j (λi=>(X i).e),f0+2*Fsum j (ds X)+2*sumTo p.m0 q)/\Fl p Anch Fin μ' m₁ (t++ops):=by
   intro g' m' a0 hs' hm;exact a1 a0 (.refl p.Wg w) hwg (by simp) (by simp) hs' rfl h6 (by have:=hmode.same (i:=i) m' dd;rwa [a7] at this) (.inr ⟨rfl,hm⟩)
  cases h with
  | r0 h=>omega
  | k1 h =>
   rcases Goes.cases h with hstop|⟨m',rfl,hstep⟩
   ·obtain⟨_,g',a0,m₂,hk⟩:=hstop w (RW.refl w)
    exact a1 a0 (.refl p.Wg w) hwg (by intro e he;simp at he;subst he;exact .inl rfl) (by intro jx e he;exact .inl (by have:=Array.mem_of_getElem? he;simp at this;subst this;rfl)) (.d1 hk) rfl (by omega)
     (hmode.counted hi (by omega) (.inr rfl) _ _) (.inl ⟨by omega,by simp[cnt,a7]⟩)
   ·obtain⟨g',w',es,a0,⟨rfl,rfl⟩,a2⟩:=hstep w (RW.refl w);exact a5 a0 (.k1 a2) rfl
  | d1 h =>
   rcases Goes.cases h with hstop|⟨m',rfl,hstep⟩
   ·obtain⟨_,b2⟩:=hstop w (RW.refl w);have e4:cnt (ds X i)=1:=by simp[cnt,a7]
    have f2:1<=Vc j (ds X):=by have:=le_sumTo (f:=λx=>cnt (ds X x)) hi;simp only[Vc];omega
    have c1:∀e∈#[rd (stA p.Wg),wr (stA p.Wg)],Go.ConcR.Bk p.Wg e:=by intro e he;simp at he;rcases he with rfl|rfl<;>exact bk_cell _ _ rfl
    have c2:∀jx e,(#[rd (stA p.Wg),wr (stA p.Wg)]:Array Event)[jx]?=some e->(MemAct.ofEvent e).touch?=none∨0<deafBehind 1 ((#[rd (stA p.Wg),wr (stA p.Wg)]:Array Event).extract 0 jx):=by
     intro jx e he;match jx,he with
     | 0,_=>exact .inr (by simp[deafBehind])
     | 1,_=>exact .inr (by simp[deafBehind,rd])
     | jx+2,he=>simp at he
    have d5:∀q,cnt (⟨1,q,1⟩:WD)=0:=λ_=>rfl
    have d6:∀q,OpenSt j (ds X)->OpenSt j (upd (ds X) i ⟨1,q,1⟩):=λq h a ha=>by
     by_cases e:a=i
     ·subst e;rw[upd_same];simp
     ·rw[upd_ne (ds X) _ e];exact h a ha
    cases hmode with
    | opn h1 h2 h3 =>
     obtain⟨v,hv⟩:∃v,Vc j (ds X)+pend tag=v+1:=⟨Vc j (ds X)+pend tag-1,by omega⟩;rw[hv] at hwg;have e5:=o.n;have c3:WgAt p.ty p.Wg w (((v:Nat)+1)*KK+((0:Nat):Int)) 0:=by simpa using hwg
     obtain⟨g',a0,_,hq⟩:=b2 v 0 (by omega) (by omega) c3;obtain⟨q,hq⟩:=hq (by omega);have c4:Vc j (upd (ds X) i ⟨1,q,1⟩)+pend tag=v:=by have:=Vc_upd (ds X) (⟨1,q,1⟩:WD) hi;have:=d5 q;omega
     refine a1 a0 (aside_setCell w (stA p.Wg) _) (hwg.setSt _) c1 c2 (.quit hq) rfl (by omega) ?_ (.inl ⟨by omega,by simp[cnt]⟩);have e:((v:Nat):Int)*KK+((0:Nat):Int)=((Vc j (upd (ds X) i ⟨1,q,1⟩)+pend tag:Nat):Int)*KK:=by rw[c4];simp
     rw[e];exact .opn h1 (d6 q h2) (λvs ev=>by have:=h3 vs ev;omega)
    | reg h1 h2 h3 =>
     obtain⟨v,hv⟩:∃v,Vc j (ds X)=v+1:=⟨Vc j (ds X)-1,by omega⟩;rw[hv] at hwg;have e5:=o.n;have hp:pend tag=0:=by cases tag<;>first|rfl|exact h1.elim
     have c3:WgAt p.ty p.Wg w (((v:Nat)+1)*KK+((1:Nat):Int)) 0:=by simpa using hwg
     obtain⟨g',a0,hl,hq⟩:=b2 v 1 (by omega) (by omega) c3;by_cases hv0:v=0
     ·subst hv0;obtain⟨m₂,hk⟩:=hl ⟨rfl,rfl⟩;refine a1 a0 (aside_setCell w (stA p.Wg) _) (hwg.setSt _) c1 c2 (.d2 hk) rfl (by omega) ?_ (.inl ⟨by omega,by simp[cnt]⟩)
      have a3:∀a,a<j->a≠i->(ds X a).stage=1:=λa ha e=>by
       have c0:=others_uncounted hi hv e4 a ha e;have:=h2 a ha;simp only[cnt] at c0;split at c0<;>omega
      have:=ConcN.Mode.last (j:=j) (D:=upd (ds X) i ⟨4,m₂,1⟩) (tag:=tag) i h1 hi (by rw[upd_same];simp) (λa ha e=>by rw[upd_ne (ds X) _ e];exact a3 a ha e);rw[upd_same] at this;simpa using this
     ·obtain⟨q,hq⟩:=hq (by omega);have c4:Vc j (upd (ds X) i ⟨1,q,1⟩)=v:=by have:=Vc_upd (ds X) (⟨1,q,1⟩:WD) hi;have:=d5 q;omega
      refine a1 a0 (aside_setCell w (stA p.Wg) _) (hwg.setSt _) c1 c2 (.quit hq) rfl (by omega) ?_ (.inl ⟨by omega,by simp[cnt]⟩);have e:((v:Nat):Int)*KK+((1:Nat):Int)=((Vc j (upd (ds X) i ⟨1,q,1⟩):Nat):Int)*KK+1:=by rw[c4];simp
      rw[e];exact .reg h1 (d6 q h2) (by omega)
    | last L _ h2 h3 h4 =>
     by_cases e:i=L
     ·subst e;omega
     ·have:=h4 i hi e;omega
    | sema h2=>have:=h2 i hi;omega
    | fin _ h2=>have:=h2 i hi;omega
   ·obtain⟨g',w',es,a0,⟨rfl,rfl⟩,a2⟩:=hstep w (RW.refl w);exact a5 a0 (.d1 a2) rfl
  | d2 h =>
   rcases Goes.cases h with hstop|⟨m',rfl,hstep⟩
   ·obtain⟨_,hx⟩:=hstop w (RW.refl w);obtain⟨b3,a3,rfl,rfl⟩:=hmode.isLast hi (by omega);simp only[a7] at hwg;obtain⟨g',a0,m₂,hk⟩:=hx (by simpa using hwg);refine a1 a0 (.refl p.Wg w) hwg (by intro e he;simp at he;subst he;exact bk_cell _ _ rfl) (by intro jx e he;match jx,he with|0,_=>exact .inr (by simp[deafBehind])|jx+1,he=>simp at he) (.d3 hk) rfl (by omega) ?_ (.inl ⟨by omega,by simp[cnt]⟩);have:=ConcN.Mode.last (j:=j) (D:=upd (ds X) i ⟨3,m₂,1⟩) (tag:=tag) i b3 hi (by rw[upd_same];simp) (λa ha e=>by rw[upd_ne (ds X) _ e];exact a3 a ha e);rw[upd_same] at this;simpa using this
   ·obtain⟨g',w',es,a0,⟨rfl,rfl⟩,a2⟩:=hstep w (RW.refl w);exact a5 a0 (.d2 a2) rfl
  | d3 h =>
   rcases Goes.cases h with hstop|⟨m',rfl,hstep⟩
   ·obtain⟨_,hx⟩:=hstop w (RW.refl w);obtain⟨b3,a3,rfl,rfl⟩:=hmode.isLast hi (by omega);simp only[a7] at hwg;obtain⟨g',a0,m₂,hk⟩:=hx (by simpa using hwg);refine a1 a0 (aside_setCell w (stA p.Wg) _) (hwg.setSt 0) (by intro e he;simp at he;subst he;exact bk_cell _ _ rfl) (by intro jx e he;match jx,he with|0,_=>exact .inr (by simp[deafBehind])|jx+1,he=>simp at he) (.d4 hk) rfl (by omega) ?_ (.inl ⟨by omega,by simp[cnt]⟩);have:=ConcN.Mode.last (j:=j) (D:=upd (ds X) i ⟨2,m₂,1⟩) (tag:=tag) i b3 hi (by rw[upd_same];simp) (λa ha e=>by rw[upd_ne (ds X) _ e];exact a3 a ha e);rw[upd_same] at this;simpa using this
   ·obtain⟨g',w',es,a0,⟨rfl,rfl⟩,a2⟩:=hstep w (RW.refl w);exact a5 a0 (.d3 a2) rfl
  | d4 h =>
   rcases Goes.cases h with hstop|⟨m',rfl,hstep⟩
   ·obtain⟨_,e1,hx⟩:=hstop w (RW.refl w);obtain⟨b3,a3,rfl,rfl⟩:=hmode.isLast hi (by omega);simp only[a7] at hwg;obtain⟨g',a0,q,hq⟩:=hx (by simpa using hwg)
    have b6:g'.status=.running:=by
     cases q with
     | zero=>exact absurd hq.2 (by decide)
     | succ q=>exact hq.elim (λx=>absurd x.2 (by decide)) (λx=>x.1)
    refine a9 a0 (aside_setCell w (smA p.Wg) _) (hwg.setSm 1) (es:=semEvents (smA p.Wg)) bk_sem ?_ (.quit hq) (by simp[deafBehind,semEvents]) (by omega) ?_ (.inl ⟨by omega,by simp[cnt]⟩)
    ·intro jx e he;match jx,he with
     | 0,he=>simp[semEvents] at he;subst he;exact .inl rfl
     | 1,_=>exact .inr (by simp[deafBehind,semEvents])
     | 2,_=>exact .inr (by simp[deafBehind,semEvents])
     | 3,he=>simp[semEvents] at he;subst he;exact .inl rfl
     | jx+4,he=>simp[semEvents] at he
    ·intro tag' ht hw;have e6:=hw e1 b6
     have e3:tag'=.w3:=by
      rcases ht with rfl|⟨_,rfl⟩
      ·cases tag'<;>first|rfl|exact b3.elim|exact absurd rfl e6
      ·rfl
     subst e3;simp only[if_true]
     exact .sema λa ha=>by
      by_cases e:a=i
      ·subst e;rw[upd_same]
      ·rw[upd_ne (ds X) _ e];exact a3 a ha e
   ·obtain⟨g',w',es,a0,⟨rfl,rfl⟩,a2⟩:=hstep w (RW.refl w);exact a5 a0 (.d4 a2) rfl
  | quit h =>
   cases m with
   | zero=>rw[h.1] at hrun;cases hrun
   | succ q =>
    rcases h with⟨hf,_⟩|⟨_,g',es,hmute,hstep,hq⟩
    ·rw[hf] at hrun;cases hrun
    ·have b1:∀e∈es,Go.ConcR.Bk p.Wg e:=λe he=>bk_of_mute (hmute e he);have e7:∀jx e,es[jx]?=some e->(MemAct.ofEvent e).touch?=none∨0<deafBehind dd (es.extract 0 jx):=λjx e he=>.inl (touch_mute (hmute e (Array.mem_of_getElem? he)));exact a1 (hstep w) (.refl p.Wg w) hwg b1 e7 (.quit hq) rfl (by omega) (by have:=hmode.same (i:=i) q (deafBehind dd es);rwa [a7] at this) (.inr ⟨rfl,rfl⟩)
end
end Go.Proofs.YtcgkgmmclfeohaaGreatDoor
namespace Go.Proofs.YtcgkgmmclfeohaaGreatDoor
open Go.Conc Go.ConcN
open Go.ConcR (KK wgBlock WgAt stA smA rd wr mk Payload DC0 Bk g_of_ofEvents ofEvent_mk)
def Done(p:L6)(Fin:Goroutine->World->Prop)(m:Machine)(t:Trace):Prop :=
 ∃(gs:Array Goroutine)(a:Goroutine)(w:World)(sl:Option (Nat×Nat)) (q:Nat->Nat) (B':Nat),m=crowd gs w sl/\gs.size=p.m0+p.n/\gs[0]?=some a/\Fin a w/\AE p w ((sumTo p.n p.bit:Nat):Int)/\Leavers p.P t gs q/\Fr p.Sh B' t
theorem IY{p:L6}{ow:Nat->Nat}{h:Nat}{fn:FuncId}{pos:String}{k:Mark}(hk:k=.disable∨k=.enable∨(∃a,k=.acquire a)∨∃a:Addr,a.block=p.Wg/\(k=.read a∨k=.write a)):
  ∀op∈MemOp.ofEvents 0 fn pos #[mk k],∀x,op.act.touch?=some x->UF p ow h 0 x:=λop hop x hx=>by
 obtain⟨e,he,rfl⟩:=Go.Conc.mem_ofEvents hop;simp only[Array.mem_singleton] at he;subst he;rw[ofEvent_mk] at hx;rcases hk with rfl|rfl|⟨a,rfl⟩|⟨a,ha,rfl|rfl⟩<;>simp only[MemAct.touch?,Option.some.injEq,reduceCtorEq] at hx<;>subst hx<;>exact .inl ⟨.inl ⟨a,rfl,ha⟩,by simp,λ_=>rfl⟩
section
variable {p:L6} {Anch Fin:Goroutine->World->Prop} {gs:Array Goroutine} {w w':World} {sl:Option (Nat×Nat)} {j:Nat} {X:Nat->WX} {ow q:Nat->Nat} {tag tag':CTag} {e0 e' f0 f' d0 B b:Nat} {M0:Nat->Prop} {a a':Goroutine} {t:Trace} {st sm st' sm':Int} {es:Array Event}
theorem Ck(o:p.Ok)(ha:gs[0]?=some a)(hcom:EO p j gs w t X ow q d0 M0)(hgo:stepG p.P true a w=.go a' w' es)(hAs:Go.Conc.Aside p.Wg w w')(hwg':WgAt p.ty p.Wg w' st' sm')
  (hok:∀op∈MemOp.ofEvents 0 a.frame.fn a.frame.place es,∀x,op.act.touch?=some x->UF p ow w.heap.size 0 x) (hnr:∀e∈es,e.loc≠.mark (.release (stA p.Wg)))
  (hcs':CS p Anch Fin tag' e' j f' (deafBehind d0 es) M0 a' w') (hmode':ConcN.Mode j (ds X) tag' st' sm')
  (hlt:phi p.n (Vc j (ds X)) tag'+e'<phi p.n (Vc j (ds X)) tag+e0∨(phi p.n (Vc j (ds X)) tag'+e'=phi p.n (Vc j (ds X)) tag+e0/\f'<f0)) :
  ∃m₁ ops μ',runT p.P (crowd gs w sl) 0=(.next m₁,ops)/\
   Lt2 μ' (phi p.n (Vc j (ds X)) tag+e0+Ssum j (ds X)+sumTo j (λi=>(X i).e),f0+2*Fsum j (ds X)+2*sumTo p.m0 q)/\Fl p Anch Fin μ' m₁ (t++ops) :=
 Jz (ow':=ow) o.m0 ha hcom hgo (Ar.wg hAs ⟨_,_,hwg'⟩ o.ne) (λb hb=>.inl hb) ⟨o.wg,o.s⟩ (λ_ _=>rfl) (λb hb=>by rw[hAs.size];exact hcom.m0 b hb)
  (by rw[hAs.size];exact hcom.ti.app o OG λop hop x hx=>⟨.inl rfl,hok op hop x hx⟩) hnr hcs' ((hAs.block _ (Ne.symm o.ne)).trans hcom.sum) hwg' hmode' hlt
theorem CC(o:p.Ok)(ha:gs[0]?=some a)(hcom:EO p j gs w t X ow q d0 M0)(hwg:WgAt p.ty p.Wg w st sm)(hmode:ConcN.Mode j (ds X) tag st sm)(hgo:stepG p.P true a w=.go a' w #[])
  (hcs':CS p Anch Fin tag e0 j f' d0 M0 a' w) (hf:f'<f0) :
  ∃m₁ ops μ',runT p.P (crowd gs w sl) 0=(.next m₁,ops)/\
   Lt2 μ' (phi p.n (Vc j (ds X)) tag+e0+Ssum j (ds X)+sumTo j (λi=>(X i).e),f0+2*Fsum j (ds X)+2*sumTo p.m0 q)/\Fl p Anch Fin μ' m₁ (t++ops) :=
 Ck o ha hcom hgo (.refl p.Wg w) hwg (JD (by simp)) (by simp) hcs' hmode (.inr ⟨rfl,hf⟩)
theorem EO.spawn(h:EO p j gs w t X ow q 0 (T6 b))(o:p.Ok){child:Goroutine}{x y:MemOp}{C e m:Nat}{v:Value}(hx:x.g=0/\x.act=.go (p.m0+j))(hy:y.g=p.m0+j/\y.act=.start)
  (hC:T6 b C) (he:e=0->p.bit j=0) (hc:Wk p j C v e (T6 b) m child w) :
  EO p (j+1) ((gs.setIfInBounds 0 a').push child) w (t ++ #[x,y]) (upd X j ⟨⟨7,m,0⟩,e,C,v,T6 b⟩) (upd ow b (p.m0+j)) q 0 Mt:=by
 have hm:∀op∈#[x,y],op=x∨op=y:=by intro op hop;simpa using hop
 have a4:=o.m0
 have a1:∀op∈#[x,y],op.act≠.mark .disable/\op.act≠.mark .enable:=by
  intro op hop;rcases hm op hop with rfl|rfl
  ·rw[hx.2];exact⟨by simp,by simp⟩
  ·rw[hy.2];exact⟨by simp,by simp⟩
 have hb:=h.m0 b rfl
 have a0:∀k,1<=k->k<p.m0+j->((gs.setIfInBounds 0 a').push child)[k]?=gs[k]?:=λk k1 k2=>by
  rw[Array.getElem?_push_lt (by simp[h.size];omega),← Array.getElem?_eq_getElem,Array.getElem?_setIfInBounds_ne (by omega)]
 refine⟨by simp[h.size];omega,λk k1 k2=>?_,λk hk=>?_,λk hk=>?_,λk hk c hc'=>?_,λc hc'=>hc'.elim,h.low,?_,h.norel.app λop hop=>?_,by rw[Deaf_still t 0 _ a1,h.deaf0],λk hk=>?_,λk hk=>by rw[Deaf_still t _ _ a1];exact h.above k (by omega),λk hk hs=>?_,?_⟩
 ·obtain⟨g,hg,hq⟩:=h.old k k1 k2;exact⟨g,(a0 k k1 (by omega)).trans hg,by rw[Deaf_still t _ _ a1];exact hq⟩
 ·rcases Nat.lt_or_ge k j with hlt|hge
  ·obtain⟨g,hg,a2⟩:=h.wk k hlt;exact⟨g,(a0 _ (by omega) (by omega)).trans hg,by rw[upd_ne X _ (by omega)];exact a2⟩
  ·obtain rfl:k=j:=by omega
   refine⟨child,?_,by rw[upd_same];exact .pre hc⟩;rw[show p.m0+k=(gs.setIfInBounds 0 a').size by rw[Array.size_setIfInBounds,h.size],Array.getElem?_push_size]
 ·rcases Nat.lt_or_ge k j with hlt|hge
  ·rw[upd_ne X _ (by omega)];exact h.mc k hlt
  ·obtain rfl:k=j:=by omega
   rw[upd_same];exact hC
 ·rcases Nat.lt_or_ge k j with hlt|hge
  ·rw[upd_ne X _ (by omega)] at hc';obtain⟨h1,h2,h3⟩:=h.mo k hlt c hc';exact⟨by rw[upd_ne ow _ (λe=>by subst e;omega)];exact h1,h2,h3⟩
  ·obtain rfl:k=j:=by omega
   rw[upd_same] at hc';obtain rfl:c=b:=hc';exact⟨upd_same _ _ _,hb.2⟩
 ·refine h.ti.fork (by omega) (by omega) hx hy h.deaf0 (h.above _ (A3 _)) λc=>?_;by_cases e:c=b
  ·subst e;exact .inr ⟨hb.1,upd_same _ _ _⟩
  ·exact .inl (upd_ne ow _ e)
 ·rcases hm op hop with rfl|rfl
  ·rw[hx.2];simp
  ·rw[hy.2];simp
 ·rw[Deaf_still t _ _ a1];rcases Nat.lt_or_ge k j with hlt|hge
  ·rw[h.deafW k hlt,upd_ne X _ (by omega)]
  ·obtain rfl:k=j:=by omega
   rw[upd_same];exact h.above _ (A3 _)
 ·rcases Nat.lt_or_ge k j with hlt|hge
  ·rw[upd_ne X _ (by omega)] at hs;obtain⟨r,hr,a3⟩:=h.rel k hlt hs;refine⟨r,hr.appNot λop hop=>?_,a3⟩;rcases hm op hop with rfl|rfl
   ·rw[hx.1];omega
   ·rw[hy.1];omega
  ·obtain rfl:k=j:=by omega
   rw[upd_same] at hs;simp at hs
 ·have e1:total p (j+1) (upd X j ⟨⟨7,m,0⟩,e,C,v,T6 b⟩)=total p j X:=by
   simp only[total,sumTo,upd_same];rw[sumTo_congr (g:=λa=>if (X a).e=0 then p.bit a else 0) (λa ha=>by rw[upd_ne X _ (by omega)])];split
   ·rename_i h0;rw[he h0];rfl
   ·rfl
  rw[e1];exact h.sum
theorem EO.leavers(h:EO p p.n gs w t X ow q d0 M0)(hq:AllQuit p.n (ds X)):Leavers p.P t gs (λk=>if k<p.m0 then q k else (X (k-p.m0)).d.fuel):=by
 refine⟨λi g h0 hg=>?_,λk hk=>h.above k (by rw[← h.size];exact hk)⟩;have a2:i<p.m0+p.n:=by have:=(D2.1 hg).1;rw[h.size] at this;exact this
 rcases Nat.lt_or_ge i p.m0 with hi|hi
 ·obtain⟨g',a0,a1⟩:=h.old i h0 hi;rw[hg] at a0;cases a0
  simp only[hi,if_true];exact a1
 ·obtain⟨k,rfl⟩:∃k,i=p.m0+k:=⟨i-p.m0,by omega⟩;obtain⟨g',a0,hs⟩:=h.wk k (by omega);rw[hg] at a0;cases a0
  have h1:(X k).d.stage=1:=hq k (by omega);rw[if_neg (by omega),show p.m0+k-p.m0=k by omega,h.deafW k (by omega)];rw[h1] at hs;generalize (X k).e=ee at hs;cases hs with
  | post _ hs=>exact hs.quits rfl
theorem Yw(o:p.Ok)(ha:gs[0]?=some a)(hcom:EO p p.n gs w t X ow q 1 Mt)(hwg:WgAt p.ty p.Wg w st sm)(hmode:ConcN.Mode p.n (ds X) .w1 st sm)
  (h:Goes p.P true (R0 p Mt) DC0 (Gp p Anch Fin) f0 a w) :
  ∃m₁ ops μ',runT p.P (crowd gs w sl) 0=(.next m₁,ops)/\
   Lt2 μ' (phi p.n (Vc p.n (ds X)) .w1+0+Ssum p.n (ds X)+sumTo p.n (λi=>(X i).e),f0+2*Fsum p.n (ds X)+2*sumTo p.m0 q)/\Fl p Anch Fin μ' m₁ (t++ops):=by
 rcases Goes.cases h with hstop|⟨m',rfl,hstep⟩
 ·obtain⟨_,a1⟩:=hstop w (.refl w);obtain⟨ho,rfl,rfl,_⟩:=hmode.open_inv trivial;have hV:=Vc_le p.n (ds X);have hn:=o.n;obtain⟨a',a0,h0,a2⟩:=a1 (Vc p.n (ds X)) (by omega) (by simpa [pend] using hwg);by_cases hv:Vc p.n (ds X)=0
  ·obtain⟨m₂,hk⟩:=h0 hv;refine Ck o ha hcom a0 (.refl p.Wg w) hwg (CT bk_rd) (norel_of_Bk bk_rd) (tag':=.ke) (.ke hk) ?_ (.inl (by simp only[phi];omega));have e:((Vc p.n (ds X)+pend .w1:Nat):Int)*KK=0:=by rw[hv];simp[pend]
   rw[e];exact .fin trivial (allQuit_of ho hv)
  ·obtain⟨m₂,hk⟩:=a2 hv;exact Ck o ha hcom a0 (.refl p.Wg w) hwg (CT bk_rd) (norel_of_Bk bk_rd) (tag':=.w2 (Vc p.n (ds X))) (.w2 hk) (hmode.reopen trivial trivial rfl (λvs e=>by cases e;omega)) (.inl (by simp only[phi];omega))
 ·obtain⟨a',w',es,a0,⟨rfl,rfl⟩,a3⟩:=hstep w (.refl w);exact CC o ha hcom hwg hmode a0 (.w1 a3) (by omega)
theorem Lo{k:Mark}(hk:∀a,k≠.release a):∀e∈#[mk k],e.loc≠.mark (.release (stA p.Wg)):=λe he hl=>by
 simp only[Array.mem_singleton] at he;subst he;simp only[mk,Loc.mark.injEq] at hl;exact hk _ hl
theorem Wt(o:p.Ok)(hAn:∀g w,Anch g w->∃m,Goes p.P true (R0 p Mt) DC0 (Gp p Anch Fin) m g w)(hf:Fr p.Shun B p.t0)
  (ha:gs[0]?=some a) (hcs:CS p Anch Fin tag e0 j f0 d0 M0 a w) (hcom:EO p j gs w t X ow q d0 M0) (hwg:WgAt p.ty p.Wg w st sm) (hmode:ConcN.Mode j (ds X) tag st sm) (hrun:a.status=.running) :
  (∃m₁ ops,runT p.P (crowd gs w sl) 0=(.next m₁,ops)/\Done p Fin m₁ (t++ops))∨
  (∃m₁ ops μ',runT p.P (crowd gs w sl) 0=(.next m₁,ops)/\
   Lt2 μ' (phi p.n (Vc j (ds X)) tag+e0+Ssum j (ds X)+sumTo j (λi=>(X i).e),f0+2*Fsum j (ds X)+2*sumTo p.m0 q)/\Fl p Anch Fin μ' m₁ (t++ops)):=by
 have d5:=Vc_le j (ds X);have hn:=o.n;have d6:=o.m0;cases hcs with
 | al hr h =>
  rename_i r;rcases Goes.cases h with hstop|⟨m',rfl,hstep⟩
  ·obtain⟨_,a',w',a0,b2,m₂,hk⟩:=hstop w (.refl w);have c7:=b2.size
   refine .inr (Jz (ow':=upd ow w.heap.size 0) (tag':=.sp r 6) (M':=T6 w.heap.size) o.m0 ha hcom a0 (Ar.gr b2 o hcom.low) (λb hb=>hb.elim) ⟨o.wg,o.s⟩ (λb hb=>upd_ne ow _ (by omega)) (λb hb=>?_) ?_ (by simp) (.ow hr hk)
    ((b2.block _ (by have:=hcom.low;have:=o.s;omega)).trans hcom.sum) (hwg.of_block (b2.block _ (by have:=hcom.low;have:=o.wg;omega))) (hmode.reopen trivial trivial rfl (by simp)) (.inl (by simp only[phi];omega)))
   ·obtain rfl:b=w.heap.size:=hb;exact⟨upd_same _ _ _,hcom.low,by omega⟩
   ·rw[Sg,c7];exact hcom.ti.fresh _
  ·obtain⟨a',w',es,a0,⟨rfl,rfl⟩,a2⟩:=hstep w (.refl w);exact .inr (CC o ha hcom hwg hmode a0 (.al hr a2) (by omega))
 | ow hr h =>
  rename_i r b;rcases Goes.cases h with hstop|⟨m',rfl,hstep⟩
  ·obtain⟨_,a',w',es,a0,hD,m₂,hk⟩:=hstop w (.refl w);have d7:=hcom.m0 b rfl;have b7:¬T6 b p.Wg:=λe=>by have:p.Wg=b:=e;have:=o.wg;omega
   have b8:¬T6 b p.S:=λe=>by have:p.S=b:=e;have:=o.s;omega
   have c8:deafBehind 0 es=0:=deafBehind_idle (λe he=>⟨(hD.2 e he).2.1,(hD.2 e he).2.2.1⟩) 0
   refine .inr (Jz (ow':=ow) (tag':=.sp r 5) (M':=T6 b) o.m0 ha hcom a0 (Ar.ow hD.1 b7 b8) (λc hc=>.inr (.inr hc)) ⟨o.wg,o.s⟩ (λ_ _=>rfl) (λc hc=>by rw[hD.1.size];exact hcom.m0 c hc) ?_ (λe he=>(hD.2 e he).2.2.2) (by rw[c8];exact .kd5 hr hk)
    ((hD.1.block _ b8).trans hcom.sum) (hwg.of_block (hD.1.block _ b7)) (hmode.reopen trivial trivial rfl (by simp)) (.inl (by simp only[phi];omega)))
   rw[hD.1.size];exact hcom.ti.app o OG λop hop x hx=>⟨.inl rfl,UI (λc hc=>hcom.m0 c hc) hD.2 op hop x hx⟩
  ·obtain⟨a',w',es,a0,⟨rfl,rfl⟩,a2⟩:=hstep w (.refl w);exact .inr (CC o ha hcom hwg hmode a0 (.ow hr a2) (by omega))
 | kd5 hr h =>
  rcases Goes.cases h with hstop|⟨m',rfl,hstep⟩
  ·obtain⟨_,a',a0,m₂,hk⟩:=hstop w (.refl w);exact .inr (Ck o ha hcom a0 (.refl p.Wg w) hwg (IY (.inl rfl)) (Lo (by simp)) (.a1 hr hk) (hmode.reopen trivial trivial rfl (by simp)) (.inl (by simp only[phi];omega)))
  ·obtain⟨a',w',es,a0,⟨rfl,rfl⟩,a2⟩:=hstep w (.refl w);exact .inr (CC o ha hcom hwg hmode a0 (.kd5 hr a2) (by omega))
 | a1 hr h =>
  rename_i r b;rcases Goes.cases h with hstop|⟨m',rfl,hstep⟩
  ·obtain⟨_,a7⟩:=hstop w (.refl w);obtain⟨ho,rfl,rfl,_⟩:=hmode.open_inv trivial;obtain⟨a',a0,m₂,hk⟩:=a7 (Vc (p.n-(r+1)) (ds X)) (by omega) (by simpa [pend] using hwg);have e:(((Vc (p.n-(r+1)) (ds X):Nat):Int)+1)*KK=((Vc (p.n-(r+1)) (ds X)+1:Nat):Int)*KK:=by simp
   rcases hk with hk|hk
   ·refine .inr (Ck o ha hcom a0 (aside_setCell w (stA p.Wg) _) (hwg.setSt _) (CT bk_rw) (norel_of_Bk bk_rw) (.sr hr hk) ?_ (.inl (by simp only[phi];omega)));rw[e];exact .opn trivial ho (by simp)
   ·refine .inr (Ck o ha hcom a0 (aside_setCell w (stA p.Wg) _) (hwg.setSt _) (CT bk_rw) (norel_of_Bk bk_rw) (.ke2 hr hk) ?_ (.inl (by simp only[phi];omega)));rw[e];exact .opn trivial ho (by simp)
  ·obtain⟨a',w',es,a0,⟨rfl,rfl⟩,a2⟩:=hstep w (.refl w);exact .inr (CC o ha hcom hwg hmode a0 (.a1 hr a2) (by omega))
 | sr hr h =>
  rcases Goes.cases h with hstop|⟨m',rfl,hstep⟩
  ·obtain⟨_,a',a0,m₂,hk⟩:=hstop w (.refl w);exact .inr (Ck o ha hcom a0 (.refl p.Wg w) hwg (IY (.inr (.inr (.inr ⟨_,rfl,.inl rfl⟩)))) (Lo (by simp)) (.ke2 hr hk) (hmode.reopen trivial trivial rfl (by simp)) (.inl (by simp only[phi];omega)))
  ·obtain⟨a',w',es,a0,⟨rfl,rfl⟩,a2⟩:=hstep w (.refl w);exact .inr (CC o ha hcom hwg hmode a0 (.sr hr a2) (by omega))
 | ke2 hr h =>
  rcases Goes.cases h with hstop|⟨m',rfl,hstep⟩
  ·obtain⟨_,a',a0,m₂,hk⟩:=hstop w (.refl w);exact .inr (Ck o ha hcom a0 (.refl p.Wg w) hwg (IY (.inr (.inl rfl))) (Lo (by simp)) (.go hr hk) (hmode.reopen trivial trivial rfl (by simp)) (.inl (by simp only[phi];omega)))
  ·obtain⟨a',w',es,a0,⟨rfl,rfl⟩,a2⟩:=hstep w (.refl w);exact .inr (CC o ha hcom hwg hmode a0 (.ke2 hr a2) (by omega))
 | go hr h =>
  rename_i r b;rcases Goes.cases h with hstop|⟨m',rfl,hstep⟩
  ·obtain⟨_,a',a3,c1,⟨C,v,e,m₂,hC,d3,c2,c3⟩,a6⟩:=hstop w (.refl w);obtain⟨ho,rfl,rfl,_⟩:=hmode.open_inv trivial;have a4:=runT_crowd_spawn (P:=p.P) (sl:=sl) (i:=0) ha (by simpa using c1);rw[hcom.size] at a4;have a5:=hcom.spawn o (a':=a') (x:={g:=0,fn:=a.frame.fn,pos:=a.frame.place,act:=.go (p.m0+(p.n-(r+1)))}) (y:={g:=p.m0+(p.n-(r+1)),fn:=a3.frame.fn,pos:=a.frame.place,act:=.start}) ⟨rfl,rfl⟩ ⟨rfl,rfl⟩ hC c2 c3
   have b5:((MemOp.ofEvents 0 a.frame.fn a.frame.place #[]).push {g:=0,fn:=a.frame.fn,pos:=a.frame.place,act:=.go (p.m0+(p.n-(r+1)))}).push {g:=p.m0+(p.n-(r+1)),fn:=a3.frame.fn,pos:=a.frame.place,act:=.start}=#[({g:=0,fn:=a.frame.fn,pos:=a.frame.place,act:=.go (p.m0+(p.n-(r+1)))}:MemOp),{g:=p.m0+(p.n-(r+1)),fn:=a3.frame.fn,pos:=a.frame.place,act:=.start}]:=by
    rw[ofEvents_eq];simp
   rw[b5] at a4;generalize hX:upd X (p.n-(r+1)) ⟨⟨7,m₂,0⟩,e,C,v,T6 b⟩=X' at a5;have b6:ds X'=upd (ds X) (p.n-(r+1)) ⟨7,m₂,0⟩:=by rw[← hX,Se]
   have ej:p.n-(r+1)+1=p.n-r:=by omega
   have eV:Vc (p.n-r) (ds X')=Vc (p.n-(r+1)) (ds X)+1:=by
    rw[← ej,b6];simp only[Vc,sumTo,upd_same];rw[sumTo_upd_out (ds X) _ cnt (A3 _)];rfl
   have eS:Ssum (p.n-r) (ds X')=Ssum (p.n-(r+1)) (ds X)+7:=by
    rw[← ej,b6];simp only[Ssum,sumTo,upd_same];rw[sumTo_upd_out (ds X) _ WD.stage (A3 _)]
   have eE:sumTo (p.n-r) (λi=>(X' i).e)=sumTo (p.n-(r+1)) (λi=>(X i).e)+e:=by
    rw[← ej,← hX];simp only[sumTo,upd_same];rw[sumTo_upd_out X _ WX.e (A3 _)]
   have c9:OpenSt (p.n-r) (ds X'):=λi hi=>by
    rw[b6];by_cases e:i=p.n-(r+1)
    ·subst e;rw[upd_same];simp
    ·rw[upd_ne (ds X) _ e];exact ho i (by omega)
   have d1:((gs.setIfInBounds 0 a').push a3)[0]?=some a':=by
    rw[Array.getElem?_push_lt (by simp[hcom.size];omega),← Array.getElem?_eq_getElem];rw[Array.getElem?_setIfInBounds_self_of_lt (by rw[hcom.size];omega)]
   rw[ej] at a5;have d2:∀tag',pend tag'=0->((Vc (p.n-(r+1)) (ds X)+pend (.sp r 1):Nat):Int)*KK=((Vc (p.n-r) (ds X')+pend tag':Nat):Int)*KK:=λtag' hp=>by rw[eV,hp];simp[pend]
   have fin:∀(tag':CTag)(m₃:Nat),CS p Anch Fin tag' 0 (p.n-r) m₃ 0 Mt a' w->isOpen tag'->pend tag'=0->(∀vs,tag'≠.w2 vs)->phi p.n (Vc (p.n-r) (ds X')) tag'+9<phi p.n (Vc (p.n-(r+1)) (ds X)) (.sp r 1)->
     ∃m₁ ops μ',runT p.P (crowd gs w sl) 0=(.next m₁,ops)/\
      Lt2 μ' (phi p.n (Vc (p.n-(r+1)) (ds X)) (.sp r 1)+0+Ssum (p.n-(r+1)) (ds X)+sumTo (p.n-(r+1)) (λi=>(X i).e),f0+2*Fsum (p.n-(r+1)) (ds X)+2*sumTo p.m0 q)/\Fl p Anch Fin μ' m₁ (t++ops):=λtag' m₃ hc h1 h2 h3 h4=>by
    refine⟨_,_,(phi p.n (Vc (p.n-r) (ds X')) tag'+0+Ssum (p.n-r) (ds X')+sumTo (p.n-r) (λi=>(X' i).e),m₃+2*Fsum (p.n-r) (ds X')+2*sumTo p.m0 q),a4,Prod.Lex.left _ _ (by omega),
     _,w,sl,p.n-r,X',_,q,tag',0,m₃,0,Mt,a',_,_,rfl,d1,hc,a5,hwg,?_,rfl⟩
    rw[d2 tag' h2];exact .opn h1 c9 (λvs e=>absurd e (h3 vs))
   cases r with
   | zero =>
    obtain⟨m₃,hk⟩:=a6;exact .inr (fin .kd m₃ (.kd hk) trivial rfl (by simp) (by simp only[phi];omega))
   | succ r' =>
    obtain⟨m₃,hk⟩:=a6;exact .inr (fin (.sp r' 7) m₃ (.al (by omega) hk) trivial rfl (by simp) (by simp only[phi];omega))
  ·obtain⟨a',w',es,a0,⟨rfl,rfl⟩,a2⟩:=hstep w (.refl w);exact .inr (CC o ha hcom hwg hmode a0 (.go hr a2) (by omega))
 | kd h =>
  rcases Goes.cases h with hstop|⟨m',rfl,hstep⟩
  ·obtain⟨_,a',a0,m₂,hk⟩:=hstop w (.refl w);exact .inr (Ck o ha hcom a0 (.refl p.Wg w) hwg (IY (.inl rfl)) (Lo (by simp)) (.anch hk) (hmode.reopen trivial trivial rfl (by simp)) (.inl (by simp only[phi];omega)))
  ·obtain⟨a',w',es,a0,⟨rfl,rfl⟩,a2⟩:=hstep w (.refl w);exact .inr (CC o ha hcom hwg hmode a0 (.kd a2) (by omega))
 | anch h =>
  rcases Goes.cases h with hstop|⟨m',rfl,hstep⟩
  ·obtain⟨m₂,hk⟩:=hAn a w (hstop w (.refl w));obtain⟨m₁,ops,μ',h1,h2,h3⟩:=Yw (sl:=sl) o ha hcom hwg (hmode.reopen trivial trivial rfl (by simp)) hk;exact .inr ⟨m₁,ops,μ',h1,lt2_trans h2 (Prod.Lex.left _ _ (by simp only[phi];omega)),h3⟩
  ·obtain⟨a',w',es,a0,⟨rfl,rfl⟩,a2⟩:=hstep w (.refl w);exact .inr (CC o ha hcom hwg hmode a0 (.anch a2) (by omega))
 | w1 h=>exact .inr (Yw o ha hcom hwg hmode h)
 | w2 h =>
  rename_i vs;rcases Goes.cases h with hstop|⟨m',rfl,hstep⟩
  ·obtain⟨_,a7⟩:=hstop w (.refl w);obtain⟨ho,rfl,rfl,c4⟩:=hmode.open_inv trivial;obtain⟨d4,h1⟩:=c4 vs rfl;obtain⟨b3,a8⟩:=a7 (Vc p.n (ds X)) (by omega) (by simpa [pend] using hwg);by_cases e:Vc p.n (ds X)=vs
   ·obtain⟨a',a0,m₂,hk⟩:=b3 e;exact .inr (Ck o ha hcom a0 (aside_setCell w (stA p.Wg) _) (hwg.setSt _) (CT bk_rw) (norel_of_Bk bk_rw) (.sw hk) (.reg trivial ho (by omega)) (.inl (by simp only[phi];omega)))
   ·obtain⟨a',a0,m₂,hk⟩:=a8 e;exact .inr (Ck o ha hcom a0 (.refl p.Wg w) hwg (CT bk_rd) (norel_of_Bk bk_rd) (.anch hk) (hmode.reopen trivial trivial rfl (by simp)) (.inl (by simp only[phi];omega)))
  ·obtain⟨a',w',es,a0,⟨rfl,rfl⟩,a2⟩:=hstep w (.refl w);exact .inr (CC o ha hcom hwg hmode a0 (.w2 a2) (by omega))
 | sw h =>
  rcases Goes.cases h with hstop|⟨m',rfl,hstep⟩
  ·obtain⟨_,a',a0,m₂,hk⟩:=hstop w (.refl w);exact .inr (Ck o ha hcom a0 (.refl p.Wg w) hwg (IY (.inr (.inr (.inr ⟨_,rfl,.inr rfl⟩)))) (Lo (by simp)) (.w3 hk) hmode (.inl (by simp only[phi];omega)))
  ·obtain⟨a',w',es,a0,⟨rfl,rfl⟩,a2⟩:=hstep w (.refl w);exact .inr (CC o ha hcom hwg hmode a0 (.sw a2) (by omega))
 | w3 h =>
  rcases Goes.cases h with hstop|⟨m',rfl,hstep⟩
  ·obtain⟨_,c5,a9,b0⟩:=hstop w (.refl w);cases hmode with
   | opn h1 _ _=>exact h1.elim
   | reg h1 h2 h3=>exact .inr (Ck o ha hcom (a9 ⟨_,hwg⟩) (.refl p.Wg w) hwg (JD (by simp)) (by simp) (.blk hstop) (.reg trivial h2 h3) (.inr ⟨rfl,by omega⟩))
   | last L h1 h2 h3 h4=>exact .inr (Ck o ha hcom (a9 ⟨_,hwg⟩) (.refl p.Wg w) hwg (JD (by simp)) (by simp) (.blk hstop) (.last L trivial h2 h3 h4) (.inr ⟨rfl,by omega⟩))
   | sema h2 =>
    obtain⟨a',a0,m₂,hk⟩:=b0 hwg;exact .inr (Ck o ha hcom a0 (aside_setCell w (smA p.Wg) _) (hwg.setSm 0) (CT bk_sem) (norel_of_Bk bk_sem) (.w4 hk) (.fin trivial h2) (.inl (by simp only[phi];omega)))
   | fin h1 _=>exact h1.elim
  ·obtain⟨a',w',es,a0,⟨rfl,rfl⟩,a2⟩:=hstep w (.refl w);exact .inr (CC o ha hcom hwg hmode a0 (.w3 a2) (by omega))
 | blk h=>simp at hrun
 | w4 h =>
  rcases Goes.cases h with hstop|⟨m',rfl,hstep⟩
  ·obtain⟨_,hx⟩:=hstop w (.refl w);obtain⟨hq,rfl,rfl⟩:=hmode.fin_inv trivial;obtain⟨a',a0,m₂,hk⟩:=hx hwg;exact .inr (Ck o ha hcom a0 (.refl p.Wg w) hwg (CT bk_rd) (norel_of_Bk bk_rd) (.ke hk) (.fin trivial hq) (.inl (by simp only[phi];omega)))
  ·obtain⟨a',w',es,a0,⟨rfl,rfl⟩,a2⟩:=hstep w (.refl w);exact .inr (CC o ha hcom hwg hmode a0 (.w4 a2) (by omega))
 | ke h =>
  rcases Goes.cases h with hstop|⟨m',rfl,hstep⟩
  ·obtain⟨_,a',a0,m₂,hk⟩:=hstop w (.refl w);obtain⟨hq,rfl,rfl⟩:=hmode.fin_inv trivial;exact .inr (Ck o ha hcom a0 (.refl p.Wg w) hwg (IY (.inr (.inl rfl))) (Lo (by simp)) (.acq hk) (.fin trivial hq) (.inl (by simp only[phi];omega)))
  ·obtain⟨a',w',es,a0,⟨rfl,rfl⟩,a2⟩:=hstep w (.refl w);exact .inr (CC o ha hcom hwg hmode a0 (.ke a2) (by omega))
 | acq h =>
  rcases Goes.cases h with hstop|⟨m',rfl,hstep⟩
  ·obtain⟨_,a',a0,b4⟩:=hstop w (.refl w);obtain⟨hq,rfl,rfl⟩:=hmode.fin_inv trivial;have b1:=runT_crowd_go (P:=p.P) (sl:=sl) (i:=0) ha (by simpa using a0);have e1:MemOp.ofEvents 0 a.frame.fn a.frame.place #[mk (.acquire (stA p.Wg))]=#[{g:=0,fn:=a.frame.fn,pos:=a.frame.place,act:=.mark (.acquire (stA p.Wg))}]:=by rw[ofEvents_eq];simp[ofEvent_mk]
   have hL:=hcom.leavers hq
   obtain⟨B',_,c6⟩:=hcom.ti.close o hf hcom.norel hcom.deaf0 (λg h1 h2=>by
    obtain⟨k,rfl⟩:∃k,g=p.m0+k:=⟨g-p.m0,by omega⟩;exact hcom.rel k (by omega) (by have:(X k).d.stage=1:=hq k (by omega);omega)) (y:={g:=0,fn:=a.frame.fn,pos:=a.frame.place,act:=.mark (.acquire (stA p.Wg))}) rfl rfl
   refine .inl ⟨_,_,b1,_,a',w,sl,(λk=>if k<p.m0 then q k else (X (k-p.m0)).d.fuel),B',rfl,by simp[hcom.size],Ln _ _ (by rw[hcom.size];omega),b4,?_,⟨λk x hk hx=>?_,λk hk=>?_⟩,by rw[e1];exact c6⟩
   ·have et:total p p.n X=sumTo p.n p.bit:=sumTo_congr λk hk=>by
     obtain⟨g,_,hs⟩:=hcom.wk k hk;have h1:(X k).d.stage=1:=hq k hk;rw[h1] at hs;generalize hee:(X k).e=ee at hs ⊢
     cases hs with
     | post _ _=>simp
    rw[← et];exact hcom.sum
   ·rw[EZ _ _ (by omega)] at hx;obtain⟨y,hy,rfl⟩:=B6.1 hx;have b9:=hL.old k y hk hy;rw[woken_quitsD b9,Deaf_other t (by omega) _ g_of_ofEvents];exact b9
   ·rw[Deaf_other t (by simp[hcom.size] at hk;omega) _ g_of_ofEvents];exact hL.above k (by simpa using hk)
  ·obtain⟨a',w',es,a0,⟨rfl,rfl⟩,a2⟩:=hstep w (.refl w);exact .inr (CC o ha hcom hwg hmode a0 (.acq a2) (by omega))
end
end Go.Proofs.YtcgkgmmclfeohaaGreatDoor
namespace Go.Proofs.YtcgkgmmclfeohaaGreatDoor
open Go.Conc Go.ConcN
open Go.ConcR (KK wgBlock WgAt stA smA rd wr mk Payload DC0)
section
variable {p:L6} {Anch Fin:Goroutine->World->Prop} {gs:Array Goroutine} {w:World} {j:Nat} {X:Nat->WX} {ow q:Nat->Nat} {tag:CTag} {e0 f0 d0 B:Nat} {M0:Nat->Prop} {a:Goroutine} {t:Trace} {st sm:Int}
theorem Si(hAr:∀g w,Anch g w->g.status=.running)(ha:gs[0]?=some a)(hcs:CS p Anch Fin tag e0 j f0 d0 M0 a w)(hcom:EO p j gs w t X ow q d0 M0)(hmode:ConcN.Mode j (ds X) tag st sm):
  ∃(i:Nat)(g:Goroutine),gs[i]?=some g/\g.status=.running:=by
 rcases hcs.status hAr with⟨hs,_⟩|⟨_,rfl⟩
 ·exact⟨0,a,ha,hs⟩
 ·cases hmode with
  | opn h1 _ _=>exact h1.elim
  | reg _ _ h3 =>
   obtain⟨i,hi,h5⟩:=exists_counted h3;obtain⟨g,hg,hs⟩:=hcom.wk i hi;exact⟨p.m0+i,g,hg,hs.running_of (by simp only[ds] at h5;omega)⟩
  | last L _ h2 h3 _ =>
   obtain⟨g,hg,hs⟩:=hcom.wk L h2;exact⟨p.m0+L,g,hg,hs.running_of (by simp only[ds] at h3;omega)⟩
  | fin h1 _=>exact h1.elim
theorem Yx(hAr:∀g w,Anch g w->g.status=.running)(ha:gs[0]?=some a)(hcs:CS p Anch Fin tag e0 j f0 d0 M0 a w)(hcom:EO p j gs w t X ow q d0 M0):∀g∈gs,awake g:=by
 intro g hg tm;obtain⟨i,hi⟩:=Array.mem_iff_getElem?.1 hg;rcases C4 i with rfl|hpos
 ·rw[ha] at hi;cases hi
  rcases hcs.status hAr with⟨hs,_⟩|⟨hs,_⟩<;>rw[hs]<;>simp
 ·have a1:=(D2.1 hi).1;rw[hcom.size] at a1;rcases Nat.lt_or_ge i p.m0 with h|h
  ·obtain⟨g',a0,hq⟩:=hcom.old i hpos h;rw[hi] at a0;cases a0
   rcases hq.status with h|h<;>rw[h]<;>simp
  ·obtain⟨k,rfl⟩:∃k,i=p.m0+k:=⟨i-p.m0,by omega⟩;obtain⟨g',a0,hs⟩:=hcom.wk k (by omega);rw[hi] at a0;cases a0
   rcases hs.status with h|h<;>rw[h]<;>simp
end
section
variable {p:L6} {Anch Fin:Goroutine->World->Prop} {B:Nat}
theorem Wu(o:p.Ok)(hAr:∀g w,Anch g w->g.status=.running)(hAn:∀g w,Anch g w->∃m,Goes p.P true (R0 p Mt) DC0 (Gp p Anch Fin) m g w)(hf:Fr p.Shun B p.t0):
  ∀μ m t,Fl p Anch Fin μ m t->(∃m₁ ops,stepT p.P m=(.next m₁,ops)/\Done p Fin m₁ (t++ops))∨∃m₁ ops μ',stepT p.P m=(.next m₁,ops)/\Lt2 μ' μ/\Fl p Anch Fin μ' m₁ (t++ops):=by
 rintro μ m t ⟨gs,w,sl,j,X,ow,q,b2,e0,f0,d0,M0,a,st,sm,rfl,ha,a7,a2,b0,a0,rfl⟩;obtain⟨i,g,d,a8,hg,a3,a6⟩:=crowd_pick (P:=p.P) (w:=w) (sl:=sl) (Yx hAr ha a7 a2) (Si hAr ha a7 a2 a0);rw[a6];have a4:=a7.rely (w':=w.at d) ⟨rfl,rfl,rfl,id,λ_ _ _ _=>rfl,λ_ _=>rfl,A3 _,id,id⟩;have a1:=a2.at d;have a5:WgAt p.ty p.Wg (w.at d) st sm:=b0;have b1:=o.m0;rcases C4 i with rfl|hpos
 ·rw[ha] at hg;cases hg
  exact Wt (sl:=a8) o hAn hf ha a4 a1 a5 a0 a3
 ·rcases Nat.lt_or_ge i p.m0 with h|h
  ·exact .inr (AcT o hAr ha a4 a1 a5 a0 hpos h hg a3)
  ·have a9:=(D2.1 hg).1;rw[a2.size] at a9;obtain⟨k,rfl⟩:∃k,i=p.m0+k:=⟨i-p.m0,by omega⟩;exact .inr (Ws o hAr ha a4 a1 a5 a0 (by omega) hg a3)
theorem Wv(o:p.Ok)(hAr:∀g w,Anch g w->g.status=.running)(hAn:∀g w,Anch g w->∃m,Goes p.P true (R0 p Mt) DC0 (Gp p Anch Fin) m g w)(hf:Fr p.Shun B p.t0)(μ:Nat×Nat):
  ∀m t,Fl p Anch Fin μ m t->∃N m' t',runNT p.P N m t=(.next m',t')/\Done p Fin m' t':=by
 induction μ using (Prod.lex Nat.lt_wfRel Nat.lt_wfRel).wf.induction with
 | _ μ ih =>
  intro m t h;rcases Wu o hAr hAn hf μ m t h with⟨m₁,ops,hs,hd⟩|⟨m₁,ops,μ',hs,hlt,hi⟩
  ·exact⟨1,m₁,t++ops,by simp only[runNT,hs],hd⟩
  ·obtain⟨N,m',t',hr,hd⟩:=ih μ' hlt m₁ (t++ops) hi;exact⟨N+1,m',t',by simp only[runNT,hs];exact hr,hd⟩
theorem Ahx(o:p.Ok)(hAr:∀g w,Anch g w->g.status=.running)(hAn:∀g w,Anch g w->∃m,Goes p.P true (R0 p Mt) DC0 (Gp p Anch Fin) m g w)(hf:Fr p.Shun B p.t0)
  {gs:Array Goroutine} {a:Goroutine} {w:World} {sl:Option (Nat×Nat)} {q:Nat->Nat} (hsz:gs.size=p.m0) (ha:gs[0]?=some a) (hL:Leavers p.P p.t0 gs q)
  (hlow:p.Low<=w.heap.size) (hwg:WgAt p.ty p.Wg w 0 0) (hsum:AE p w 0) (h:Sp p Anch p.n a w) :
  ∃N m' t',runNT p.P N (crowd gs w sl) p.t0=(.next m',t')/\Done p Fin m' t':=by
 let X:Nat->WX:=λ_=>⟨⟨0,0,0⟩,0,0,undef,λ_=>False⟩
 have a1:EO p 0 gs w p.t0 X (λ_=>0) q 0 Mt :=
  ⟨by simp[hsz],λi h1 h2=>by
   have a3:i<gs.size:=by omega
   exact⟨gs[i],Array.getElem?_eq_getElem a3,hL.old i _ h1 (Array.getElem?_eq_getElem a3)⟩,λi hi=>by omega,λi hi=>by omega,λi hi=>by omega,λb hb=>hb.elim,hlow,TI.start hf (by omega),(λi hi=>by simp[Trace.act?,Array.getElem?_eq_none hi]),hf.past.hears,λi hi=>by omega,λk hk=>hL.above k (by omega),λi hi=>by omega,hsum⟩
 have a0:∀tag,isOpen tag->pend tag=0->(∀vs,tag≠.w2 vs)->ConcN.Mode 0 (ds X) tag 0 0:=λtag h1 h2 h3=>by
  have:=ConcN.Mode.opn (j:=0) (D:=ds X) h1 (λi hi=>by omega) (λvs e=>absurd e (h3 vs));simpa [Vc,sumTo,h2] using this
 have a2:∃μ,Fl p Anch Fin μ (crowd gs w sl) p.t0:=by
  cases hn:p.n with
  | zero =>
   rw[hn] at h;obtain⟨m,hk⟩:=h;have hc:CS p Anch Fin .kd 0 p.n m 0 Mt a w:=.kd hk;rw[hn] at hc;exact⟨_,gs,w,sl,0,X,_,q,.kd,0,m,0,Mt,a,0,0,rfl,ha,hc,a1,hwg,a0 .kd trivial rfl (by simp),rfl⟩
  | succ r =>
   rw[hn] at h;obtain⟨m,hk⟩:=h;have hc:=CS.al (Fin:=Fin) (show r<p.n by omega) hk;rw[show p.n-(r+1)=0 by omega] at hc;exact⟨_,gs,w,sl,0,X,_,q,.sp r 7,0,m,0,Mt,a,0,0,rfl,ha,hc,a1,hwg,a0 (.sp r 7) trivial rfl (by simp),rfl⟩
 obtain⟨μ,hI⟩:=a2;exact Wv o hAr hAn hf μ _ _ hI
end
end Go.Proofs.YtcgkgmmclfeohaaGreatDoor
namespace Go.Proofs.YtcgkgmmclfeohaaGreatDoor
open Go.Conc Go.ConcN Go.RowKit Go.Conc.Lib Go.ConcR.Gen Go.ConcN.Gen
open Go.ConcR (KK wgBlock WgAt stA smA rd wr mk Payload DC0)
theorem IZ{P:Program}{main:Bool}{R:World->World->Prop}{D:World->World->Array Event->Prop}{Stop:Goroutine->World->Prop}{n m:Nat}{g:Goroutine}{w:World}(h:Goes P main R D Stop n g w)(hm:n<=m):Goes P main R D Stop m g w:=by
 induction hm with
 | refl=>exact h
 | step _ ih=>exact ih.more
theorem FZ{P:Program}{main:Bool}{R R':World->World->Prop}{D D':World->World->Array Event->Prop}{Stop Stop':Goroutine->World->Prop}(hR:∀w w',R' w w'->R w w')(hD:∀w w' es,D w w' es->D' w w' es)(hS:∀g w,Stop g w->Stop' g w){n:Nat}:∀{g:Goroutine} {w:World},Goes P main R D Stop n g w->Goes P main R' D' Stop' n g w:=by
 induction n with
 | zero=>exact λh w₁ h₁=>hS _ _ (h w₁ (hR _ _ h₁))
 | succ n ih =>
  rintro g w (h|⟨hs,h⟩)
  ·exact .inl λw₁ h₁=>hS _ _ (h w₁ (hR _ _ h₁))
  ·refine .inr ⟨hs,λw₁ h₁=>?_⟩;have:=h w₁ (hR _ _ h₁);revert this
   cases stepG P main g w₁<;>simp only[GStep.goes,imp_self]
   exact λ⟨d,x⟩=>⟨hD _ _ _ d,ih x⟩
theorem D5{p:L6}{M:Nat->Prop}{F:World->Prop}(hF2:∀w w',R0 p M w w'->F w->F w'){w w₁:World}(h:F w/\WgLive p.ty p.Wg w)(r:R0 p M w w₁):F w₁/\WgLive p.ty p.Wg w₁:=⟨hF2 _ _ r h.1,r.rk.live h.2⟩
section
variable {L:WgLink} {p:L6} {M:Nat->Prop} {Next:Goroutine->World->Prop} {F:World->Prop} {b₀:Frame} {a₀:Act} {ops₀:Array Oper} {i₀:Nat} {rest₀:List Nat} {k₀:List Item} {cs:List Frame} {mT:Nat}
theorem Alf(H:WgLib p.P L)(hF2:∀w w',R0 p M w w'->F w->F w')(hset:∀w v,F w->F (w.setCell (stA p.Wg) v))
  (hT:∀w,F w->WgLive p.ty p.Wg w->Goes p.P true (R0 p M) DC0 Next mT (G (b₀.at (a₀.put ((ops₀[i₀]?).bind (·.dst)) (.tuple #[])) (.inRegion ops₀ rest₀::k₀)) cs) w)
  (w:World) (hF:F w/\WgLive p.ty p.Wg w) :
  Goes p.P true (R0 p M) DC0 (Cy p M .disable (AaB p M Next)) 12 (G ((base L.add).at ⟨#[Pz p.Wg 0,Iz 1,undef,undef,undef,undef,undef,undef,undef,undef,undef,undef,undef,undef,undef,undef,undef,undef,undef,undef,undef,undef,undef,undef,undef,undef,undef,undef,undef,undef,undef,undef,undef,undef,undef,undef,undef,undef,undef,undef,undef,undef,undef,undef,undef,undef,undef,undef,undef,undef,undef,undef,undef,undef,undef,undef,undef,undef,undef,undef,undef,undef,undef,undef,undef,undef,undef,undef,undef,undef,undef,undef,undef,undef,undef,undef,undef,undef,undef,undef,undef,undef,undef,undef,undef,undef,undef,undef,undef,undef,undef,undef,undef,undef,undef,undef,undef,undef,undef,undef,undef,undef,undef,undef,undef,undef,undef,undef,undef,undef,undef,undef,undef,undef,undef,undef,undef],[]⟩ [.code (body_add L)]) (b₀.at a₀ (.inRegion ops₀ (i₀::rest₀)::k₀)::cs)) w:=by
 lib_facts
 simp only[body_add,addFn,Option.getD_some];u_c stepG_seq (D5 hF2) hF
 u_cond true (D5 hF2) hF
 u_c stepG_seq (D5 hF2) hF
 u_c stepG_seq (D5 hF2) hF
 u_reg (D5 hF2) hF
 u_op (D5 hF2) hF
 u_op (D5 hF2) hF
 u_c stepG_region_end (D5 hF2) hF
 u_cond false (D5 hF2) hF
 u_c stepG_skip (D5 hF2) hF
 u_c stepG_seq (D5 hF2) hF
 u_reg (D5 hF2) hF
 refine Goes.stop (λw₁ h₁=>?_);replace hF:=D5 hF2 hF h₁;clear h₁;refine⟨rfl,_,stepG_mark0 .disable (by simp) rfl rfl (by k_ne) rfl H.f_disable (x_disable_n L) (x_disable_b L) (x_disable_x L) (x_disable_f L),60,?_⟩;walk_nrm
 u_c stepG_region_end (D5 hF2) hF
 u_reg (D5 hF2) hF
 u_defer (D5 hF2) hF
 u_c stepG_region_end (D5 hF2) hF
 u_c stepG_seq (D5 hF2) hF
 u_reg (D5 hF2) hF
 u_op (D5 hF2) hF
 u_c stepG_region_end (D5 hF2) hF
 u_c stepG_seq (D5 hF2) hF
 u_c stepG_seq (D5 hF2) hF
 u_reg (D5 hF2) hF
 u_bub (D5 hF2) hF
 u_c stepG_region_end (D5 hF2) hF
 u_cond false (D5 hF2) hF
 u_c stepG_skip (D5 hF2) hF
 u_c stepG_seq (D5 hF2) hF
 u_reg (D5 hF2) hF
 u_op (D5 hF2) hF
 u_op (D5 hF2) hF
 u_op (D5 hF2) hF
 u_op (D5 hF2) hF
 u_op (D5 hF2) hF
 u_op (D5 hF2) hF
 u_call H.f_uAdd (nm_uAdd L) uAddFn (D5 hF2) hF
 u_c stepG_seq (D5 hF2) hF
 u_reg (D5 hF2) hF
 u_op (D5 hF2) hF
 u_c stepG_region_end (D5 hF2) hF
 u_c stepG_seq (D5 hF2) hF
 u_reg (D5 hF2) hF
 u_op (D5 hF2) hF
 u_op (D5 hF2) hF
 u_op (D5 hF2) hF
 u_op (D5 hF2) hF
 refine Goes.stop (λw₂ h₁=>?_);replace hF:=D5 hF2 hF h₁;clear h₁;refine⟨rfl,λv hv hw=>?_⟩;rcases C4 v with rfl|hvp
 ·replace hw:WgAt p.ty p.Wg w₂ 0 0:=by simpa using hw
  have z:(((0:Nat):Int)+1)*KK=KK:=by simp
  rw[z];have e0:IntKind.u64.wrap (0+4294967296)=KK:=by decide
  refine⟨_,(stepG_add_atomic rfl rfl (by k_ne) rfl H.f_addU64 (x_addU64_n L) (x_addU64_b L) (x_addU64_x L) .u64 (x_addU64_f L) rfl rfl hw.cellSt (hw.thaw 0)).trans (by rw[e0];rfl),80,.inl ?_⟩;replace hF:F (w₂.setCell (stA p.Wg) (.int .u64 KK))/\WgLive p.ty p.Wg (w₂.setCell (stA p.Wg) (.int .u64 KK)):=⟨hset _ _ hF.1,⟨_,_,hw.setSt _⟩⟩;clear hw;simp only[KK] at hF ⊢
  walk_nrm
  u_op (D5 hF2) hF
  u_c stepG_region_end (D5 hF2) hF
  u_c stepG_ret' (D5 hF2) hF
  u_leave1 H.f_uAdd (D5 hF2) hF
  u_op (D5 hF2) hF
  u_c stepG_region_end (D5 hF2) hF
  u_c stepG_seq (D5 hF2) hF
  u_c stepG_seq (D5 hF2) hF
  u_reg (D5 hF2) hF
  u_op (D5 hF2) hF
  u_op (D5 hF2) hF
  u_op (D5 hF2) hF
  u_op (D5 hF2) hF
  u_skip (D5 hF2) hF
  u_skip (D5 hF2) hF
  u_op (D5 hF2) hF
  u_c stepG_region_end (D5 hF2) hF
  u_cond false (D5 hF2) hF
  u_c stepG_skip (D5 hF2) hF
  u_c stepG_seq (D5 hF2) hF
  u_reg (D5 hF2) hF
  u_op (D5 hF2) hF
  u_op (D5 hF2) hF
  u_op (D5 hF2) hF
  u_op (D5 hF2) hF
  u_c stepG_region_end (D5 hF2) hF
  u_c stepG_seq (D5 hF2) hF
  u_reg (D5 hF2) hF
  u_op (D5 hF2) hF
  u_op (D5 hF2) hF
  u_op (D5 hF2) hF
  u_op (D5 hF2) hF
  u_c stepG_region_end (D5 hF2) hF
  u_c stepG_seq (D5 hF2) hF
  u_c stepG_seq (D5 hF2) hF
  u_reg (D5 hF2) hF
  u_op (D5 hF2) hF
  u_op (D5 hF2) hF
  u_op (D5 hF2) hF
  u_op (D5 hF2) hF
  u_op (D5 hF2) hF
  u_op (D5 hF2) hF
  u_op (D5 hF2) hF
  u_op (D5 hF2) hF
  u_op (D5 hF2) hF
  u_op (D5 hF2) hF
  u_c stepG_region_end (D5 hF2) hF
  u_cond true (D5 hF2) hF
  u_reg (D5 hF2) hF
  u_op (D5 hF2) hF
  u_op (D5 hF2) hF
  u_op (D5 hF2) hF
  u_in (D5 hF2) hF
  refine goes_oper_k rfl rfl (by k_ne) (λKx hKx=>?_);have a2:=run_convert_to_unsafe (P:=p.P) H.underlying_tPU32 H.underlying_tUP H.room_tU32 (WgLive.cell1 hF.2).choose_spec;have a0:=λes=>events_convert_to_unsafe (P:=p.P) H.underlying_tPU32 H.underlying_tUP H.room_tU32 (WgLive.cell1 hF.2).choose_spec es;go_simp;refine hKx _ _ ⟨?_,?_⟩
  ·u_none
   intro ex hex;have a3:=mem_listed hex;simp[go_sem,a0] at a3
  clear hKx Kx a2 a0;refine Goes.stop (λw₃ h₁=>?_);replace hF:=D5 hF2 hF h₁;clear h₁;refine⟨rfl,_,stepG_markAt .read (by simp) rfl rfl (by k_ne) rfl H.f_raceRead (x_raceRead_n L) (x_raceRead_b L) (x_raceRead_x L) (x_raceRead_f L) (ad:=⟨p.Wg,1,none⟩) (by simp[Act.eval]),60,?_⟩;walk_nrm
  u_c stepG_region_end (D5 hF2) hF
  u_c stepG_seq (D5 hF2) hF
  u_c stepG_seq (D5 hF2) hF
  u_reg (D5 hF2) hF
  u_op (D5 hF2) hF
  u_op (D5 hF2) hF
  u_c stepG_region_end (D5 hF2) hF
  u_cond false (D5 hF2) hF
  u_c stepG_skip (D5 hF2) hF
  u_c stepG_seq (D5 hF2) hF
  u_c stepG_seq (D5 hF2) hF
  u_reg (D5 hF2) hF
  u_op (D5 hF2) hF
  u_op (D5 hF2) hF
  u_op (D5 hF2) hF
  u_skip (D5 hF2) hF
  u_skip (D5 hF2) hF
  u_op (D5 hF2) hF
  u_op (D5 hF2) hF
  u_skip (D5 hF2) hF
  u_skip (D5 hF2) hF
  u_skip (D5 hF2) hF
  u_skip (D5 hF2) hF
  u_op (D5 hF2) hF
  u_c stepG_region_end (D5 hF2) hF
  u_cond false (D5 hF2) hF
  u_c stepG_skip (D5 hF2) hF
  u_c stepG_seq (D5 hF2) hF
  u_c stepG_seq (D5 hF2) hF
  u_reg (D5 hF2) hF
  u_op (D5 hF2) hF
  u_op (D5 hF2) hF
  u_op (D5 hF2) hF
  u_skip (D5 hF2) hF
  u_skip (D5 hF2) hF
  u_op (D5 hF2) hF
  u_c stepG_region_end (D5 hF2) hF
  u_cond true (D5 hF2) hF
  u_c stepG_ret' (D5 hF2) hF
  refine Goes.stop (λw₄ h₁=>?_);replace hF:=D5 hF2 hF h₁;clear h₁;refine⟨rfl,_,stepG_unwind_entry (v:=.tuple #[]) (evs:=#[mk .enable]) rfl H.f_enable (x_enable_n L) (x_enable_b L) (x_enable_x L) (x_enable_f L) (by simp[Extern.Race.none_]) (by simp[mk]) (by simp[mk]),mT+1,?_⟩;u_leave0 H.f_add (D5 hF2) hF
  exact hT _ hF.1 hF.2
 ·obtain⟨V,hV⟩:∃V:Int,V=(v:Int)+1:=⟨_,rfl⟩;obtain⟨S,hS⟩:∃S:Int,S=V*KK:=⟨_,rfl⟩;have eS:IntKind.u64.wrap ((v:Int)*KK+4294967296)=S:=by rw[IntKind.wrap_u64,hS,hV];simp only[KK];omega
  rw[← hV,← hS];have a1:S / 4294967296=V:=by rw[hS];simp only[KK];omega
  have b1:bits .and .u64 S 2147483648=0:=by rw[hS,hV];have:=st_flag (v+1) 0 (by omega) (by omega);simpa [KK] using this
  have b2:bits .and .u64 S 2147483647=0:=by rw[hS,hV];have:=st_waiters (v+1) 0 (by omega) (by omega);simpa [KK] using this
  have c1:IntKind.i32.wrap V=V:=by rw[IntKind.wrap_i32];omega
  have a4:1<V:=by omega
  have a5:V<2147483648:=by omega
  have q1:(V==1)=false:=by simp;omega
  have q2:decide (V=1)=false:=decide_eq_false (by omega);have q3:decide (V<0)=false:=decide_eq_false (by omega);have q4:decide (0<V)=true:=decide_eq_true (by omega);have q5:(V==0)=false:=by simp;omega
  have q6:decide (V=0)=false:=decide_eq_false (by omega);refine⟨_,(stepG_add_atomic rfl rfl (by k_ne) rfl H.f_addU64 (x_addU64_n L) (x_addU64_b L) (x_addU64_x L) .u64 (x_addU64_f L) rfl rfl hw.cellSt (hw.thaw 0)).trans (by rw[eS];rfl),120,.inr ?_⟩;replace hF:F (w₂.setCell (stA p.Wg) (.int .u64 S))/\WgLive p.ty p.Wg (w₂.setCell (stA p.Wg) (.int .u64 S)):=⟨hset _ _ hF.1,⟨_,_,hw.setSt _⟩⟩;clear hw hS hV eS;walk_nrm
  u_op (D5 hF2) hF
  u_c stepG_region_end (D5 hF2) hF
  u_c stepG_ret' (D5 hF2) hF
  u_leave1 H.f_uAdd (D5 hF2) hF
  u_op (D5 hF2) hF
  u_c stepG_region_end (D5 hF2) hF
  u_c stepG_seq (D5 hF2) hF
  u_c stepG_seq (D5 hF2) hF
  u_reg (D5 hF2) hF
  u_op (D5 hF2) hF
  u_op (D5 hF2) hF
  u_op (D5 hF2) hF
  u_op (D5 hF2) hF
  u_skip (D5 hF2) hF
  u_skip (D5 hF2) hF
  u_op (D5 hF2) hF
  u_c stepG_region_end (D5 hF2) hF
  u_cnd false (D5 hF2) hF
  u_c stepG_skip (D5 hF2) hF
  u_c stepG_seq (D5 hF2) hF
  u_reg (D5 hF2) hF
  u_op (D5 hF2) hF
  u_op (D5 hF2) hF
  u_op (D5 hF2) hF
  u_op (D5 hF2) hF
  u_c stepG_region_end (D5 hF2) hF
  u_c stepG_seq (D5 hF2) hF
  u_reg (D5 hF2) hF
  u_op (D5 hF2) hF
  u_op (D5 hF2) hF
  u_op (D5 hF2) hF
  u_op (D5 hF2) hF
  u_c stepG_region_end (D5 hF2) hF
  u_c stepG_seq (D5 hF2) hF
  u_c stepG_seq (D5 hF2) hF
  u_reg (D5 hF2) hF
  u_op (D5 hF2) hF
  u_op (D5 hF2) hF
  u_op (D5 hF2) hF
  u_op (D5 hF2) hF
  u_op (D5 hF2) hF
  u_op (D5 hF2) hF
  u_op (D5 hF2) hF
  u_op (D5 hF2) hF
  u_op (D5 hF2) hF
  u_op (D5 hF2) hF
  u_c stepG_region_end (D5 hF2) hF
  u_cnd false (D5 hF2) hF
  u_c stepG_skip (D5 hF2) hF
  u_c stepG_seq (D5 hF2) hF
  u_c stepG_seq (D5 hF2) hF
  u_reg (D5 hF2) hF
  u_op (D5 hF2) hF
  u_op (D5 hF2) hF
  u_c stepG_region_end (D5 hF2) hF
  u_cnd false (D5 hF2) hF
  u_c stepG_skip (D5 hF2) hF
  u_c stepG_seq (D5 hF2) hF
  u_c stepG_seq (D5 hF2) hF
  u_reg (D5 hF2) hF
  u_op (D5 hF2) hF
  u_op (D5 hF2) hF
  u_op (D5 hF2) hF
  u_skip (D5 hF2) hF
  u_skip (D5 hF2) hF
  u_op (D5 hF2) hF
  u_op (D5 hF2) hF
  u_skip (D5 hF2) hF
  u_skip (D5 hF2) hF
  u_skip (D5 hF2) hF
  u_skip (D5 hF2) hF
  u_op (D5 hF2) hF
  u_c stepG_region_end (D5 hF2) hF
  u_cnd false (D5 hF2) hF
  u_c stepG_skip (D5 hF2) hF
  u_c stepG_seq (D5 hF2) hF
  u_c stepG_seq (D5 hF2) hF
  u_reg (D5 hF2) hF
  u_op (D5 hF2) hF
  u_op (D5 hF2) hF
  u_op (D5 hF2) hF
  u_skip (D5 hF2) hF
  u_skip (D5 hF2) hF
  u_op (D5 hF2) hF
  u_c stepG_region_end (D5 hF2) hF
  u_cnd true (D5 hF2) hF
  u_c stepG_ret' (D5 hF2) hF
  refine Goes.stop (λw₄ h₁=>?_);replace hF:=D5 hF2 hF h₁;clear h₁;refine⟨rfl,_,stepG_unwind_entry (v:=.tuple #[]) (evs:=#[mk .enable]) rfl H.f_enable (x_enable_n L) (x_enable_b L) (x_enable_x L) (x_enable_f L) (by simp[Extern.Race.none_]) (by simp[mk]) (by simp[mk]),mT+1,?_⟩;u_leave0 H.f_add (D5 hF2) hF
  exact hT _ hF.1 hF.2
end
end Go.Proofs.YtcgkgmmclfeohaaGreatDoor
