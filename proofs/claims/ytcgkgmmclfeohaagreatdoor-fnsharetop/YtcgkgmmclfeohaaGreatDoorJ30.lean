/- The share's goroutines, 4: the starter. -/
import Derived.Test.YtcgkgmmclfeohaaGreatDoorJ27
import Derived.Test.YtcgkgmmclfeohaaGreatDoorJ28
set_option maxRecDepth 100000
set_option maxHeartbeats 4000000
namespace Go.Proofs.YtcgkgmmclfeohaaGreatDoor
open Go.Proofs.Tryz
open Go.Conc Go.ConcN Go.RowKit Go.Conc.Lib Go.ConcR.Gen Go.ConcN.Gen
open Go.ConcR (KK wgBlock WgAt stA smA rd wr mk Payload DC0)
structure SK (p:L6) (W w:World):Prop where
 tape:w.tape=W.tape
 os:w.os=W.os
 output:w.output=W.output
 nv:NV w
 size:p.Low<=w.heap.size
 low:∀b,b<p.Low->b≠p.Wg->b≠p.S->w.heap[b]?=W.heap[b]?
 sum:Fu p w
theorem SK.r0{p:L6}{W:World}{M:Nat->Prop}:∀w w',R0 p M w w'->SK p W w->SK p W w':=λ_ _ r h =>
 ⟨r.tape.trans h.tape,r.os.trans h.os,r.output.trans h.output,r.nv h.nv,B4 h.size r.rk.size,λb h1 h2 h3=>(r.rk.low b h1 h2 h3).trans (h.low b h1 h2 h3),r.rk.sum h.sum⟩
theorem SK.turn{p:L6}{W:World}{Z:Nat->Prop}{w w':World}(t:Ar p Z w w')(hZ:∀b,Z b->b=p.Wg∨b=p.S∨p.Low<=b)(h:SK p W w):SK p W w' :=
 SK.r0 (M:=Mt) _ _ (t.r0 h.size hZ (λ_ hb=>hb.elim)) h
structure SB (p:L6) (W:World) (C j:Nat) (w:World):Prop where
 sk:SK p W w
 lo:p.Low<=C
 box:w.heap[C]?=some (.cells #[.int .i64 j] 3)
theorem SB.r0{p:L6}{W:World}{C j:Nat}:∀w w',R0 p (T6 C) w w'->SB p W C j w->SB p W C j w':=λ_ _ r h=>⟨SK.r0 _ _ r h.sk,h.lo,(r.rk.own C rfl).trans h.box⟩
theorem SK.wg{p:L6}{W:World}(o:p.Ok)(w:World)(a:Addr)(v:Value)(ha:a.block=p.Wg)(hl:WgLive p.ty p.Wg (w.setCell a v))(h:SK p W w):SK p W (w.setCell a v) :=
 h.turn (Ar.wg (by have:=aside_setCell w a v;rwa [ha] at this) hl o.ne) (λb hb=>.inl hb)
theorem Hr{w:World}(h:NV w)(a:Addr)(v:Value):NV (w.setCell a v):=by
 intro b x t hx;simp only[World.setCell,Array.getElem?_modify] at hx;split at hx
 ·obtain⟨ob,ho,he⟩:=B6.1 hx;cases ob<;>simp at he
  exact h _ _ _ ho
 ·exact h b x t hx
theorem SK.set{p:L6}{W:World}(o:p.Ok)(w:World)(a:Addr)(v:Value)(ha:a.block=p.Wg)(h:SK p W w):SK p W (w.setCell a v):=by
 have a0:=aside_setCell w a v;rw[ha] at a0;exact⟨h.tape,h.os,h.output,Hr h.nv a v,by rw[a0.size];exact h.size,λb h1 h2 h3=>(a0.block b h2).trans (h.low b h1 h2 h3),let ⟨s,hs⟩:=h.sum;⟨s,(a0.block _ (Ne.symm o.ne)).trans hs⟩⟩
theorem SB.set{p:L6}{W:World}{C j:Nat}(o:p.Ok)(w:World)(v:Value)(h:SB p W C j w):SB p W C j (w.setCell (stA p.Wg) v) :=
 ⟨h.sk.set o w _ v rfl,h.lo,((aside_setCell w (stA p.Wg) v).block C (λe=>by have:=h.lo;have:=o.wg;simp only[stA] at e;omega)).trans h.box⟩
def bN:Frame:=base 59
noncomputable def Dw:Code:=Tryz.f59.body.getD .skip
noncomputable def LN:Code:=match Dw with | .seq _ (.seq _ (.seq _ (.seq (.seq _ (.block _ (.loop c))) _)))=>c|_=>.skip
noncomputable def RN:Code:=match Dw with | .seq _ (.seq _ (.seq _ (.seq _ r)))=>r|_=>.skip
noncomputable def FP:Array Oper:=match RN with | .seq (.region _ o _) _=>o|_=>#[]
noncomputable def Sr:Code:=match RN with | .seq _ r=>r|_=>.skip
def WC(p:L6)(hB j:Nat)(cs:List Frame)(g:Goroutine):Prop :=
 ∃T:Array Value,g=G (bN.at ⟨T,[]⟩ [.code LN,.inLoop LN,.inBlock 0,.code RN]) cs/\T.size=17/\T[3]?=some (.pointer (some ⟨hB,0,none⟩))/\T[5]?=some (.pointer (some ⟨p.S,0,none⟩))/\T[6]?=some (.pointer (some ⟨p.Wg,0,none⟩))/\T[8]?=some (.int .i64 p.n)/\T[9]?=some (.int .i64 j)
theorem FB(T:Array Value)(h:T.size=17):∃v0 v1 v2 v3 v4 v5 v6 v7 v8 v9 v10 v11 v12 v13 v14 v15 v16:Value,T=#[v0,v1,v2,v3,v4,v5,v6,v7,v8,v9,v10,v11,v12,v13,v14,v15,v16]:=by
 obtain⟨l⟩:=T;simp only[List.size_toArray] at h;match l,h with
 | [v0,v1,v2,v3,v4,v5,v6,v7,v8,v9,v10,v11,v12,v13,v14,v15,v16],_=>exact⟨_,_,_,_,_,_,_,_,_,_,_,_,_,_,_,_,_,rfl⟩
noncomputable def cN(T:Array Value):Frame:=bN.at ⟨T,[]⟩ (.inRegion FP [0]::[.code Sr])
def UN(p:L6)(W:World)(hB:Nat)(cs:List Frame)(g:Goroutine)(w:World):Prop:=∃T:Array Value,T.size=17/\T[5]?=some (.pointer (some ⟨p.S,0,none⟩))/\T[3]?=some (.pointer (some ⟨hB,0,none⟩))/\AnS Nj p (SK p W) (cN T) cs g w
def QC(p:L6)(An:Goroutine->World->Prop):Nat->Goroutine->World->Prop
 | 0=>Cy p Mt .disable An
 | r+1=>L7 p r (Sp p An r)
theorem YN(p:L6)(An:Goroutine->World->Prop)(r:Nat)(g:Goroutine)(w:World):Sp p An r g w↔∃m,Goes p.P true (R0 p Mt) DC0 (QC p An r) m g w:=by cases r<;>exact Iff.rfl
theorem Cy.mono{p:L6}{M:Nat->Prop}{k:Mark}{S S':Goroutine->World->Prop}(h:∀g w,S g w->S' g w){g:Goroutine}{w:World}(hh:Cy p M k S g w):Cy p M k S' g w :=
 let ⟨h1,g',h2,m,h3⟩:=hh;⟨h1,g',h2,m,FZ (λ_ _ r=>r) (λ_ _ _ d=>d) h h3⟩
theorem Ah2:(prog.funcs[bN.fn]?).any (·.norace)=false:=by kernel_rfl
theorem Ah3(a:Addr)(wr:Bool):seen prog bN.fn #[⟨.cell a,wr,false⟩]=#[⟨.cell a,wr,false⟩]:=by
 rw[seen_def,Ah2];simp[seenStep]
theorem OL{s:GStep}{g0:Goroutine}{w0:World}{es0:Array Event}(h:s.goes λg w es=>g=g0/\w=w0/\es=es0):s=.go g0 w0 es0:=by
 cases s with
 | go g w es=>obtain⟨rfl,rfl,rfl⟩:=h;rfl
 | _=>exact h.elim
theorem CI(w:World)(c:Array Value)(e:TypeId):Wp w (w.alloc (.cells c e)):=by
 have hb:∀b,b<w.heap.size->(w.alloc (.cells c e)).heap[b]?=w.heap[b]?:=λb hb=>Below.heap_alloc w _ b hb;have hs:(w.alloc (.cells c e)).heap.size=w.heap.size+1:=World.size_alloc w _;have hx:(w.alloc (.cells c e)).heap[w.heap.size]?=some (.cells c e):=heap_alloc_new w _;refine⟨rfl,rfl,rfl,λh b a t hh=>?_,hs,hb⟩;rcases Nat.lt_trichotomy b w.heap.size with h1|rfl|h1
 ·rw[hb b h1] at hh;exact h b a t hh
 ·rw[hx] at hh;cases hh
 ·rw[Array.getElem?_eq_none (by omega)] at hh;cases hh
section
variable {p:L6} {W:World} {hB:Nat} {cs:List Frame}
theorem BW{w w₁:World}{M:Nat->Prop}(h:SK p W w/\WgLive p.ty p.Wg w)(r:R0 p M w w₁):SK p W w₁/\WgLive p.ty p.Wg w₁:=⟨SK.r0 _ _ r h.1,r.rk.live h.2⟩
theorem PO{w w₁:World}{C j:Nat}(h:SB p W C j w/\WgLive p.ty p.Wg w)(r:R0 p (T6 C) w w₁):SB p W C j w₁/\WgLive p.ty p.Wg w₁:=⟨SB.r0 _ _ r h.1,r.rk.live h.2⟩
theorem Adl(hp:p.P=prog)(o:p.Ok)(hn:p.n<=100)
  (HW:∀j,j<p.n->∀C w,p.Low<=C->Gr p W C j w->∃e m,e<=2/\(e=0->p.bit j=0)/\Wk p j C (Iz j) e (T6 C) m (born prog (JF p.Wg hB C p.S)) w) :
  ∀(r j:Nat),j+r=p.n->∃f,∀(g:Goroutine)(w:World),WC p hB j cs g->SK p W w/\WgLive p.ty p.Wg w->Goes prog true (R0 p Mt) DC0 (QC p (UN p W hB cs) r) f g w:=by
 intro r;induction r with
 | zero =>
  intro j hj;refine⟨9+1+3,?_⟩;rintro g w ⟨T,rfl,hT,t3,t5,t6,t8,t9⟩ hF;obtain⟨v0,v1,v2,v3,v4,v5,v6,v7,v8,v9,b3,b4,b5,b6,b7,b8,b9,rfl⟩:=FB T hT;simp only[List.getElem?_toArray,List.getElem?_cons_succ,List.getElem?_cons_zero,Option.some.injEq] at t3 t5 t6 t8 t9;subst t3 t5 t6 t8 t9;have hA:=λ(a₀:Act) (ops₀:Array Oper) (i₀:Nat) (rest₀:List Nat) (k₀:List Item)=>AaH (L:=Nj) (p:=p) (F:=SK p W) (b₀:=bN) (a₀:=a₀) (ops₀:=ops₀) (i₀:=i₀) (rest₀:=rest₀) (k₀:=k₀) (cs:=cs) (by rw[hp];exact wgl) SK.r0;simp only[hp] at hA;simp only[QC,LN,RN,Dw,body_wait,Tryz.f59,waitFn,Option.getD_some] at hA ⊢
  obtain rfl:j=p.n:=by omega
  have c5:¬((p.n:Int)<(p.n:Int)):=by omega
  u_c stepG_seq BW hF
  u_reg BW hF
  u_op BW hF
  u_c stepG_region_end BW hF
  u_c stepG_seq BW hF
  u_cond false BW hF
  u_exit BW hF
  u_c stepG_seq BW hF
  u_reg BW hF
  u_in BW hF
  refine goes_call rfl rfl (by k_ne) rfl func77 (nm_wait Nj) rfl ⟨by u_nil,?_⟩;walk_nrmf Tryz.f77
  refine FZ (λ_ _ r=>r) (λ_ _ _ d=>d) (λ_ _ y=>Cy.mono (λ_ _ z=>⟨_,?_,?_,?_,z⟩) y) (hA _ _ _ _ _ _ hF)
  ·simp
  ·simp
  ·simp
 | succ r ih =>
  intro j hj;obtain⟨f₁,h₁⟩:=ih (j+1) (by omega);refine⟨12,?_⟩;rintro g w ⟨T,rfl,hT,t3,t5,t6,t8,t9⟩ hF;obtain⟨v0,v1,v2,v3,v4,v5,v6,v7,v8,v9,b3,b4,b5,b6,b7,b8,b9,rfl⟩:=FB T hT;simp only[List.getElem?_toArray,List.getElem?_cons_succ,List.getElem?_cons_zero,Option.some.injEq] at t3 t5 t6 t8 t9;subst t3 t5 t6 t8 t9;have ej:p.n-(r+1)=j:=by omega
  have c6:(j:Int)<(p.n:Int):=by omega
  simp only[QC,LN,RN,Dw,Tryz.f59,Option.getD_some];u_c stepG_seq BW hF
  u_reg BW hF
  u_op BW hF
  u_c stepG_region_end BW hF
  u_c stepG_seq BW hF
  u_cond true BW hF
  u_c stepG_skip BW hF
  u_c stepG_seq BW hF
  u_c stepG_block BW hF
  u_c stepG_seq BW hF
  u_reg BW hF
  u_op BW hF
  refine Goes.stop (λw₁ r₁=>?_);replace hF:=BW hF r₁;clear r₁
  refine⟨rfl,_,_,by rw[hp];exact OL (by
   refine goes_oper_k rfl rfl (by k_ne) (λK hK=>?_);go_simp;exact hK _ _ ⟨rfl,rfl,listed_nil (by simp[go_sem])⟩),CI _ _ _,0,?_⟩
  have a7:=CI w₁ #[Iz 0] 3;have a0:(w₁.alloc (Kz [Iz 0] 3)).heap[w₁.heap.size]?=some (Kz [Iz 0] 3):=heap_alloc_new w₁ _;have a8:p.Low<=w₁.heap.size:=hF.1.size;have hW:WgLive p.ty p.Wg (w₁.alloc (Kz [Iz 0] 3)):=(Ar.gr a7 o hF.1.size).live hF.2;have hK:SK p W (w₁.alloc (Kz [Iz 0] 3)):=hF.1.turn (Ar.gr a7 o hF.1.size) (λ_ hb=>hb.elim);clear hF a7;generalize w₁.alloc (Kz [Iz 0] 3)=w₂ at a0 hW hK ⊢
  generalize w₁.heap.size=C at a0 a8 ⊢
  refine Goes.stop (λw₃ r₃=>?_);have a3:w₃.heap[C]?=some (Kz [Iz 0] 3):=(r₃.rk.own C rfl).trans a0;replace hK:=SK.r0 _ _ r₃ hK;replace hW:=r₃.rk.live hW;clear r₃ a0;have a4:At w₃ C 0 (Iz 0):=by simp[World.cell?,a3]
  have a5:w₃.frozen? ⟨C,0,none⟩=false:=by simp[World.frozen?,a3]
  have c3:¬p.Sh (.cell ⟨C,0,none⟩):=λh=>by have:=o.low h;simp at this;omega
  have a2:=aside_setCell w₃ ⟨C,0,none⟩ (Iz j)
  have a6:(w₃.setCell ⟨C,0,none⟩ (Iz j)).heap[C]?=some (Kz [Iz j] 3):=by
   rw[setCell_eq_setRow w₃ C 0 _ 3 (0,0) _ a3,setRow_heap w₃ C _ _ 3 _ a3];simp
  have a1:Fv (T6 C) w₃ (w₃.setCell ⟨C,0,none⟩ (Iz j)):=⟨a2.tape,a2.os,a2.output,λh=>Hr h _ _,a2.size,λb hb=>a2.block b hb⟩;have b0:¬T6 C p.Wg:=λe=>by have:p.Wg=C:=e;have:=o.wg;omega
  have b1:¬T6 C p.S:=λe=>by have:p.S=C:=e;have:=o.s;omega
  refine⟨rfl,_,w₃.setCell ⟨C,0,none⟩ (Iz j),#[⟨.cell ⟨C,0,none⟩,true,false⟩],by rw[hp];exact OL (by
   refine goes_oper_k rfl rfl (by k_ne) (λK hK=>?_);go_simp;refine hK _ _ ⟨rfl,rfl,?_⟩;unfold listed;simp[go_sem, *];exact Ah3 _ _),⟨a1,λe he=>by simp at he;subst he;exact Fx rfl c3⟩,20,?_⟩
  have hF:SB p W C j (w₃.setCell ⟨C,0,none⟩ (Iz j))/\WgLive p.ty p.Wg (w₃.setCell ⟨C,0,none⟩ (Iz j)) :=
   ⟨⟨hK.turn (Ar.ow a1 b0 b1) (λb hb=>.inr (.inr (by have:b=C:=hb;omega))),a8,a6⟩,(Ar.ow a1 b0 b1).live hW⟩
  generalize w₃.setCell ⟨C,0,none⟩ (Iz j)=w₄ at hF;clear a3 hK hW a4 a5 a2 a6 a1;rw[hp];try walk_nrm
  u_c stepG_region_end PO hF
  u_c stepG_seq PO hF
  u_reg PO hF
  u_in PO hF
  refine goes_call rfl rfl (by k_ne) rfl func73 (nm_add Nj) rfl ⟨by u_nil,?_⟩;walk_nrmf Tryz.f73
  have hA:=λ(a₀:Act) (ops₀:Array Oper) (i₀:Nat) (rest₀:List Nat) (k₀:List Item) (mT:Nat)=>Alf (L:=Nj) (p:=p) (M:=T6 C) (F:=SB p W C j) (Next:=OB p (T6 C) (p.n-(r+1)) (Sp p (UN p W hB cs) r)) (b₀:=bN) (a₀:=a₀) (ops₀:=ops₀) (i₀:=i₀) (rest₀:=rest₀) (k₀:=k₀) (cs:=cs) (mT:=mT) (by rw[hp];exact wgl) SB.r0 (λw v h=>h.set o w v);simp only[hp,body_add,addFn,Option.getD_some] at hA;refine IZ (hA _ _ _ _ _ 6 (λw h1 h2=>?_) _ hF) (by omega);clear hA hF;have hF:=And.intro h1 h2;clear h1 h2;walk_nrm
  u_c stepG_region_end PO hF
  u_reg PO hF
  u_in PO hF
  refine goes_oper_k rfl rfl (by k_ne) (λK hK=>?_);go_simp;refine hK _ _ ⟨by u_none;intro e he;have hm:=mem_listed he;simp[go_sem,Instr.makeFunc] at hm,?_⟩;clear hK K;refine Goes.stop (λw₅ r₅=>?_);replace hF:=PO hF r₅;clear r₅;obtain⟨e,m,c1,c2,a9⟩:=HW j (by omega) C w₅ a8 ⟨⟨hF.2,hF.1.sk.sum,hF.1.box⟩,hF.1.sk.low⟩;try walk_nrm
  refine⟨rfl,_,_,by rw[hp];exact (stepG_spawn (d:=JF p.Wg hB C p.S) (w':=w₅) (f:=.func 74) (c:=#[Pz p.Wg 0,Pz hB 0,Pz C 0,Pz p.S 0]) rfl rfl (by k_ne) (by simp[go_sem,JF,Deferred.ofValue]) rfl).trans (by rw[listed_nil (by simp[go_sem,Deferred.ofValue])]),
   ⟨C,Iz j,e,m,rfl,c1,by rw[ej];exact c2,by rw[ej];exact a9⟩,?_⟩
  have b2:SK p W w₅/\WgLive p.ty p.Wg w₅:=⟨hF.1.sk,hF.2⟩;clear hF a9;have hF:=b2;clear b2;refine (YN _ _ _ _ _).2 ⟨f₁+8,?_⟩;rw[hp];walk_nrm
  u_c stepG_region_end BW hF
  u_c stepG_inBlock BW hF
  u_reg BW hF
  u_op BW hF
  u_op BW hF
  u_c stepG_region_end BW hF
  u_c stepG_inLoop BW hF
  have c4:IntKind.i64.wrap ((j:Int)+1)=((j+1:Nat):Int):=by rw[IntKind.wrap_i64];omega
  rw[c4];exact IZ (h₁ _ _ ⟨_,rfl,by simp,by simp,by simp,by simp,by simp,by simp⟩ hF) (by omega)
end
theorem OC.mono{p:L6}{A A' F:Goroutine->World->Prop}(h:∀g w,A g w->A' g w){v:Nat}{g:Goroutine}{w:World}(hh:OC p A F v g w):OC p A' F v g w :=
 ⟨hh.1,λu hu hw=>⟨(hh.2 u hu hw).1,λe=>let ⟨g',h1,m,h2⟩:=(hh.2 u hu hw).2 e;⟨g',h1,m,FZ (λ_ _ r=>r) (λ_ _ _ d=>d) h h2⟩⟩⟩
theorem Gp.mono{p:L6}{A A' F:Goroutine->World->Prop}(h:∀g w,A g w->A' g w){g:Goroutine}{w:World}(hh:Gp p A F g w):Gp p A' F g w :=
 ⟨hh.1,λu hu hw=>let ⟨g',h1,h2,h3⟩:=hh.2 u hu hw;⟨g',h1,h2,λe=>let ⟨m,h4⟩:=h3 e;⟨m,FZ (λ_ _ r=>r) (λ_ _ _ d=>d) (λ_ _ x=>OC.mono h x) h4⟩⟩⟩
def Ss(p:L6)(V:World)(_hB:Nat)(cs:List Frame)(s:Int)(g:Goroutine)(w:World):Prop :=
 ∃T:Array Value,g=G (bN.at ⟨T,[]⟩ (.inRegion FP []::[.code Sr])) cs/\T.size=17/\T[5]?=some (.pointer (some ⟨p.S,0,none⟩))/\SK p V w/\WgLive p.ty p.Wg w/\AE p w s
section
variable {p:L6} {V:World} {hB:Nat} {cs:List Frame}
theorem Adm{g:Goroutine}{w:World}(h:UN p V hB cs g w):g.status=.running:=by
 obtain⟨T,_,_,_,U,rfl,_⟩:=h;rfl
theorem YO(hp:p.P=prog)(o:p.Ok)(g:Goroutine)(w:World)(h:UN p V hB cs g w):∃m,Goes p.P true (R0 p Mt) DC0 (Gp p (UN p V hB cs) (AaG p (Ss p V hB cs))) m g w:=by
 obtain⟨T,hT,t5,t3,hA⟩:=h
 have a0:∀s w,SK p V w->WgLive p.ty p.Wg w->AE p w s->Goes p.P true AtRel DC0 (Ss p V hB cs s) 0 (G (bN.at ((⟨T,[]⟩:Act).put ((FP[0]?).bind (·.dst)) (.tuple #[])) (.inRegion FP []::[.code Sr])) cs) w:=λs w h1 h3 h2=>Goes.stop λw₁ r=>by
  refine⟨((⟨T,[]⟩:Act).put ((FP[0]?).bind (·.dst)) (.tuple #[])).tmps,?_,?_,?_,SK.r0 (M:=Mt) _ _ (Lp r) h1,(Lp (p:=p) (M:=Mt) r).rk.live h3,by obtain⟨d,rfl⟩:=r;exact h2⟩
  ·simp only[FP,RN,Dw,Tryz.f59,Option.getD_some];rfl
  ·simp only[FP,RN,Dw,Tryz.f59,Option.getD_some];simp[Act.put,hT]
  ·simp only[FP,RN,Dw,Tryz.f59,Option.getD_some];simp[Act.put,t5]
 obtain⟨m,hm⟩:=Ahy (L:=Nj) (p:=p) (F:=SK p V) (Stp:=Ss p V hB cs) (b₀:=bN) (a₀:=⟨T,[]⟩) (ops₀:=FP) (i₀:=0) (rest₀:=[]) (k₀:=[.code Sr]) (cs:=cs) (mT:=0) (by rw[hp];exact wgl) SK.r0 (λw a v ha h=>h.set o w a v ha) a0 g w hA;exact⟨m,FZ (λ_ _ r=>r) (λ_ _ _ d=>d) (λ_ _ y=>Gp.mono (λ_ _ z=>⟨T,hT,t5,t3,z⟩) y) hm⟩
theorem Alg(_hp:p.P=prog){B0:Nat}(hB0:p.S<B0){b₀:Frame}{a₀:Act}{ops₀:Array Oper}{i₀:Nat}{rest₀:List Nat}{k₀:List Item}{cs:List Frame}{s:Int}{g:Goroutine}{w:World}(h:Ss p V hB (b₀.at a₀ (.inRegion ops₀ (i₀::rest₀)::k₀)::cs) s g w):
  Goes prog true AtRel (DE (EvL p.Sh B0)) (λg w=>g=G (b₀.at (a₀.put ((ops₀[i₀]?).bind (·.dst)) (.int .u32 s)) (.inRegion ops₀ rest₀::k₀)) cs/\SK p V w/\WgLive p.ty p.Wg w/\AE p w s) 30 g w:=by
 obtain⟨T,rfl,hT,t5,hF⟩:=h;have rl:∀{w w₁:World},(SK p V w/\WgLive p.ty p.Wg w/\AE p w s)->AtRel w w₁->SK p V w₁/\WgLive p.ty p.Wg w₁/\AE p w₁ s:=λh r=>⟨SK.r0 (M:=Mt) _ _ (Lp r) h.1,(Lp (p:=p) (M:=Mt) r).rk.live h.2.1,by obtain⟨d,rfl⟩:=r;exact h.2.2⟩;obtain⟨v0,v1,v2,v3,v4,v5,v6,v7,v8,v9,a0,a1,a2,a3,a4,a5,a6,rfl⟩:=FB T hT;simp only[List.getElem?_toArray,List.getElem?_cons_succ,List.getElem?_cons_zero,Option.some.injEq] at t5;subst t5;simp only[FP,Sr,RN,Dw,Tryz.f59,Option.getD_some];u_c stepG_region_end rl hF
 u_c stepG_seq rl hF
 u_reg rl hF
 u_call func78 (by kernel_rfl) Tryz.f78 rl hF
 u_c stepG_seq rl hF
 u_reg rl hF
 u_op rl hF
 u_c stepG_region_end rl hF
 u_c stepG_seq rl hF
 u_reg rl hF
 u_op rl hF
 u_op rl hF
 u_op rl hF
 u_in rl hF
 rw[stepG_load_atomic (v:=s) rfl rfl (by k_ne) rfl func109 (by kernel_rfl) (by kernel_rfl) (by kernel_rfl) .u32 (by kernel_rfl) (ad:=⟨p.S,0,none⟩) rfl (by have:=hF.2.2;unfold AE at this;simp[World.cell?,this])];simp only[goes_go];refine⟨λe he=>?_,?_⟩
 ·simp only[Array.mem_singleton] at he;subst he;refine⟨λx hx _=>?_,by simp,by simp,hB0⟩;simp only[ofEvent_cell0,MemAct.touch?,Option.some.injEq] at hx;subst hx;simp
 walk_nrm
 u_op rl hF
 u_c stepG_region_end rl hF
 u_c stepG_ret' rl hF
 u_leave1 func78 rl hF
 u_op rl hF
 u_c stepG_region_end rl hF
 u_c stepG_ret' rl hF
 u_leave1 func59 rl hF
 exact Goes.stop λw₁ r=>⟨rfl,rl hF r⟩
end
theorem Ms{V w:World}(h:AtRel V w)(ob:Obj):AtRel (V.alloc ob) (w.alloc ob)/\w.heap.size=V.heap.size:=by obtain⟨d,rfl⟩:=h;exact⟨⟨d,rfl⟩,rfl⟩
noncomputable def VA(W:World)(fv:Value):World:=W.alloc (.cells #[fv] 78)
noncomputable def VB(W:World)(fv:Value):World:=(VA W fv).alloc (.cells #[.int .u32 0] 136)
noncomputable def VC(W:World)(fv:Value):World:=(VB W fv).alloc (.cells #[.int .u64 0,.int .u32 0] 143)
section
variable {p:L6} {W:World} {cs:List Frame} {f:FuncId} {bd cap:Array Value} {fv:Value}
theorem Lr:(VA W fv).heap.size=W.heap.size+1:=World.size_alloc W _
theorem OM:(VB W fv).heap.size=W.heap.size+2:=(World.size_alloc _ _).trans (by rw[Lr])
theorem Adn:(VC W fv).heap.size=W.heap.size+3:=(World.size_alloc _ _).trans (by rw[OM])
theorem Ah4(hfv:fv=.func (.func f) bd cap)(hS:p.S=W.heap.size+1)(hWg:p.Wg=W.heap.size+2):
  Goes prog true AtRel (DE λ_=>False) (λg w=>WC p W.heap.size 0 cs g/\AtRel (VC W fv) w) 30 (G (Frame.enter prog 59 #[Iz p.n,fv] .normal) cs) W:=by
 have e:Frame.enter prog 59 #[Iz p.n,fv] .normal=bN.at ⟨#[Iz p.n,fv,undef,undef,undef,undef,undef,undef,undef,undef,undef,undef,undef,undef,undef,undef,undef],[]⟩ [.code Dw]:=by
  simp[Frame.enter,Frame.at,func59,bN,base,Dw,Tryz.f59]
 rw[e];simp only[Dw,Tryz.f59,Option.getD_some];have rl:∀{V w w₁:World},AtRel V w->AtRel w w₁->AtRel V w₁:=λh r=>atRel_trans _ _ _ h r;have hF:AtRel W W:=atRel_refl W;u_c stepG_seq rl hF
 u_reg rl hF
 subst hfv;u_in rl hF;refine goes_oper_k rfl rfl (by k_ne) (λK hK=>?_);go_simp;refine hK _ _ ⟨λe he=>(by have hm:=mem_listed he;simp[go_sem, *] at hm),?_⟩;clear hK K;replace hF:=Ms hF (Kz [.func (.func f) bd cap] 78);rw[hF.2];replace hF:=hF.1
 u_op rl hF
 u_c stepG_region_end rl hF
 u_c stepG_seq rl hF
 u_reg rl hF
 u_in rl hF;refine goes_oper_k rfl rfl (by k_ne) (λK hK=>?_);go_simp;refine hK _ _ ⟨λe he=>(by have hm:=mem_listed he;simp[go_sem, *] at hm),?_⟩;clear hK K;replace hF:=Ms hF (Kz [.int .u32 0] 136);rw[hF.2];replace hF:=hF.1
 u_c stepG_region_end rl hF
 u_c stepG_seq rl hF
 u_reg rl hF
 u_in rl hF;refine goes_oper_k rfl rfl (by k_ne) (λK hK=>?_);go_simp;refine hK _ _ ⟨λe he=>(by have hm:=mem_listed he;simp[go_sem, *] at hm),?_⟩;clear hK K;replace hF:=Ms hF (Kz [.int .u64 0,.int .u32 0] 143);rw[hF.2];replace hF:=hF.1
 u_c stepG_region_end rl hF
 u_c stepG_seq rl hF
 u_c stepG_seq rl hF
 u_reg rl hF
 u_op rl hF
 u_op rl hF
 u_c stepG_region_end rl hF
 u_c stepG_block rl hF
 u_c stepG_loop rl hF
 exact Goes.stop λw₁ r=>⟨⟨_,rfl,by simp,by simp,by simp[hS],by simp[hWg],by simp,by simp⟩,rl hF r⟩
end
theorem JK(hb:Nat->Bool):∀n,sumTo n (λj=>if hb j then 2 ^ j else 0)<2 ^ n
 | 0=>by simp[sumTo]
 | n+1=>by
  have:=JK hb n;simp only[sumTo,Nat.pow_succ];split<;>omega
structure Aft (X:Nat->Prop) (W w:World):Prop where
 tape:w.tape=W.tape
 os:w.os=W.os
 output:w.output=W.output
 base:M1 (λb=>X b∨b=W.heap.size+1∨b=W.heap.size+2) w
 size:W.heap.size+3<=w.heap.size
 low:∀b,b<W.heap.size->w.heap[b]?=W.heap[b]?
def Lt(Shun:Loc->Prop)(W:World)(n:Nat)(hb:Nat->Bool)(fv:Value):Prop :=
 ∀p:L6,p.P=prog->p.ty=143->p.tS=136->p.Ok->p.Low=W.heap.size+3->p.Wg=W.heap.size+2->p.S=W.heap.size+1->p.Shun=Shun->(∀j,p.bit j=if hb j then 2 ^ j else 0)->
  ∀j,j<n->∀C w,p.Low<=C->Gr p (VC W fv) C j w->∃e m,e<=2/\(e=0->p.bit j=0)/\Wk p j C (.int .i64 j) e (T6 C) m (born prog (JF p.Wg W.heap.size C p.S)) w
theorem WE{X:Nat->Prop}{Shun:Loc->Prop}{Post:Value->World->Prop}(hX:∀l,Shun l->∃a,l=.cell a/\X a.block){W:World}(hbW:M1 X W){n:Nat}(hn:n<=5){hb:Nat->Bool}{f:FuncId}{bd cap:Array Value}
  (HW:Lt Shun W n hb (.func (.func f) bd cap))
  {gs:Array Goroutine} {sl:Option (Nat×Nat)} {t:Trace} {b₀:Frame} {a₀:Act} {ops₀:Array Oper} {i₀:Nat} {rest₀:List Nat} {k₀:List Item} {cs:List Frame}
  (hh:G6 prog Shun gs (G (Frame.enter prog 59 #[Iz n,.func (.func f) bd cap] .normal) (b₀.at a₀ (.inRegion ops₀ (i₀::rest₀)::k₀)::cs)) t)
  (k:∀gs' w' sl' t',G6 prog (λl=>Shun l∨ShN (W.heap.size+2) l∨ShN (W.heap.size+1) l) gs' (G (b₀.at (a₀.put ((ops₀[i₀]?).bind (·.dst)) (.int .u32 ((sumTo n (λj=>if hb j then 2 ^ j else 0):Nat):Int))) (.inRegion ops₀ rest₀::k₀)) cs) t'->Aft X W w'->E7 prog Post (crowd gs' w' sl') t') :
  E7 prog Post (crowd gs W sl) t:=by
 let p0:Trace->Nat->L6:=λt0 m0=>{P:=prog,ty:=143,tS:=136,Wg:=W.heap.size+2,S:=W.heap.size+1,Low:=W.heap.size+3,m0,n,bit:=λj=>if hb j then 2 ^ j else 0,Shun,t0}
 refine P5 (B0:=0) (λ_ _ _ h e he=>(h e he).elim) hh (Ah4 (p:=p0 #[] 0) (f:=f) (bd:=bd) (cap:=cap) rfl rfl rfl) λgs1 a1 w1 sl1 t1 hh1 hst=>?_;obtain⟨a7,b0⟩:=hst;obtain⟨q1,b8⟩:=hh1.leave;obtain⟨B1,b9⟩:=hh1.fr;have b3:0<gs1.size:=(D2.1 hh1.zero).1;obtain⟨p,a0⟩:∃p,p=p0 t1 gs1.size:=⟨_,rfl⟩;have a6:WC p W.heap.size 0 (b₀.at a₀ (.inRegion ops₀ (i₀::rest₀)::k₀)::cs) a1:=by rw[a0];exact a7
 have o:p.Ok:=by
  subst a0;refine⟨by simp[p0],by simp[p0],by simp[p0],b3,λl hl=>?_,by simp only[p0];omega,?_⟩
  ·obtain⟨a,rfl,ha⟩:=hX l hl;have:=hbW.old _ ha;exact⟨a,rfl,by simp only[p0];omega,by simp only[p0];omega,by simp only[p0];omega⟩
  ·have h1:=JK hb n;have h2:2 ^ n<=2 ^ 5:=Nat.pow_le_pow_right (by omega) hn;show sumTo n (λj=>if hb j then 2 ^ j else 0)<4294967296
   omega
 have hV:∀b,b<W.heap.size->(VC W (.func (.func f) bd cap)).heap[b]?=W.heap[b]?:=λb hb=>by
  unfold VC VB VA;rw[Below.heap_alloc _ _ _ (by rw[World.size_alloc,World.size_alloc];omega),Below.heap_alloc _ _ _ (by rw[World.size_alloc];omega),Below.heap_alloc _ _ _ hb]
 have vS:(VC W (.func (.func f) bd cap)).heap[W.heap.size+1]?=some (Kz [.int .u32 0] 136):=by
  unfold VC;rw[Below.heap_alloc _ _ _ (by rw[OM];omega)];unfold VB;have:=heap_alloc_new (VA W (.func (.func f) bd cap)) (Kz [.int .u32 0] 136);rwa [Lr] at this
 have vW:(VC W (.func (.func f) bd cap)).heap[W.heap.size+2]?=some (Kz [.int .u64 0,.int .u32 0] 143):=by
  unfold VC;have:=heap_alloc_new (VB W (.func (.func f) bd cap)) (Kz [.int .u64 0,.int .u32 0] 143);rwa [OM] at this
 have vN:NV (VC W (.func (.func f) bd cap)):=by
  unfold VC VB VA;exact (CI _ _ _).nv ((CI _ _ _).nv ((CI _ _ _).nv hbW.pend))
 have b7:SK p (VC W (.func (.func f) bd cap)) w1/\WgLive p.ty p.Wg w1:=by
  obtain⟨d,rfl⟩:=b0;subst a0;exact⟨⟨rfl,rfl,rfl,vN,Nat.le_of_eq Adn.symm,λ_ _ _ _=>rfl,⟨0,vS⟩⟩,⟨0,0,vW⟩⟩
 have b4:AE p w1 0:=by obtain⟨d,rfl⟩:=b0;subst a0;exact vS
 have c6:Go.ConcR.WgAt p.ty p.Wg w1 0 0:=by obtain⟨d,rfl⟩:=b0;subst a0;exact vW
 obtain⟨m,hm⟩:=Adl (p:=p) (W:=VC W (.func (.func f) bd cap)) (hB:=W.heap.size) (cs:=b₀.at a₀ (.inRegion ops₀ (i₀::rest₀)::k₀)::cs) (by rw[a0]) o (by rw[a0];show n<=100;omega)
  (λj hj=>HW p (by rw[a0]) (by rw[a0]) (by rw[a0]) o (by rw[a0]) (by rw[a0]) (by rw[a0]) (by rw[a0]) (by rw[a0];intro j;rfl) j (by rw[a0] at hj;exact hj)) p.n 0 (by omega)
 have c7:Sp p (UN p (VC W (.func (.func f) bd cap)) W.heap.size (b₀.at a₀ (.inRegion ops₀ (i₀::rest₀)::k₀)::cs)) p.n a1 w1:=(YN _ _ _ _ _).2 ⟨m,by
  have:=hm a1 w1 a6 b7;rw[show p.P=prog by rw[a0]];exact this⟩
 have c8:p.t0=t1:=by rw[a0]
 obtain⟨N,m',t',hr,c1,a2,w2,d4,q2,B2,rfl,c2,c3,b1,a8,c4,c5⟩:=Ahx (p:=p) (Fin:=AaG p (Ss p (VC W (.func (.func f) bd cap)) W.heap.size (b₀.at a₀ (.inRegion ops₀ (i₀::rest₀)::k₀)::cs))) o (λg w h=>Adm h) (λg w h=>YO (by rw[a0]) o g w h) (B:=B1) (by rw[a0];exact b9) (gs:=gs1) (a:=a1) (w:=w1) (sl:=sl1) (q:=q1) (by rw[a0]) hh1.zero (by rw[a0];exact b8)
  b7.1.size c6 b4 c7
 rw[show p.P=prog by rw[a0],c8] at hr;refine E7.of_run hr ?_;have c9:G6 prog p.Sh c1 a2 t':=⟨c3,⟨q2,by rw[show prog=p.P by rw[a0]];exact c4⟩,⟨B2,c5⟩⟩;obtain⟨m2,b6⟩:=b1 _ a8;rw[show p.P=prog by rw[a0]] at b6;refine P5 (B0:=0) (λ_ _ _ h e he=>by rw[h.2] at he;simp at he) c9 b6 λgs3 a3 w3 sl3 t3 hh3 hst3=>?_;refine P5 (D:=DE (EvL p.Sh (p.S+1))) (B0:=p.S+1) (λ_ _ _ h=>h) hh3 (Alg (by rw[a0]) (Nat.lt_succ_self _) hst3) λgs4 a4 w4 sl4 t4 hh4 hst4=>?_;obtain⟨rfl,a5,b2,a9⟩:=hst4;have d0:p.Sh=(λl=>Shun l∨ShN (W.heap.size+2) l∨ShN (W.heap.size+1) l):=by subst a0;rfl
 have b5:sumTo p.n p.bit=sumTo n (λj=>if hb j then 2 ^ j else 0):=by subst a0;rfl
 have d1:p.Low=W.heap.size+3:=by rw[a0]
 have d2:p.Wg=W.heap.size+2:=by rw[a0]
 have hS:p.S=W.heap.size+1:=by rw[a0]
 rw[d0,b5] at hh4;refine k gs4 w4 sl4 t4 hh4 ⟨a5.tape,a5.os,a5.output,⟨λb hb=>?_,λb hb=>?_,a5.nv⟩,by have:=a5.size;omega,λb hb=>(a5.low b (by omega) (by omega) (by omega)).trans (hV b hb)⟩
 ·have:=a5.size;rcases hb with hb|hb|hb
  ·have:=hbW.old b hb;omega
  ·omega
  ·omega
 ·rcases hb with hb|rfl|rfl
  ·have d3:=hbW.old b hb;obtain⟨c,e,hc⟩:=hbW.cov b hb;exact⟨c,e,((a5.low b (by omega) (by omega) (by omega)).trans (hV b d3)).trans hc⟩
  ·rw[← hS];exact⟨_,_,a9⟩
  ·obtain⟨st,sm,hx⟩:=b2;rw[← d2];exact⟨_,_,hx⟩
theorem UO(hb:Nat->Bool):∀n k,k<n->(sumTo n (λj=>if hb j then 2 ^ j else 0)).testBit k=hb k
 | 0,k,h=>by omega
 | n+1,k,h=>by
  have hlt:=JK hb n;simp only[sumTo];by_cases hk:k=n
  ·subst hk;cases hb k with
   | true=>rw[Nat.add_comm];simp[Nat.testBit_two_pow_add_eq,Nat.testBit_lt_two_pow hlt]
   | false=>simp[Nat.testBit_lt_two_pow hlt]
  ·rw[← UO hb n k (by omega)];cases hb n with
   | true=>simp only[if_true];rw[Nat.add_comm,Nat.testBit_two_pow_add_gt (by omega)]
   | false=>simp
theorem Afc(a b:Value):Frame.enter prog 59 #[a,b] .normal=bN.at ⟨#[a,b,undef,undef,undef,undef,undef,undef,undef,undef,undef,undef,undef,undef,undef,undef,undef],[]⟩ [.code Dw]:=by
 simp[Frame.enter,Frame.at,func59,bN,base,Dw,Tryz.f59]
theorem X7{Shun:Loc->Prop}{a:Addr}{B0:Nat}(hM:a.block<B0)(hs:¬Shun (.cell a)):EvL Shun B0 ⟨.cell a,false,false⟩:=by
 refine⟨λx hx h=>?_,by simp,by simp,hM⟩;simp only[Go.ConcR.ofEvent_cell,MemAct.touch?,Option.some.injEq] at hx;subst hx;exact absurd h hs
noncomputable def bP:Frame:=base 42
noncomputable def Np:Array Oper:=match FO with | .seq _ (.seq (.region _ o _) _)=>o|_=>#[]
def YP(tb:Nat)(fv x5 x9 x10 x11 x12 x13 x14 x15:Value):Array Value:=#[.pointer (some ⟨tb,0,none⟩),fv,undef,undef,.slice none 0 0,x5,undef,undef,undef,x9,x10,x11,x12,x13,x14,x15,undef,undef,undef,undef,undef,undef,undef,undef,undef,undef,undef,undef,undef,undef,undef,undef,undef,undef,undef,undef,undef,undef]
section
variable {X:Nat->Prop} {Shun:Loc->Prop} {W:World} {tb n cap:Nat} {ra:Option Addr} {f:FuncId} {bd cp:Array Value} {c:Frame} {cs:List Frame}
theorem Ah5(hX:Y9 Shun X){τ:Nat->Question->Nat}{d:Nat}(hc:(E0 X W τ d).cell? ⟨tb,0,none⟩=some (Vz ra n cap)):
  Goes prog true AtRel (DE (EvL Shun W.heap.size)) (λg w=>∃x9 x10 x11 x12 x13 x14,g=G (Frame.enter prog 59 #[Iz n,.func (.func f) bd cp] .normal) (bP.at ⟨YP tb (.func (.func f) bd cp) undef x9 x10 x11 x12 x13 x14 undef,[]⟩ (.inRegion Np [6,7]::[.code RP])::c::cs)/\AtRel W w) 30
   (G (Frame.enter prog 42 #[Pz tb 0,.func (.func f) bd cp] .normal) (c::cs)) W:=by
 obtain⟨hc,hx⟩:=AA hc;have a0:=World.block_lt_of_cell? W _ hc;have a1:¬Shun (.cell ⟨tb,0,none⟩):=λh=>by obtain⟨a,e,ha⟩:=hX _ h;cases e;exact hx ha
 have e:Frame.enter prog 42 #[Pz tb 0,.func (.func f) bd cp] .normal=bP.at ⟨#[Pz tb 0,.func (.func f) bd cp,undef,undef,undef,undef,undef,undef,undef,undef,undef,undef,undef,undef,undef,undef,undef,undef,undef,undef,undef,undef,undef,undef,undef,undef,undef,undef,undef,undef,undef,undef,undef,undef,undef,undef,undef,undef],[]⟩ [.code FO]:=by
  simp[Frame.enter,Frame.at,func42,bP,base,FO,Tryz.f42]
 rw[e];simp only[YP,Np,RP,FO,Tryz.f42,Option.getD_some];have rl:∀{V w w₁:World},AtRel V w->AtRel w w₁->AtRel V w₁:=λh r=>atRel_trans _ _ _ h r;have hF:AtRel W W:=atRel_refl W;u_c stepG_seq rl hF
 u_reg rl hF
 u_op rl hF
 u_c stepG_region_end rl hF
 u_c stepG_seq rl hF
 u_reg rl hF
 u_op rl hF
 u_op rl hF
 u_op rl hF
 u_in rl hF
 refine goes_oper_k rfl rfl (by k_ne) (λK hK=>?_);have a2:(‹World›).cell? ⟨tb,0,none⟩=some (Vz ra n cap):=by obtain⟨d,rfl⟩:=hF;exact hc
 go_simp;refine hK _ _ ⟨λe he=>?_,?_⟩
 ·have hm:=mem_listed he;simp[go_sem, *] at hm;subst hm;exact X7 a0 a1
 clear hK K a2;try walk_nrm
 u_op rl hF
 u_op rl hF
 u_in rl hF
 refine goes_call rfl rfl (by k_ne) rfl func59 (by kernel_rfl) rfl ⟨λe he=>by simp at he,?_⟩;walk_nrmf Tryz.f59
 refine Goes.stop λw₁ r=>⟨Pz tb 0,Pz tb 0,Pz tb 0,Vz ra n cap,Iz n,.func (.func f) bd cp,?_,rl hF r⟩;rw[Afc];simp only[Dw,Tryz.f59,Option.getD_some];rfl
theorem Alh{fv x9 x10 x11 x12 x13 x14 s:Value}(w:World):
  Goes prog true AtRel (DE λ_=>False) (λg w'=>g=G (bP.at ⟨YP tb fv s x9 x10 x11 x12 x13 x14 s,[]⟩ [.code RP]) (c::cs)/\AtRel w w') 5
   (G (bP.at ((⟨YP tb fv undef x9 x10 x11 x12 x13 x14 undef,[]⟩:Act).put ((Np[6]?).bind (·.dst)) s) (.inRegion Np [7]::[.code RP])) (c::cs)) w:=by
 simp only[YP,Np,RP,FO,Tryz.f42,Option.getD_some];have rl:∀{V w w₁:World},AtRel V w->AtRel w w₁->AtRel V w₁:=λh r=>atRel_trans _ _ _ h r;have hF:AtRel w w:=atRel_refl w;walk_nrm
 u_op rl hF
 u_c stepG_region_end rl hF
 exact Goes.stop λw₁ r=>⟨rfl,rl hF r⟩
end
theorem Ah6:M6 prog (λg=>([]:List Nat).contains g):=Aa9 (by kernel_rfl)
theorem AaQ{Shun:Loc->Prop}{W:World}{n:Nat}{hb:Nat->Bool}{fv:Value}(h:Lt Shun W n hb fv)(d:Nat):Lt Shun (W.at d) n hb fv :=
 λp h1 h2 h3 h4 h5 h6 h7 h8 h9 j hj C w hC hW=>h p h1 h2 h3 h4 h5 h6 h7 h8 h9 j hj C w hC ⟨hW.tk,hW.low⟩
theorem Aft.below{X:Nat->Prop}{W w:World}(h:Aft X W w)(τ:Nat->Question->Nat)(d:Nat):Below W.heap.size (E0 X W τ d) (E0 (λb=>X b∨b=W.heap.size+1∨b=W.heap.size+2) w τ d) :=
 JG h.os h.output (by have:=h.size;omega) h.low (λb hb=>⟨λhx=>by rcases hx with hx|hx|hx<;>first|exact hx|omega,.inl⟩) τ d
theorem AaR{X:Nat->Prop}{Shun:Loc->Prop}{W:World}{tb:Nat}{tg:List BA}{ts:List Tr}{hb:Nat->Bool}{f:FuncId}{bd cp:Array Value}(hX:Y9 Shun X)(hbW:M1 X W)(hT:∀τ d,Bo (E0 X W τ d) tb tg ts)(h5:ts.length<=5)(HW:Lt Shun W ts.length hb (.func (.func f) bd cp)):
  AB prog 42 #[.pointer (some ⟨tb,0,none⟩),.func (.func f) bd cp] X Shun W λv u=>G3 u W.heap.size v (pk hb (ts.map (·.1.nm)) ts.length):=by
 intro Post c cs gs sl t hh k
 obtain⟨ra,rc,hc⟩:∃ra rc,(E0 X W (λ_ _=>0) 0).cell? ⟨tb,0,none⟩=some (.slice ra ts.length rc):=by
  obtain⟨rv,hC,a0⟩:=hT (λ_ _=>0) 0;have t0:=hC.1 0 _ rfl;rcases a0.2 with⟨h0,h1⟩|⟨g,cap,cur,hv,_⟩
  ·exact⟨none,0,by rw[t0,h0,h1]⟩
  ·exact⟨_,_,by rw[t0,hv]⟩
 refine P5 (D:=DE (EvL Shun W.heap.size)) (B0:=W.heap.size) (λ_ _ _ h=>h) hh (Ah5 hX hc) λgs1 a1 w1 sl1 t1 hh1 hst=>?_;obtain⟨x9,a9,b0,b1,b2,b3,rfl,d1,rfl⟩:=hst;refine WE hX (W:=W.at d1) (hbW.at d1) h5 (AaQ HW d1) hh1 λgs2 w2 sl2 t2 hh2 ha=>?_;refine P5 (D:=DE λ_=>False) (B0:=0) (λ_ _ _ h e he=>(h e he).elim) hh2 (Alh w2) λgs3 a3 w3 sl3 t3 hh3 hst3=>?_;obtain⟨rfl,d3,rfl⟩:=hst3
 have a2:Y9 (λl=>Shun l∨ShN (W.heap.size+2) l∨ShN (W.heap.size+1) l) (λb=>X b∨b=W.heap.size+1∨b=W.heap.size+2):=λl hl=>by
  rcases hl with h|⟨a,rfl,e⟩|⟨a,rfl,e⟩
  ·obtain⟨a,e,h1⟩:=hX l h;exact⟨a,e,.inl h1⟩
  ·exact⟨a,rfl,.inr (.inr e)⟩
  ·exact⟨a,rfl,.inr (.inl e)⟩
 have a5:∀τ d,Below W.heap.size (E0 X W τ d) (E0 (λb=>X b∨b=W.heap.size+1∨b=W.heap.size+2) w2 τ d):=λτ d=>ha.below τ d;have a6:W.heap.size<=w2.heap.size:=by have:=ha.size;simp only[World.at] at this;omega
 have b4:=JK hb ts.length;have b5:2 ^ ts.length<=2 ^ 5:=Nat.pow_le_pow_right (by omega) h5;have a8:pk (λk=>(sumTo ts.length (λj=>if hb j then 2 ^ j else 0)).testBit k) (ts.map (·.1.nm)) ts.length=pk hb (ts.map (·.1.nm)) ts.length:=Sl _ _ λk hk=>UO hb _ k hk;refine Y5 (X:=λb=>X b∨b=W.heap.size+1∨b=W.heap.size+2) a2 hh3 (YF Ah6 (b:=bP) ⟨rfl,_,func42⟩ rfl (by kernel_rfl) func42 (M1.at ha.base d3) (R:=λv u=>∃τ d,G3 u W.heap.size v (pk hb (ts.map (·.1.nm)) ts.length)/\Below W.heap.size (E0 X W τ d) u) (λτ d=>AW (M1.at ha.base d3) (λτ d=>?_) τ d) c cs) λgs4 a4 w4 sl4 t4 hh4 hst4=>?_
 ·refine AaL tb tg ts _ _ _ _ _ _ _ _ _ _ ?_ h5 (by omega) (λv w' h1 h2=>⟨τ,d,?_,?_⟩)
  ·exact Bo.up (hT τ d) (by (try unfold Up);rw[I5];exact a5 τ d)
  ·rw[a8] at h1;exact N1 h1 (by (try unfold Up);rw[I5];exact a6)
  ·(try unfold Up at h2);rw[I5] at h2;exact (a5 τ d).trans (h2.mono a6)
 ·obtain⟨v,rfl,a7,hR⟩:=hst4;exact k _ _ gs4 w4 sl4 t4 v a2 (λb hb=>by rcases hb with h|h|h<;>first|exact .inl h|exact .inr (by omega)) hh4 a7 λτ d=>S8 (λu τ d h=>h) (hR τ d)
end Go.Proofs.YtcgkgmmclfeohaaGreatDoor
