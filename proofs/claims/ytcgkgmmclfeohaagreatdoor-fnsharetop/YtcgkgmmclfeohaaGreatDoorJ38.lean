/- A range over a function beside leavers, 6: a round of any number; the last one. -/
import Derived.Test.YtcgkgmmclfeohaaGreatDoorJ37
set_option maxRecDepth 100000
set_option maxHeartbeats 4000000
namespace Go.Proofs.YtcgkgmmclfeohaaGreatDoor
open Go.Proofs.Tryz
open Go.Conc Go.ConcN Go.RowKit Go.Conc.Lib Go.ConcR.Gen Go.ConcN.Gen
open Go.ConcR (KK wgBlock WgAt stA smA rd wr mk Payload DC0)
noncomputable def SH:Code:=match Iu with | .seq _ b=>b|_=>.skip
section
variable {P:Program} {main:Bool} {b:Frame} {a:Act} {k:List Item} {cs:List Frame} {w:World} {l:Nat}
theorem Adw(hb:b.roundOf=some l)(hk:b.kind=.normal){r:Loop}(h:w.heap[l]?=some (.loop r)){c:Frame}:
  ∃es,stepG P main (G (b.atR a (.code .ret::k)) (c::cs)) w=.go (G (c.finish (.bool false)) cs) (w.putObj l (.loop {r with state:=.done,pending:=some .ret})) es/\Ew l es:=by
 have a0:=run_endRound (P:=P) (some .ret) h;refine⟨seen P b.fn ((Instr.endRound l (some .ret)).events P w #[]),?_,DH (Hj (UM _) w)⟩;simp at a0;simp[G,stepG,stepG.exec,Frame.atR,hb,hk,a0,GStep.after,doReturn]
theorem Zi{r:Loop}(h:w.heap[l]?=some (.loop r))(hr:r.state≠.busy){j:Code}(hp:r.pending=some j):
  ∃es,stepG P main (G (b.at a (.endRangeFunc l::k)) cs) w=.go (G (b.at a (.code j::k)) cs) (w.putObj l (.loop {r with state:=.exhausted})) es/\Ew l es:=by
 have a0:=run_endLoop (P:=P) h hr;refine⟨seen P b.fn ((Instr.endLoop l).events P w #[]),?_,DH (Hj So w)⟩;simp[G,stepG,stepG.exec,Frame.at,a0,hp,GStep.after]
end
section
variable {X:Nat->Prop} {Shun:Loc->Prop} {c:Frame} {cs:List Frame}
theorem Alj(hX:Y9 Shun X){V:World}{T TO:Array Value}{tb bx l dl n g:Nat}{a2 ag:Option Addr}{c2 cg:Nat}(hg:g≠n)(hT:T.size=33)(hTO:TO.size=18)(t0:T[0]?=some (.func (.yield l) #[] #[]))(t3:T[3]?=some (Pz tb 0))(t4:T[4]?=some (Vz ag g cg))
  (o1:TO[1]?=some (Pz bx 0)) (hl:V.heap[l]?=some (.loop (Ab TO dl))) (hc1:At V bx 1 (Vz a2 n c2)) (hx:¬X bx) :
  Go.Conc.Goes prog true AtRel (DE (EvL Shun V.heap.size)) (λg' w'=>(∃T',g'=G (bF.at ⟨T',[]⟩ [.code SH,.inLoop Iu,.inBlock 0]) (c::cs)/\T'.size=33/\T'[0]?=some (.func (.yield l) #[] #[])/\T'[3]?=some (Pz tb 0)/\T'[4]?=some (Vz ag g cg))/\AtRel V w') 60 (G (bF.at ⟨T,[]⟩ [.code Iu,.inLoop Iu,.inBlock 0]) (c::cs)) V:=by
 have b0:l<V.heap.size:=(D2.1 hl).1;have b3:bx≠l:=λe=>by subst e;simp[World.cell?,hl] at hc1
 have b4:=World.block_lt_of_cell? V _ hc1;have b5:¬Shun (.cell ⟨bx,1,none⟩):=λh=>by obtain⟨a,e,ha⟩:=hX _ h;cases e;exact hx ha
 have hq:((g:Int)==(n:Int))=false:=by rw[beq_eq_false_iff_ne];omega
 obtain⟨v0,v1,v2,v3,v4,v5,v6,v7,v8,v9,b7,b8,b9,c1,c3,c4,c5,c6,c7,c8,c9,d0,d1,d4,d5,d6,d7,d8,d9,e0,e1,e2,e3,rfl⟩:=OQ T hT;obtain⟨u0,u1,u2,u3,u4,u5,u6,u7,u8,u9,a1,a3,a4,a5,a6,a7,a8,a9,rfl⟩:=Lu TO hTO;simp only[List.getElem?_toArray,List.getElem?_cons_succ,List.getElem?_cons_zero,Option.some.injEq] at t0 t3 t4 o1;subst t0 t3 t4 o1;simp only[SH,Iu,LF,Ec,Tryz.f69,Option.getD_some];have rl:∀{V w w₁:World},AtRel V w->AtRel w w₁->AtRel V w₁:=λh r=>atRel_trans _ _ _ h r;have hF:AtRel V V:=atRel_refl V;u_c stepG_seq rl hF
 u_c stepG_seq rl hF
 u_reg rl hF
 u_op rl hF
 u_op rl hF
 u_in rl hF
 obtain⟨d,rfl⟩:=hF;refine Dn (Nn (w:=V.at d) (l:=l) (vs:=#[Vz ag g cg]) rfl rfl rfl rfl rfl (by simp[Act.eval]) hl rfl) λes ho=>⟨λe he=>Dm hX b0 (ho e he),?_⟩;clear ho es;have hF:AtRel V (V.at d):=⟨d,rfl⟩;simp only[Ab,Zc,List.setIfInBounds_toArray,List.set_cons_zero,List.set_cons_succ];rw[SD];simp only[Za,Zb,FE,BT,Tryz.f40,Option.getD_some];u_in rl hF;rw[Ff];simp only[goes_go,List.size_toArray,List.length_cons,List.length_nil,Nat.zero_add,List.range,List.range.loop];refine⟨by u_nil,?_⟩
 u_in rl hF;refine U4 rfl rfl (by intro h;cases h) (by intro c h;cases h) (λK hK=>?_);go_simp;refine hK _ _ ⟨(λe he=>by have hm:=mem_listed he;simp[go_sem, *] at hm),?_⟩;clear hK K;(try walk_nrm)
 u_c CH rl hF
 u_in rl hF
 obtain⟨d2,rfl⟩:=hF;refine Dn (PN (w:=V.at d2) (l:=l) rfl rfl hl rfl) λes ho=>⟨λe he=>Dm hX b0 (ho e he),?_⟩;clear ho es;have b1:(V.putObj l (.loop {Ab #[u0,Pz bx 0,u2,u3,u4,u5,u6,u7,u8,u9,a1,a3,a4,a5,a6,a7,a8,a9] dl with state:=.busy})).heap[l]?=some (.loop {Ab #[u0,Pz bx 0,u2,u3,u4,u5,u6,u7,u8,u9,a1,a3,a4,a5,a6,a7,a8,a9] dl with state:=.busy}):=World.putObj_heap_same b0;have a0:=Abe (V:=V) (l:=l) (o':=.loop {Ab #[u0,Pz bx 0,u2,u3,u4,u5,u6,u7,u8,u9,a1,a3,a4,a5,a6,a7,a8,a9] dl with state:=.busy}) hl;have b2:(V.putObj l (.loop {Ab #[u0,Pz bx 0,u2,u3,u4,u5,u6,u7,u8,u9,a1,a3,a4,a5,a6,a7,a8,a9] dl with state:=.busy})).cell? ⟨bx,1,none⟩=some (Vz a2 n c2):=(SC b3).trans hc1;have hF:AtRel (V.putObj l (.loop {Ab #[u0,Pz bx 0,u2,u3,u4,u5,u6,u7,u8,u9,a1,a3,a4,a5,a6,a7,a8,a9] dl with state:=.busy})) ((V.at d2).putObj l (.loop {Ab #[u0,Pz bx 0,u2,u3,u4,u5,u6,u7,u8,u9,a1,a3,a4,a5,a6,a7,a8,a9] dl with state:=.busy})):=⟨d2,rfl⟩;u_c PM rl hF
 u_c OK rl hF
 u_in rl hF;rw[Ff];simp only[goes_go,List.size_toArray,List.length_cons,List.length_nil,Nat.reduceAdd,Nat.zero_add,List.range,List.range.loop];refine⟨by u_nil,?_⟩
 u_in rl hF;refine U4 rfl rfl (by intro h;cases h) (by intro c h;cases h) (λK hK=>?_);go_simp;refine hK _ _ ⟨(λe he=>by have hm:=mem_listed he;simp[go_sem, *] at hm),?_⟩;clear hK K;(try walk_nrm)
 u_in rl hF;refine U4 rfl rfl (by intro h;cases h) (by intro c h;cases h) (λK hK=>?_);go_simp;refine hK _ _ ⟨(λe he=>by have hm:=mem_listed he;simp[go_sem,Builtin.len_, *] at hm),?_⟩;clear hK K;(try walk_nrm)
 u_in rl hF;refine U4 rfl rfl (by intro h;cases h) (by intro c h;cases h) (λK hK=>?_);go_simp;refine hK _ _ ⟨(λe he=>by have hm:=mem_listed he;simp[go_sem, *] at hm),?_⟩;clear hK K;(try walk_nrm)
 u_in rl hF
 refine U4 rfl rfl (by intro h;cases h) (by intro c h;cases h) (λK hK=>?_);have b6:(‹World›).cell? ⟨bx,1,none⟩=some (Vz a2 n c2):=(by obtain⟨d,rfl⟩:=hF;exact b2);go_simp;refine hK _ _ ⟨(λe he=>by have hm:=mem_listed he;simp[go_sem, *] at hm;subst hm;exact X7 b4 b5),?_⟩;clear hK K b6;try walk_nrm
 u_in rl hF;refine U4 rfl rfl (by intro h;cases h) (by intro c h;cases h) (λK hK=>?_);go_simp;refine hK _ _ ⟨(λe he=>by have hm:=mem_listed he;simp[go_sem,Builtin.len_, *] at hm),?_⟩;clear hK K;(try walk_nrm)
 u_in rl hF;refine U4 rfl rfl (by intro h;cases h) (by intro c h;cases h) (λK hK=>?_);go_simp;refine hK _ _ ⟨(λe he=>by have hm:=mem_listed he;simp[go_sem, *] at hm),?_⟩;clear hK K;(try walk_nrm)
 u_c CH rl hF
 u_in rl hF
 rw[Sq (t:=false) (by simp[Act.eval])];simp only[goes_go,Bool.false_eq_true,↓reduceIte];refine⟨by u_nil,?_⟩;u_c AaO rl hF
 u_c TT rl hF
 u_in rl hF
 obtain⟨d3,rfl⟩:=hF;refine Dn (Adk (l:=l) rfl rfl (w:=World.at (V.putObj l _) d3) b1) λes ho=>⟨λe he=>Dm hX b0 (ho e he),?_⟩;clear ho es;refine WL (congrArg (λW=>World.at W d3) a0) ?_;clear a0 b1 b2;have hF:AtRel V (V.at d3):=⟨d3,rfl⟩;rw[Frame.finish_at];walk_nrm
 u_c stepG_region_end rl hF
 u_cond true rl hF
 u_c stepG_skip rl hF
 exact Go.Conc.Goes.stop λw₁ r=>⟨⟨_,rfl,rfl,rfl,rfl,rfl⟩,rl hF r⟩
noncomputable def V9(V:World)(TO:Array Value)(l dl p2 p3:Nat)(u:Value):World :=
 ((((( V.putObj l (.loop {Ab TO dl with state:=.busy})).setCell ⟨p2,0,none⟩ u).setCell ⟨p3,0,none⟩ (.bool true)).putObj l (.loop {Ab TO dl with state:=.done,pending:=some .ret})).putObj l (.loop {Ab TO dl with state:=.exhausted,pending:=some .ret})).putObj dl (.deferred none)
theorem full(hX:Y9 Shun X){V:World}{T TO:Array Value}{bx l dl n p2 p3:Nat}{a2 ag:Option Addr}{c2 cg:Nat}{x2 x3:Value}(hT:T.size=33)(hTO:TO.size=18)(t0:T[0]?=some (.func (.yield l) #[] #[]))(t4:T[4]?=some (Vz ag n cg))
  (o1:TO[1]?=some (Pz bx 0)) (o2:TO[2]?=some (Pz p2 0)) (o3:TO[3]?=some (Pz p3 0)) (hl:V.heap[l]?=some (.loop (Ab TO dl))) (hdl:V.heap[dl]?=some (.deferred (some []))) (hc1:At V bx 1 (Vz a2 n c2)) (hx:¬X bx) (k2:CB V p2 [x2]) (k3:CB V p3 [x3]) (hne:p2≠p3) (hx2:¬X p2) (hx3:¬X p3) :
  Go.Conc.Goes prog true AtRel (DE (EvL Shun V.heap.size)) (λg' w'=>g'=G (c.finish (.tuple #[Vz ag n cg,.bool true])) cs/\AtRel (V9 V TO l dl p2 p3 (Vz ag n cg)) w') 80 (G (bF.at ⟨T,[]⟩ [.code Iu,.inLoop Iu,.inBlock 0]) (cO TO dl l::c::cs)) V:=by
 have a9:l<V.heap.size:=(D2.1 hl).1;have e6:dl<V.heap.size:=(D2.1 hdl).1;have e7:bx≠l:=λe=>by subst e;simp[World.cell?,hl] at hc1
 have e8:=World.block_lt_of_cell? V _ hc1;have e9:¬Shun (.cell ⟨bx,1,none⟩):=λh=>by obtain⟨a,e,ha⟩:=hX _ h;cases e;exact hx ha
 have b0:¬Shun (.cell ⟨p2,0,none⟩):=λh=>by obtain⟨a,e,ha⟩:=hX _ h;cases e;exact hx2 ha
 have b1:¬Shun (.cell ⟨p3,0,none⟩):=λh=>by obtain⟨a,e,ha⟩:=hX _ h;cases e;exact hx3 ha
 have hq:((n:Int)==(n:Int))=true:=by simp
 have b6:p2≠l:=λe=>by have:=k2.1 0 _ rfl;subst e;simp[World.cell?,hl] at this
 have b7:p3≠l:=λe=>by have:=k3.1 0 _ rfl;subst e;simp[World.cell?,hl] at this
 have c7:p2≠dl:=λe=>by have:=k2.1 0 _ rfl;subst e;simp[World.cell?,hdl] at this
 have c8:p3≠dl:=λe=>by have:=k3.1 0 _ rfl;subst e;simp[World.cell?,hdl] at this
 have b9:dl≠l:=λe=>by subst e;rw[hl] at hdl;cases hdl
 have c9:=k2.2.2;have d0:=k3.2.2;obtain⟨v0,v1,v2,v3,v4,v5,v6,v7,v8,v9,f4,f5,f6,f7,f8,f9,g0,g1,g2,g3,g4,g5,g6,g7,g8,g9,h0,h1,h2,h3,h4,h5,h6,rfl⟩:=OQ T hT;obtain⟨u0,u1,u2,u3,u4,u5,u6,u7,u8,u9,a0,a1,a3,a4,a5,a6,a7,a8,rfl⟩:=Lu TO hTO;simp only[List.getElem?_toArray,List.getElem?_cons_succ,List.getElem?_cons_zero,Option.some.injEq] at t0 t4 o1 o2 o3;subst t0 t4 o1 o2 o3;simp only[Iu,LF,Ec,Tryz.f69,Option.getD_some];have rl:∀{V w w₁:World},AtRel V w->AtRel w w₁->AtRel V w₁:=λh r=>atRel_trans _ _ _ h r;have hF:AtRel V V:=atRel_refl V;u_c stepG_seq rl hF
 u_c stepG_seq rl hF
 u_reg rl hF
 u_op rl hF
 u_op rl hF
 u_in rl hF
 obtain⟨d,rfl⟩:=hF;refine Dn (Nn (w:=V.at d) (l:=l) (vs:=#[Vz ag n cg]) rfl rfl rfl rfl rfl (by simp[Act.eval]) hl rfl) λes ho=>⟨λe he=>Dm hX a9 (ho e he),?_⟩;clear ho es;have hF:AtRel V (V.at d):=⟨d,rfl⟩;simp only[Ab,Zc,List.setIfInBounds_toArray,List.set_cons_zero,List.set_cons_succ];rw[SD];simp only[Za,Zb,FE,BT,Tryz.f40,Option.getD_some];u_in rl hF;rw[Ff];simp only[goes_go,List.size_toArray,List.length_cons,List.length_nil,Nat.zero_add,List.range,List.range.loop];refine⟨by u_nil,?_⟩
 u_in rl hF;refine U4 rfl rfl (by intro h;cases h) (by intro c h;cases h) (λK hK=>?_);go_simp;refine hK _ _ ⟨(λe he=>by have hm:=mem_listed he;simp[go_sem, *] at hm),?_⟩;clear hK K;(try walk_nrm)
 u_c CH rl hF
 u_in rl hF
 obtain⟨d2,rfl⟩:=hF;refine Dn (PN (w:=V.at d2) (l:=l) rfl rfl hl rfl) λes ho=>⟨λe he=>Dm hX a9 (ho e he),?_⟩;clear ho es;have d1:V9 V #[u0,Pz bx 0,Pz p2 0,Pz p3 0,u4,u5,u6,u7,u8,u9,a0,a1,a3,a4,a5,a6,a7,a8] l dl p2 p3 (Vz ag n cg)=((((( V.putObj l (.loop {Ab #[u0,Pz bx 0,Pz p2 0,Pz p3 0,u4,u5,u6,u7,u8,u9,a0,a1,a3,a4,a5,a6,a7,a8] dl with state:=.busy})).setCell ⟨p2,0,none⟩ (Vz ag n cg)).setCell ⟨p3,0,none⟩ (.bool true)).putObj l (.loop {Ab #[u0,Pz bx 0,Pz p2 0,Pz p3 0,u4,u5,u6,u7,u8,u9,a0,a1,a3,a4,a5,a6,a7,a8] dl with state:=.done,pending:=some .ret})).putObj l (.loop {Ab #[u0,Pz bx 0,Pz p2 0,Pz p3 0,u4,u5,u6,u7,u8,u9,a0,a1,a3,a4,a5,a6,a7,a8] dl with state:=.exhausted,pending:=some .ret})).putObj dl (.deferred none):=rfl;rw[d1];clear d1;have d3:(V.putObj l (.loop {Ab #[u0,Pz bx 0,Pz p2 0,Pz p3 0,u4,u5,u6,u7,u8,u9,a0,a1,a3,a4,a5,a6,a7,a8] dl with state:=.busy})).heap[l]?=some (.loop {Ab #[u0,Pz bx 0,Pz p2 0,Pz p3 0,u4,u5,u6,u7,u8,u9,a0,a1,a3,a4,a5,a6,a7,a8] dl with state:=.busy}):=World.putObj_heap_same a9;have e0:(V.putObj l (.loop {Ab #[u0,Pz bx 0,Pz p2 0,Pz p3 0,u4,u5,u6,u7,u8,u9,a0,a1,a3,a4,a5,a6,a7,a8] dl with state:=.busy})).cell? ⟨bx,1,none⟩=some (Vz a2 n c2):=(SC e7).trans hc1;have b2:(V.putObj l (.loop {Ab #[u0,Pz bx 0,Pz p2 0,Pz p3 0,u4,u5,u6,u7,u8,u9,a0,a1,a3,a4,a5,a6,a7,a8] dl with state:=.busy})).heap[dl]?=some (.deferred (some [])):=(World.putObj_heap_other b9).trans hdl;have f0:(V.putObj l (.loop {Ab #[u0,Pz bx 0,Pz p2 0,Pz p3 0,u4,u5,u6,u7,u8,u9,a0,a1,a3,a4,a5,a6,a7,a8] dl with state:=.busy})).heap.size=V.heap.size:=World.putObj_size ..;have c1:=Ed V l (.loop {Ab #[u0,Pz bx 0,Pz p2 0,Pz p3 0,u4,u5,u6,u7,u8,u9,a0,a1,a3,a4,a5,a6,a7,a8] dl with state:=.busy});have k2:=k2.kept c1 (by simp;exact b6);have k3:=k3.kept c1 (by simp;exact b7);change Go.Conc.Goes _ _ _ _ _ _ _ (World.at (V.putObj l (.loop {Ab #[u0,Pz bx 0,Pz p2 0,Pz p3 0,u4,u5,u6,u7,u8,u9,a0,a1,a3,a4,a5,a6,a7,a8] dl with state:=.busy})) d2)
 generalize V.putObj l (.loop {Ab #[u0,Pz bx 0,Pz p2 0,Pz p3 0,u4,u5,u6,u7,u8,u9,a0,a1,a3,a4,a5,a6,a7,a8] dl with state:=.busy})=W6 at *;have hF:AtRel W6 (W6.at d2):=⟨d2,rfl⟩;clear c1 hl hdl hc1;u_c PM rl hF
 u_c OK rl hF
 u_in rl hF;rw[Ff];simp only[goes_go,List.size_toArray,List.length_cons,List.length_nil,Nat.reduceAdd,Nat.zero_add,List.range,List.range.loop];refine⟨by u_nil,?_⟩
 u_in rl hF;refine U4 rfl rfl (by intro h;cases h) (by intro c h;cases h) (λK hK=>?_);go_simp;refine hK _ _ ⟨(λe he=>by have hm:=mem_listed he;simp[go_sem, *] at hm),?_⟩;clear hK K;(try walk_nrm)
 u_in rl hF;refine U4 rfl rfl (by intro h;cases h) (by intro c h;cases h) (λK hK=>?_);go_simp;refine hK _ _ ⟨(λe he=>by have hm:=mem_listed he;simp[go_sem,Builtin.len_, *] at hm),?_⟩;clear hK K;(try walk_nrm)
 u_in rl hF;refine U4 rfl rfl (by intro h;cases h) (by intro c h;cases h) (λK hK=>?_);go_simp;refine hK _ _ ⟨(λe he=>by have hm:=mem_listed he;simp[go_sem, *] at hm),?_⟩;clear hK K;(try walk_nrm)
 u_in rl hF
 refine U4 rfl rfl (by intro h;cases h) (by intro c h;cases h) (λK hK=>?_);have f1:(‹World›).cell? ⟨bx,1,none⟩=some (Vz a2 n c2):=(by obtain⟨d,rfl⟩:=hF;exact e0);go_simp;refine hK _ _ ⟨(λe he=>by have hm:=mem_listed he;simp[go_sem, *] at hm;subst hm;exact X7 e8 e9),?_⟩;clear hK K f1;try walk_nrm
 u_in rl hF;refine U4 rfl rfl (by intro h;cases h) (by intro c h;cases h) (λK hK=>?_);go_simp;refine hK _ _ ⟨(λe he=>by have hm:=mem_listed he;simp[go_sem,Builtin.len_, *] at hm),?_⟩;clear hK K;(try walk_nrm)
 u_in rl hF;refine U4 rfl rfl (by intro h;cases h) (by intro c h;cases h) (λK hK=>?_);go_simp;refine hK _ _ ⟨(λe he=>by have hm:=mem_listed he;simp[go_sem, *] at hm),?_⟩;clear hK K;(try walk_nrm)
 u_c CH rl hF
 u_in rl hF
 rw[Sq (t:=true) (by simp[Act.eval])];simp only[goes_go,↓reduceIte];refine⟨by u_nil,?_⟩;have c2:=k2.1 0 _ rfl;have f2:=(k2.2.1 0 (by simp)).2;have b8:=k3.other (q:=p2) (j:=0) (u:=Vz ag n cg) (λe=>hne e.symm);have c3:=b8.1 0 _ rfl;have f3:=(b8.2.1 0 (by simp)).2;u_c OK rl hF
 u_in rl hF;rw[Ff];simp only[goes_go,List.size_toArray,List.length_cons,List.length_nil,Nat.reduceAdd,Nat.zero_add,List.range,List.range.loop];refine⟨by u_nil,?_⟩
 u_in rl hF;refine U4 rfl rfl (by intro h;cases h) (by intro c h;cases h) (λK hK=>?_);go_simp;refine hK _ _ ⟨(λe he=>by have hm:=mem_listed he;simp[go_sem, *] at hm),?_⟩;clear hK K;(try walk_nrm)
 u_in rl hF
 obtain⟨d4,rfl⟩:=hF;refine U4 rfl rfl (by intro h;cases h) (by intro c h;cases h) (λK hK=>?_);have hc:(W6.at d4).cell? ⟨p2,0,none⟩=some x2:=c2;have hf:(W6.at d4).frozen? ⟨p2,0,none⟩=false:=f2;go_simp;refine hK _ _ ⟨(λe he=>by have hm:=mem_listed he;simp[go_sem,GA, *] at hm;subst hm;exact CV c9 b0),?_⟩;clear hK K hc hf;have hF:AtRel (W6.setCell ⟨p2,0,none⟩ (Vz ag n cg)) ((W6.at d4).setCell ⟨p2,0,none⟩ (Vz ag n cg)):=⟨d4,rfl⟩;try walk_nrm
 u_in rl hF
 obtain⟨d5,rfl⟩:=hF;refine U4 rfl rfl (by intro h;cases h) (by intro c h;cases h) (λK hK=>?_);have hc:(World.at (W6.setCell ⟨p2,0,none⟩ (Vz ag n cg)) d5).cell? ⟨p3,0,none⟩=some x3:=c3;have hf:(World.at (W6.setCell ⟨p2,0,none⟩ (Vz ag n cg)) d5).frozen? ⟨p3,0,none⟩=false:=f3;go_simp;refine hK _ _ ⟨(λe he=>by have hm:=mem_listed he;simp[go_sem,Nw, *] at hm;subst hm;exact CV d0 b1),?_⟩;clear hK K hc hf;have hF:AtRel ((W6.setCell ⟨p2,0,none⟩ (Vz ag n cg)).setCell ⟨p3,0,none⟩ (.bool true)) ((World.at (W6.setCell ⟨p2,0,none⟩ (Vz ag n cg)) d5).setCell ⟨p3,0,none⟩ (.bool true)):=⟨d5,rfl⟩;have e1:=(k2.set (j:=0) (u:=Vz ag n cg) (by simp)).other (q:=p3) (j:=0) (u:=.bool true) hne;have b3:=b8.set (j:=0) (u:=.bool true) (by simp);have b4:((W6.setCell ⟨p2,0,none⟩ (Vz ag n cg)).setCell ⟨p3,0,none⟩ (.bool true)).heap[dl]?=some (.deferred (some [])):=((aside_setCell _ _ _).block dl λe=>c8 e.symm).trans (((aside_setCell _ _ _).block dl λe=>c7 e.symm).trans b2);have e2:((W6.setCell ⟨p2,0,none⟩ (Vz ag n cg)).setCell ⟨p3,0,none⟩ (.bool true)).heap[l]?=_:=((aside_setCell _ _ _).block l λe=>b7 e.symm).trans (((aside_setCell _ _ _).block l λe=>b6 e.symm).trans d3);have c4:((W6.setCell ⟨p2,0,none⟩ (Vz ag n cg)).setCell ⟨p3,0,none⟩ (.bool true)).heap.size=V.heap.size:=by rw[(aside_setCell _ _ _).size,(aside_setCell _ _ _).size];exact f0
 generalize (W6.setCell ⟨p2,0,none⟩ (Vz ag n cg)).setCell ⟨p3,0,none⟩ (.bool true)=W7 at *;clear k2 k3 b8 c2 c3 f2 f3 b2 d3 e0;try walk_nrm
 u_c CH rl hF
 u_in rl hF
 obtain⟨d6,rfl⟩:=hF;refine Dn (Adw (l:=l) rfl rfl (w:=W7.at d6) e2) λes ho=>⟨λe he=>Dm hX a9 (ho e he),?_⟩;clear ho es;have c5:l<W7.heap.size:=by rw[c4];exact a9
 have hg:=Ed W7 l (.loop {Ab #[u0,Pz bx 0,Pz p2 0,Pz p3 0,u4,u5,u6,u7,u8,u9,a0,a1,a3,a4,a5,a6,a7,a8] dl with state:=.done,pending:=some .ret});have k2:=e1.kept hg (by simp;exact b6);have k3:=b3.kept hg (by simp;exact b7);have e3:(W7.putObj l (.loop {Ab #[u0,Pz bx 0,Pz p2 0,Pz p3 0,u4,u5,u6,u7,u8,u9,a0,a1,a3,a4,a5,a6,a7,a8] dl with state:=.done,pending:=some .ret})).heap[l]?=some (.loop {Ab #[u0,Pz bx 0,Pz p2 0,Pz p3 0,u4,u5,u6,u7,u8,u9,a0,a1,a3,a4,a5,a6,a7,a8] dl with state:=.done,pending:=some .ret}):=World.putObj_heap_same c5;have b5:(W7.putObj l (.loop {Ab #[u0,Pz bx 0,Pz p2 0,Pz p3 0,u4,u5,u6,u7,u8,u9,a0,a1,a3,a4,a5,a6,a7,a8] dl with state:=.done,pending:=some .ret})).heap[dl]?=some (.deferred (some [])):=(World.putObj_heap_other b9).trans b4;change Go.Conc.Goes _ _ _ _ _ _ _ (World.at (W7.putObj l (.loop {Ab #[u0,Pz bx 0,Pz p2 0,Pz p3 0,u4,u5,u6,u7,u8,u9,a0,a1,a3,a4,a5,a6,a7,a8] dl with state:=.done,pending:=some .ret})) d6)
 generalize W7.putObj l (.loop {Ab #[u0,Pz bx 0,Pz p2 0,Pz p3 0,u4,u5,u6,u7,u8,u9,a0,a1,a3,a4,a5,a6,a7,a8] dl with state:=.done,pending:=some .ret})=W8 at *;clear hg e1 b3 b4 e2;have hF:AtRel W8 (W8.at d6):=⟨d6,rfl⟩;rw[Frame.finish_at];walk_nrm
 u_c stepG_region_end rl hF
 u_cond false rl hF
 u_in rl hF
 rw[stepG_exit (k':=[]) rfl];simp only[goes_go];refine⟨by u_nil,?_⟩;u_c stepG_end rl hF
 u_in rl hF
 rw[stepG_leave (b:=bF) rfl rfl func69 (results_none rfl _ _ _) (events_results_none rfl _ _),PT];simp only[goes_go];refine⟨by u_nil,?_⟩;u_in rl hF
 obtain⟨d7,rfl⟩:=hF;refine Dn (Zi (w:=W8.at d7) (l:=l) e3 (by simp) rfl) λes ho=>⟨λe he=>Dm hX a9 (ho e he),?_⟩;clear ho es;have hg:=Ed W8 l (.loop {Ab #[u0,Pz bx 0,Pz p2 0,Pz p3 0,u4,u5,u6,u7,u8,u9,a0,a1,a3,a4,a5,a6,a7,a8] dl with state:=.exhausted,pending:=some .ret});have k2:=k2.kept hg (by simp;exact b6);have k3:=k3.kept hg (by simp;exact b7);have c6:(W8.putObj l (.loop {Ab #[u0,Pz bx 0,Pz p2 0,Pz p3 0,u4,u5,u6,u7,u8,u9,a0,a1,a3,a4,a5,a6,a7,a8] dl with state:=.exhausted,pending:=some .ret})).heap[dl]?=some (.deferred (some [])):=(World.putObj_heap_other b9).trans b5;change Go.Conc.Goes _ _ _ _ _ _ _ (World.at (W8.putObj l (.loop {Ab #[u0,Pz bx 0,Pz p2 0,Pz p3 0,u4,u5,u6,u7,u8,u9,a0,a1,a3,a4,a5,a6,a7,a8] dl with state:=.exhausted,pending:=some .ret})) d7)
 generalize W8.putObj l (.loop {Ab #[u0,Pz bx 0,Pz p2 0,Pz p3 0,u4,u5,u6,u7,u8,u9,a0,a1,a3,a4,a5,a6,a7,a8] dl with state:=.exhausted,pending:=some .ret})=W9 at *;clear hg e3 b5;have hF:AtRel W9 (W9.at d7):=⟨d7,rfl⟩;u_c stepG_ret' rl hF
 u_in rl hF
 obtain⟨d8,rfl⟩:=hF;refine Dn (Nm (w:=W9.at d8) (l:=dl) c6 rfl) λes ho=>⟨λe he=>Dm hX e6 (ho e he),?_⟩;clear ho es;have hF:AtRel (W9.putObj dl (.deferred none)) ((W9.at d8).putObj dl (.deferred none)):=⟨d8,rfl⟩;have hg:=Ed W9 dl (.deferred none);have k2:=k2.kept hg (by simp;exact c7);have k3:=k3.kept hg (by simp;exact c8);have c2:=k2.1 0 _ rfl;have c3:=k3.1 0 _ rfl;u_in rl hF
 obtain⟨d9,rfl⟩:=hF;have e4:(World.at (W9.putObj dl (.deferred none)) d9).cell? ⟨p2,0,none⟩=some (Vz ag n cg):=c2;have e5:(World.at (W9.putObj dl (.deferred none)) d9).cell? ⟨p3,0,none⟩=some (.bool true):=c3;refine SE (LU (b:=bO) (w:=World.at (W9.putObj dl (.deferred none)) d9) (r:=⟨p2,0,none⟩) (r2:=⟨p3,0,none⟩) (x:=Vz ag n cg) (y:=.bool true) rfl rfl func40 results40 rfl rfl (by simp[loadVar,isAgg,go_sem,e4]) (λes=>by simp[loadVar,isAgg,go_sem,e4];rfl) (by simp[loadVar,isAgg,go_sem,e5]) (λes=>by simp[loadVar,isAgg,go_sem,e5];rfl)) λes ho=>⟨λe he=>?_,?_⟩
 ·rcases ho e he with rfl|rfl
  ·exact X7 c9 b0
  ·exact X7 d0 b1
 exact Go.Conc.Goes.stop λw₁ r=>⟨rfl,rl (V:=W9.putObj dl (.deferred none)) ⟨d9,rfl⟩ r⟩
end
end Go.Proofs.YtcgkgmmclfeohaaGreatDoor
namespace Go.Proofs.YtcgkgmmclfeohaaGreatDoor
open Go.Proofs.Tryz
open Go.RowKit
def Af1(b:Bk)(y:Value)(lo:Nat)(R:World->Prop)(a:Act)(u:World):Prop :=
 ∃T tb,a=⟨T,[]⟩/\T.size=33/\T[0]?=some y/\T[3]?=some (.pointer (some ⟨tb,0,none⟩))/\T[4]?=some (.slice none 0 0)/\Bo u tb b.tg (Z4 b.bs b.bs.length)/\lo<=tb/\R u
theorem Adx(b:Bk)(y:Value)(lo:Nat)(a:Act):N6 (Af1 b y lo (λ_=>True) a):=λ_ _ _ h=>h
theorem Af2(b:Bk)(y:Value)(a1 a2:Option Addr)(c1 c2 q:Nat)(w:World)(kQ:CB w q [Vz a1 b.tg.length c1,Vz a2 b.bs.length c2])(h:K6 w (.agg #[Vz a1 b.tg.length c1,Vz a2 b.bs.length c2]) b)(hok:I8 b){lo:Nat}(hlo:lo<=w.heap.size){R:World->Prop}(HR:Hid (∀u,Up w u->R u)):
  BG prog [UT,UU] (λe a u=>e=.normal/\Af1 b y lo R a u) ⟨slF y (Pz q 0),[]⟩ w:=by
 simp only[UT,UU,slF,Ec,Tryz.f69,Option.getD_some];obtain⟨e0,e1⟩:=kQ.c2';have Hok:Hid (I8 b):=hok;clear hok;apply Al;intro K hK
 go_wp2_with fail;refine (LS b _ _ h Hok.out).mono ?_;rintro e w2 ⟨⟨tb,rfl,hT,a3⟩,a0⟩;clear e0 e1;go_wp2_with fail;try clear hK
 try clear K
 apply Al;intro K hK
 go_wp2_with fail;exact⟨rfl,_,tb,rfl,rfl,rfl,rfl,rfl,hT,by omega,HR.out _ a0⟩
theorem Ady(b:Bk)(tb:Nat)(ts:List Tr)(gone:List BA)(ag:Option Addr)(cg:Nat)(v0 v1 v2 v5 v6 v7 v8 v9 v10 v11 v12 v13 v14 v15 v16 v17 v18 v19 v20 v21 v22 v23 v24 v25 v26 v27 v28 v29 v30 v31 v32:Value)(w:World)(hT:Bo w tb b.tg ts)(hok:I8 b)(hfst:ts.map (·.1)=b.bs)(hG:Fe ts gone)(hnx:Ag b.bs gone (-1)){R:Value->World->Prop}(HR:Hid (∀v u,Up w u->R v u)):
  SH.wp prog (EF prog Tryz.f69 R) ⟨#[v0,v1,v2,Pz tb 0,Vz ag gone.length cg,v5,v6,v7,v8,v9,v10,v11,v12,v13,v14,v15,v16,v17,v18,v19,v20,v21,v22,v23,v24,v25,v26,v27,v28,v29,v30,v31,v32],[]⟩ w:=by
 simp only[SH,Iu,LF,Ec];generalize hfn:EF prog Tryz.f69 R=QQ
 have a0:∀a u,a.defers=[]->Up w u->QQ .ret a u:=λa u hd hb=>by
  subst hfn;exact Eb (results_none rfl _ _ _) hd (HR.out _ _ hb)
 have HQ:Hid (∀a u,a.defers=[]->Up w u->QQ .ret a u):=a0;clear a0 hfn;simp only[Tryz.f69,Option.getD_some];have Hnx:Hid (Ag b.bs gone (-1)):=hnx;clear hnx;go_wp2_with fail;refine (PP tb b ts gone _ hT hok hfst hG).mono ?_;rintro e w2 ⟨⟨k,rfl,hn⟩|⟨rfl,-⟩,a1⟩
 ·exfalso
  have:=Hnx.out.uniq hn;omega
 go_wp2_with fail
 (try simp only[Exit.inBlock,Exit.then])
 exact HQ.out _ _ rfl a1
def AtB(b:Bk)(v0:Value)(tb lo:Nat)(gone:List BA)(x:Ba)(ts:List Tr)(w:World)(a:Act)(u:World):Prop :=
 ∃T ag cg,a=⟨T,[]⟩/\T.size=33/\T[0]?=some v0/\T[3]?=some (.pointer (some ⟨tb,0,none⟩))/\T[4]?=some (.slice ag (gone.length+1) cg)/\G3 u (tb+1) (.slice ag (gone.length+1) cg) (gone++[x.nm])/\Bo u tb b.tg ts/\Below lo w u
theorem Adz(b:Bk)(tb lo:Nat)(hlo:lo<=tb)(ts:List Tr)(gone:List BA)(ag:Option Addr)(cg:Nat)(v0 v1 v2 v5 v6 v7 v8 v9 v10 v11 v12 v13 v14 v15 v16 v17 v18 v19 v20 v21 v22 v23 v24 v25 v26 v27 v28 v29 v30 v31 v32:Value)(w:World)(hT:Bo w tb b.tg ts)(hown:G3 w (tb+1) (.slice ag gone.length cg) gone)(hok:I8 b)(hfst:ts.map (·.1)=b.bs)(hG:Fe ts gone)(hgl:gone.length<b.bs.length){k:Nat}(hnx:Ag b.bs gone (k:Int)){p:Tr}(hpt:ts[k]?=some p)(hg0:p.2=false):
  BG prog [SH] (λe a u=>e=.normal/\AtB b v0 tb lo gone p.1 (ts.set k (p.1,true)) w a u) ⟨#[v0,v1,v2,.pointer (some ⟨tb,0,none⟩),.slice ag gone.length cg,v5,v6,v7,v8,v9,v10,v11,v12,v13,v14,v15,v16,v17,v18,v19,v20,v21,v22,v23,v24,v25,v26,v27,v28,v29,v30,v31,v32],[]⟩ w:=by
 obtain⟨ii,hi,b7,b8,b9⟩:=info_parts Bg;have c6:=hok.2.1
 have a7:ts.length<=5:=by
  have:=congrArg List.length hfst;simp at this;omega
 have b0:(ts.set k (p.1,true))[k]?=some (p.1,true):=by rw[List.getElem?_set,if_pos rfl,if_pos (A2.1 hpt).1]
 have c7:(ts.set k (p.1,true)).length<=5:=by rw[List.length_set];exact a7
 have Hnx:Hid (Ag b.bs gone (k:Int)):=hnx;have Hok:Hid (I8 b):=hok;have Hfst:Hid (ts.map (·.1)=b.bs):=hfst;have HG:Hid (Fe ts gone):=hG;clear hnx hok hfst hG;simp only[SH,Iu,LF,Ec,Tryz.f69,Option.getD_some];apply Al;intro K hK
 go_wp2_with fail;refine (PP tb b ts gone _ hT Hok.out Hfst.out HG.out).mono ?_;rintro e w2 ⟨⟨k',rfl,hn⟩|⟨rfl,hn⟩,a5⟩;rotate_left
 ·exfalso
  have:=Hnx.out.uniq hn;omega
 obtain rfl:k=k':=by have:=Hnx.out.uniq hn;omega
 have b1:=hT.up a5;have a1:=P0 hown a5;have c9:=a5.size;have d0:=hT.lt;have b2:Below lo w w2:=a5.mono (by omega);clear a5 hT hown hn;go_wp2_with fail;refine (YT tb k b.tg ts p b.bs _ b1 Hok.out.1.1 hpt hg0 Hfst.out Hok.out.2.2.2.2.2 a7).mono ?_;rintro e w3 ⟨⟨v7,rfl⟩,c4,a9,b6⟩;have a2:=b6 _ _ _ a1 (by omega);have b3:=b2.trans (a9.mono (by omega));have d1:=a9.size;clear b6 a9 b1 a1 b2 hpt hg0 a7;generalize ts.set k (p.1,true)=ts2 at *;obtain⟨rv,kT,a6⟩:=c4;have d2:=(A2.1 b0).1;obtain⟨g,c5,rfl⟩:=U5 a6 (by omega);obtain⟨r0,-,-,-⟩:=EN a6 b0;simp only at r0;obtain⟨t0,t1⟩:=kT.c2';have c1:=kT.2.2;generalize p.1=px at *;have a0:=P0 a2 ((A4 w3.heap.size w3).alloc (A3 _) (.cells #[.string px.nm] 9));have a3:=P0 a6 ((A4 w3.heap.size w3).alloc (A3 _) (.cells #[.string px.nm] 9));have b4:=kT.up ((A4 w3.heap.size w3).alloc (A3 _) (.cells #[.string px.nm] 9)) c1;have a4:=b3.alloc (by omega) (.cells #[.string px.nm] 9);go_wp2_with (at_builtin;refine wpList_append_own _ rfl _ _ 23 rfl (tb+1) 9 ii _ 1 16 underlying23 hi b7 b8 b9 rfl (by decide) _ _ _ rfl a0 ⟨w3.heap.size,0,none⟩ 1 1 [.string px.nm] rfl rfl (BZ _ _ _) (Gk _) (by unfold maxLen;omega) (by omega) (by simp;omega) ?_)
 intro v8 w8 hown8 hgr8 _;have c2:Bo w8 tb b.tg ts2:=⟨_,b4.kept hgr8 (Af a0 (by omega)),Sc a3 hgr8 (PI a3 a0 (by decide))⟩;have c3:Below lo w w8:=⟨hgr8.os.trans a4.os,hgr8.tape.trans a4.tape,hgr8.output.trans a4.output,B4 a4.size hgr8.size,λi hi=>(hgr8.block i (by have:=a4.size;omega) (Af a0 (by omega))).trans (a4.block i hi)⟩;have b5:G3 w8 (tb+1) v8 (gone++[px.nm]):=by unfold G3;rw[A9,List.map_append];exact hown8
 obtain⟨a8,c8,rfl⟩:∃a c,v8=.slice a (gone.length+1) c:=by simpa using b5.lst.shape
 clear a0 a3 b4 a4 hown8 hgr8 a2 a6 kT t0 t1 r0 b3;go_wp2_with fail;exact⟨rfl,_,a8,c8,rfl,rfl,rfl,rfl,rfl,b5,c2,c3⟩
end Go.Proofs.YtcgkgmmclfeohaaGreatDoor
namespace Go.Proofs.YtcgkgmmclfeohaaGreatDoor
open Go.Proofs.Tryz
open Go.Conc Go.ConcN Go.RowKit Go.Conc.Lib Go.ConcR.Gen Go.ConcN.Gen
open Go.ConcR (KK wgBlock WgAt stA smA rd wr mk Payload DC0)
section
variable {X:Nat->Prop} {Shun:Loc->Prop} {c:Frame} {cs:List Frame}
theorem Alk(hX:Y9 Shun X){V:World}{TO:Array Value}{l dl p2 p3:Nat}{x2 x3:Value}(hTO:TO.size=18)(o2:TO[2]?=some (Pz p2 0))(o3:TO[3]?=some (Pz p3 0))
  (hl:V.heap[l]?=some (.loop (Ab TO dl))) (hdl:V.heap[dl]?=some (.deferred (some []))) (k2:CB V p2 [x2]) (k3:CB V p3 [x3]) (hne:p2≠p3) (hx2:¬X p2) (hx3:¬X p3) :
  Go.Conc.Goes prog true AtRel (DE (EvL Shun V.heap.size)) (λg w'=>g=G (c.finish (.tuple #[Nz,.bool false])) cs/\AtRel (V8 V TO l dl p2 p3) w') 60
   (G (bO.at ⟨TO,Abf dl⟩ (.endRangeFunc l::.inBlock 0::[.code KM])) (c::cs)) V:=by
 have b3:l<V.heap.size:=(D2.1 hl).1;have b4:dl<V.heap.size:=(D2.1 hdl).1;have a0:¬Shun (.cell ⟨p2,0,none⟩):=λh=>by obtain⟨a,e,ha⟩:=hX _ h;cases e;exact hx2 ha
 have a1:¬Shun (.cell ⟨p3,0,none⟩):=λh=>by obtain⟨a,e,ha⟩:=hX _ h;cases e;exact hx3 ha
 have rl:∀{V w w₁:World},AtRel V w->AtRel w w₁->AtRel V w₁:=λh r=>atRel_trans _ _ _ h r;have hF:AtRel V V:=atRel_refl V;u_in rl hF
 obtain⟨d,rfl⟩:=hF;refine Dn (YM (w:=V.at d) (l:=l) hl (by simp[Ab]) rfl) λes ho=>⟨λe he=>Dm hX b3 (ho e he),?_⟩;clear ho es;have b5:p2≠l:=λe=>by have:=k2.1 0 _ rfl;subst e;simp[World.cell?,hl] at this
 have b6:p3≠l:=λe=>by have:=k3.1 0 _ rfl;subst e;simp[World.cell?,hl] at this
 have a6:p2≠dl:=λe=>by have:=k2.1 0 _ rfl;subst e;simp[World.cell?,hdl] at this
 have a7:p3≠dl:=λe=>by have:=k3.1 0 _ rfl;subst e;simp[World.cell?,hdl] at this
 have b7:dl≠l:=λe=>by subst e;rw[hl] at hdl;cases hdl
 have a8:=k2.2.2;have a9:=k3.2.2;have hg:=Ed V l (.loop {Ab TO dl with state:=.exhausted});have k2:=k2.kept hg (by simp;exact b5);have k3:=k3.kept hg (by simp;exact b6);have a2:(V.putObj l (.loop {Ab TO dl with state:=.exhausted})).heap[dl]?=some (.deferred (some [])):=(World.putObj_heap_other b7).trans hdl;have b0:V8 V TO l dl p2 p3=(((V.putObj l (.loop {Ab TO dl with state:=.exhausted})).setCell ⟨p2,0,none⟩ (Nz)).setCell ⟨p3,0,none⟩ (.bool false)).putObj dl (.deferred none):=rfl;rw[b0];clear b0;change Go.Conc.Goes _ _ _ _ _ _ _ (World.at (V.putObj l (.loop {Ab TO dl with state:=.exhausted})) d)
 generalize V.putObj l (.loop {Ab TO dl with state:=.exhausted})=W6 at *;have hF:AtRel W6 (W6.at d):=⟨d,rfl⟩;clear hg hl hdl;obtain⟨u0,u1,u2,u3,u4,u5,u6,u7,u8,u9,b9,c1,c4,c5,c6,c7,c8,c9,rfl⟩:=Lu TO hTO;simp only[List.getElem?_toArray,List.getElem?_cons_succ,List.getElem?_cons_zero,Option.some.injEq] at o2 o3;subst o2 o3;have c2:=k2.1 0 _ rfl;have f2:=(k2.2.1 0 (by simp)).2;have a3:=k3.other (q:=p2) (j:=0) (u:=Nz) (λe=>hne e.symm);have c3:=a3.1 0 _ rfl;have f3:=(a3.2.1 0 (by simp)).2;simp only[KM,BT,Tryz.f40,Option.getD_some];u_c stepG_inBlock rl hF
 u_c stepG_seq rl hF
 u_reg rl hF
 u_in rl hF
 obtain⟨d1,rfl⟩:=hF;refine goes_oper_k rfl rfl (by k_ne) (λK hK=>?_);have hc:(W6.at d1).cell? ⟨p2,0,none⟩=some x2:=c2;have hf:(W6.at d1).frozen? ⟨p2,0,none⟩=false:=f2;go_simp;refine hK _ _ ⟨(λe he=>by have hm:=mem_listed he;simp[go_sem,GA, *] at hm;subst hm;exact CV a8 a0),?_⟩;clear hK K hc hf;have hF:AtRel (W6.setCell ⟨p2,0,none⟩ (Nz)) ((W6.at d1).setCell ⟨p2,0,none⟩ (Nz)):=⟨d1,rfl⟩;try walk_nrm
 u_in rl hF
 obtain⟨d2,rfl⟩:=hF;refine goes_oper_k rfl rfl (by k_ne) (λK hK=>?_);have hc:(World.at (W6.setCell ⟨p2,0,none⟩ (Nz)) d2).cell? ⟨p3,0,none⟩=some x3:=c3;have hf:(World.at (W6.setCell ⟨p2,0,none⟩ (Nz)) d2).frozen? ⟨p3,0,none⟩=false:=f3;go_simp;refine hK _ _ ⟨(λe he=>by have hm:=mem_listed he;simp[go_sem,Nw, *] at hm;subst hm;exact CV a9 a1),?_⟩;clear hK K hc hf;have hF:AtRel ((W6.setCell ⟨p2,0,none⟩ (Nz)).setCell ⟨p3,0,none⟩ (.bool false)) ((World.at (W6.setCell ⟨p2,0,none⟩ (Nz)) d2).setCell ⟨p3,0,none⟩ (.bool false)):=⟨d2,rfl⟩;have b8:=(k2.set (j:=0) (u:=Nz) (by simp)).other (q:=p3) (j:=0) (u:=.bool false) hne;have a4:=a3.set (j:=0) (u:=.bool false) (by simp);have a5:((W6.setCell ⟨p2,0,none⟩ (Nz)).setCell ⟨p3,0,none⟩ (.bool false)).heap[dl]?=some (.deferred (some [])):=((aside_setCell _ _ _).block dl λe=>a7 e.symm).trans (((aside_setCell _ _ _).block dl λe=>a6 e.symm).trans a2);generalize (W6.setCell ⟨p2,0,none⟩ (Nz)).setCell ⟨p3,0,none⟩ (.bool false)=W7 at *;try walk_nrm
 u_c stepG_region_end rl hF
 u_c stepG_ret' rl hF
 u_in rl hF
 obtain⟨d3,rfl⟩:=hF;refine Dn (Nm (w:=W7.at d3) (l:=dl) a5 rfl) λes ho=>⟨λe he=>Dm hX b4 (ho e he),?_⟩;clear ho es;have hF:AtRel (W7.putObj dl (.deferred none)) ((W7.at d3).putObj dl (.deferred none)):=⟨d3,rfl⟩;have hg:=Ed W7 dl (.deferred none);have k2:=b8.kept hg (by simp;exact a6);have k3:=a4.kept hg (by simp;exact a7);have c2:=k2.1 0 _ rfl;have c3:=k3.1 0 _ rfl;u_in rl hF
 obtain⟨d4,rfl⟩:=hF;have b1:(World.at (W7.putObj dl (.deferred none)) d4).cell? ⟨p2,0,none⟩=some (Nz):=c2;have b2:(World.at (W7.putObj dl (.deferred none)) d4).cell? ⟨p3,0,none⟩=some (.bool false):=c3;refine SE (LU (b:=bO) (w:=World.at (W7.putObj dl (.deferred none)) d4) (r:=⟨p2,0,none⟩) (r2:=⟨p3,0,none⟩) (x:=Nz) (y:=.bool false) rfl rfl func40 results40 rfl rfl (by simp[loadVar,isAgg,go_sem,b1]) (λes=>by simp[loadVar,isAgg,go_sem,b1];rfl) (by simp[loadVar,isAgg,go_sem,b2]) (λes=>by simp[loadVar,isAgg,go_sem,b2];rfl)) λes ho=>⟨λe he=>?_,?_⟩
 ·rcases ho e he with rfl|rfl
  ·exact X7 a8 a0
  ·exact X7 a9 a1
 exact Go.Conc.Goes.stop λw₁ r=>⟨rfl,rl (V:=W7.putObj dl (.deferred none)) ⟨d4,rfl⟩ r⟩
theorem AhA{T:Array Value}{w:World}{u:Value}{ok:Bool}(hT:T.size=11):
  Go.Conc.Goes prog true AtRel (DE λ_=>False) (λg w'=>g=G (c.finish (.bool ok)) cs/\AtRel w w') 30 (G ((bA.at ⟨T,[]⟩ (.inRegion Ns [1,2,3,4,5,6]::[.code YZ])).finish (.tuple #[u,.bool ok])) (c::cs)) w:=by
 obtain⟨v0,v1,v2,v3,v4,v5,v6,v7,v8,v9,a0,rfl⟩:=UW T hT;rw[Frame.finish_at];simp only[PR,YZ,Ns,Gz,Tryz.f15,Option.getD_some];have rl:∀{V w w₁:World},AtRel V w->AtRel w w₁->AtRel V w₁:=λh r=>atRel_trans _ _ _ h r;have hF:AtRel w w:=atRel_refl w;walk_nrm
 u_op rl hF
 u_op rl hF
 u_op rl hF
 u_op rl hF
 u_op rl hF
 u_c stepG_region_end rl hF
 u_c stepG_seq rl hF
 u_reg rl hF
 u_op rl hF
 u_op rl hF
 u_c stepG_region_end rl hF
 u_c stepG_ret' rl hF
 u_in rl hF
 rw[stepG_leave (b:=bA) rfl rfl func15 (results_tmp rfl _ _ _) (events_results_tmp rfl _ _)];simp only[goes_go];refine⟨by u_nil,?_⟩;exact Go.Conc.Goes.stop λw₁ r=>⟨rfl,rl hF r⟩
end
def Af3(b:Bk)(lo:Nat)(R:World->Prop)(a:Act)(u:World):Prop :=
 ∃T bx p2 p3 a1 c1 a2 c2,a=⟨T,[]⟩/\T.size=18/\T[1]?=some (.pointer (some ⟨bx,0,none⟩))/\T[2]?=some (.pointer (some ⟨p2,0,none⟩))/\T[3]?=some (.pointer (some ⟨p3,0,none⟩))/\
  CB u bx [.slice a1 b.tg.length c1,.slice a2 b.bs.length c2]/\CB u p2 [.slice none 0 0]/\CB u p3 [.bool false]/\K6 u (.agg #[.slice a1 b.tg.length c1,.slice a2 b.bs.length c2]) b/\p2≠p3/\bx≠p2/\bx≠p3/\lo<=p2/\lo<=p3/\R u
theorem Ad0(b:Bk)(lo:Nat)(a:Act):N6 (Af3 b lo (λ_=>True) a):=λ_ _ _ h=>h
theorem Af4(b:Bk)(bv:Value)(w:World)(h:K6 w bv b){lo:Nat}(hlo:lo<=w.heap.size){R:World->Prop}(HR:Hid (∀u,Up w u->R u)):
  BG prog [KL] (λe a u=>e=.normal/\Af3 b lo R a u) ⟨US bv,[]⟩ w:=by
 obtain⟨a1,c1,a2,c2,rfl,h1,h2⟩:=h.parts;clear h1 h2;simp only[KL,US,BT,Tryz.f40,Option.getD_some];obtain⟨W1,a0,kA,k2,k3,a3,a4⟩:=cbE3 w [Vz a1 b.tg.length c1,Vz a2 b.bs.length c2] 26 [Nz] 23 [.bool false] 4;apply Al;intro K hK
 go_wp2_with fail;try clear hK
 try clear K
 try rw[a0]
 clear a0;exact⟨rfl,_,w.heap.size,w.heap.size+1,w.heap.size+2,a1,c1,a2,c2,rfl,rfl,rfl,rfl,rfl,kA,k2,k3,h.up a3,by omega,by omega,by omega,by omega,by omega,HR.out _ a3⟩
theorem All(b:Bk)(lo bx p2 p3:Nat)(a1 a2:Option Addr)(c1 c2:Nat)(u0 u4 u5 u6 u7 u8 u9 u10 u11 u12 u13 u14 u15 u16 u17:Value)(w:World)(h:K6 w (.agg #[Vz a1 b.tg.length c1,Vz a2 b.bs.length c2]) b)(hbk:J6 b=false)(kA:CB w bx [Vz a1 b.tg.length c1,Vz a2 b.bs.length c2])(k2:CB w p2 [Nz])(k3:CB w p3 [.bool false])(hne:p2≠p3)(hlo2:lo<=p2)(hlo3:lo<=p3)(hlow:lo<=w.heap.size)
  {R:Value->World->Prop} (HR:Hid (∀u,Below lo w u->R (.tuple #[Nz,.bool false]) u)) :
  Kd.wp prog (EF prog Tryz.f40 R) ⟨#[u0,Pz bx 0,Pz p2 0,Pz p3 0,u4,u5,u6,u7,u8,u9,u10,u11,u12,u13,u14,u15,u16,u17],[]⟩ w:=by
 generalize hfn:EF prog Tryz.f40 R=QQ
 have HQ:Hid (∀(a:Act) u,a.defers=[]->a.tmps.getD 2 undef=Pz p2 0->a.tmps.getD 3 undef=Pz p3 0->CB u p2 [Nz]->CB u p3 [.bool false]->Below lo w u->QQ .ret a u):=λa u hd q2 q3 x2 x3 hb=>by
  subst hfn;exact Eb (WH (r:=p2) (r2:=p3) (x:=Nz) (y:=.bool false) results40 q2 q3 (AaW x2.c1'.1) (AaX x3.c1'.1)) hd (HR.out _ hb)
 clear hfn;simp only[Kd,BT,Tryz.f40,Option.getD_some];obtain⟨e0,e1⟩:=kA.c2';go_wp2_with fail;refine (Cf b _ _ h).mono ?_;rintro e w2 ⟨rfl,a0⟩;have a3:Below lo w w2:=a0.mono hlow;have k2:=k2.up a0 k2.2.2;have k3:=k3.up a0 k3.2.2;clear a0 e0 e1 kA h;obtain⟨x2,f2⟩:=k2.c1';obtain⟨x3,f3⟩:=k3.c1';have a4:¬p3=p2:=λe=>hne e.symm;rw[hbk];go_wp2_with fail
 (try simp only[Exit.inBlock,Exit.then])
 refine HQ.out _ _ rfl rfl rfl ?_ ?_ ?_
 ·exact (k2.set (j:=0) (u:=Nz) (by simp)).other hne
 ·exact (k3.other (q:=p2) (j:=0) (u:=Nz) (λe=>hne e.symm)).set (j:=0) (u:=.bool false) (by simp)
 ·exact (a3.setCell (p:=⟨p2,0,none⟩) hlo2 _).setCell (p:=⟨p3,0,none⟩) hlo3 _
theorem Va(bs:List Ba)(gone:List BA):∀n:Nat,(∀k,k<n->¬Good bs gone k)∨∃k,k<n/\Good bs gone k/\∀j,j<k->¬Good bs gone j
 | 0=>.inl λk hk=>by omega
 | n+1=>by
  rcases Va bs gone n with h|⟨k,hk,hg,hj⟩
  ·by_cases hg:Good bs gone n
   ·exact .inr ⟨n,by omega,hg,h⟩
   ·exact .inl (FI h hg)
  ·exact .inr ⟨k,by omega,hg,hj⟩
theorem Ad1(bs:List Ba)(gone:List BA):Ag bs gone (-1)∨∃k:Nat,Ag bs gone (k:Int):=by
 rcases Va bs gone bs.length with h|⟨k,hk,hg,hj⟩
 ·exact .inl (.inl ⟨rfl,h⟩)
 ·exact .inr ⟨k,.inr ⟨k,rfl,hk,hg,hj⟩⟩
theorem Vb(V:World)(TO:Array Value)(l dl p2 p3:Nat)(u:Value):(V9 V TO l dl p2 p3 u).heap.size=V.heap.size:=by
 rw[V9,World.putObj_size,World.putObj_size,World.putObj_size,(aside_setCell _ _ _).size,(aside_setCell _ _ _).size,World.putObj_size]
theorem SI{V:World}{TO:Array Value}{l dl p2 p3 b:Nat}{u:Value}(h1:b≠l)(h2:b≠dl)(h3:b≠p2)(h4:b≠p3):(V9 V TO l dl p2 p3 u).heap[b]?=V.heap[b]?:=by
 rw[V9,World.putObj_heap_other h2,World.putObj_heap_other h1,World.putObj_heap_other h1,(aside_setCell _ _ _).block b h4,(aside_setCell _ _ _).block b h3,World.putObj_heap_other h1]
theorem PU(w:World)(l:Nat)(o:Obj):(w.putObj l o).os=w.os/\(w.putObj l o).output=w.output:=⟨rfl,rfl⟩
theorem Nx(w:World)(a:Addr)(v:Value):(w.setCell a v).os=w.os/\(w.setCell a v).output=w.output:=⟨rfl,rfl⟩
theorem AbZ(V:World)(TO:Array Value)(l dl p2 p3:Nat)(u:Value):(V9 V TO l dl p2 p3 u).os=V.os/\(V9 V TO l dl p2 p3 u).output=V.output:=by
 simp only[V9,(PU _ _ _).1,(PU _ _ _).2,(Nx _ _ _).1,(Nx _ _ _).2,and_self]
theorem Ad2{X:Nat->Prop}{V:World}(h:M1 X V){TO:Array Value}{l dl p2 p3:Nat}{u:Value}(h1:¬X l)(h2:¬X dl)(h3:¬X p2)(h4:¬X p3):M1 X (V9 V TO l dl p2 p3 u) :=
 OT h (by rw[Vb];exact A3 _) (λb hb=>SI (λe=>h1 (e ▸ hb)) (λe=>h2 (e ▸ hb)) (λe=>h3 (e ▸ hb)) (λe=>h4 (e ▸ hb)))
  (Jc (Jc (Jc (Hr (Hr (Jc h.pend (by intro c t e;cases e)) _ _) _ _) (by intro c t e;cases e)) (by intro c t e;cases e)) (by intro c t e;cases e))
attribute [local irreducible] V8 V9
theorem AhB:LF=.block 0 (.loop Iu):=by simp only[LF,Iu,Ec,Tryz.f69,Option.getD_some]
theorem okB:O0 prog (λg=>Fm.contains g) SH=true:=by kernel_rfl
structure RI (X:Nat->Prop) (b:Bk) (l tb:Nat) (V0:World) (gone:List BA) (T:Array Value) (w:World):Prop where
 size:T.size=33
 s0:T[0]?=some (.func (.yield l) #[] #[])
 s3:T[3]?=some (.pointer (some ⟨tb,0,none⟩))
 base:M1 X w
 goes:AD b.bs gone.length gone
 le:gone.length<=b.bs.length
 tab:∃ag cg ts,T[4]?=some (.slice ag gone.length cg)/\ts.map (·.1)=b.bs/\Fe ts gone/\∀τ d,G3 (E0 X w τ d) (tb+1) (.slice ag gone.length cg) gone/\Bo (E0 X w τ d) tb b.tg ts/\Below (l+1) (E0 X V0 τ d) (E0 X w τ d)
theorem RI.at{X:Nat->Prop}{b:Bk}{l tb:Nat}{V0:World}{gone:List BA}{T:Array Value}{w:World}(h:RI X b l tb V0 gone T w)(d:Nat):RI X b l tb V0 gone T (w.at d):=⟨h.size,h.s0,h.s3,h.base.at d,h.goes,h.le,h.tab⟩
theorem Af5{X:Nat->Prop}{Shun:Loc->Prop}{Post:Value->World->Prop}{c:Frame}{cs:List Frame}(hX:Y9 Shun X){b:Bk}(hok:I8 b){V0:World}{TO:Array Value}{l dl bx p2 p3 tb lo:Nat}{a2:Option Addr}{c2:Nat}{x2 x3:Value}(hTO:TO.size=18)(o1:TO[1]?=some (Pz bx 0))(o2:TO[2]?=some (Pz p2 0))(o3:TO[3]?=some (Pz p3 0))
  (hl0:V0.heap[l]?=some (.loop (Ab TO dl))) (hd0:V0.heap[dl]?=some (.deferred (some []))) (hc1:At V0 bx 1 (Vz a2 b.bs.length c2)) (k20:CB V0 p2 [x2]) (k30:CB V0 p3 [x3]) (hne:p2≠p3) (hxb:¬X bx) (hx2:¬X p2) (hx3:¬X p3) (hxl:¬X l) (hxd:¬X dl) (hbl:bx<l) (h2l:p2<l) (h3l:p3<l) (hdl:dl<l) (hlt:l<tb) (q2:lo<=p2) (q3:lo<=p3) (qd:lo<=dl)
  (kk:∀gs' w' sl' t' u ok ss,Y3 b ss ok->G6 prog Shun gs' (G (c.finish (.tuple #[u,.bool ok])) cs) t'->M1 X w'->(∀τ d,Below lo (E0 X V0 τ d) (E0 X w' τ d))->E7 prog Post (crowd gs' w' sl') t') :
  ∀(m:Nat)(gone:List BA)(T:Array Value)(w:World)(gs:Array Goroutine)(sl:Option (Nat×Nat)) (t:Trace),b.bs.length-gone.length=m->RI X b l tb V0 gone T w->G6 prog Shun gs (G (bF.at ⟨T,[]⟩ [.code Iu,.inLoop Iu,.inBlock 0]) (cO TO dl l::c::cs)) t->E7 prog Post (crowd gs w sl) t:=by
 intro m;induction m with
 | zero =>
  intro gone T w gs sl t hm hI hh;obtain⟨ag,cg,ts,s4,a1,hG,a0⟩:=hI.tab;have b9:=hI.le;have a3:gone.length=b.bs.length:=by omega
  have bk:∀k,k<l+1->¬X k->w.heap[k]?=V0.heap[k]?:=λk hk hx=>Hu (a0 (λ_ _=>0) 0).2.2 hk hx;have hz:V0.heap.size<=w.heap.size:=by have:=(a0 (λ_ _=>0) 0).2.2.size;rwa [I5,I5] at this
  have a8:=(bk l (by omega) hxl).trans hl0;have c1:=(bk dl (by omega) hxd).trans hd0;have a9:At w bx 1 (Vz a2 b.bs.length c2):=(C2 (bk bx (by omega) hxb)).trans hc1;have k2:=KN k20 (bk p2 (by omega) hx2) hz;have k3:=KN k30 (bk p3 (by omega) hx3) hz;rw[a3] at s4;refine P5 (D:=DE (EvL Shun w.heap.size)) (B0:=w.heap.size) (λ_ _ _ h=>h) hh (full hX hI.size hTO hI.s0 s4 o1 o2 o3 a8 c1 a9 hxb k2 k3 hne hx2 hx3) λgs' g' w' sl' t' hh' hst=>?_;obtain⟨rfl,d,rfl⟩:=hst;refine kk gs' _ sl' t' _ true gone (.inl ⟨rfl,hok,by have:=hI.goes;rwa [a3] at this⟩) hh' ((Ad2 hI.base hxl hxd hx2 hx3).at d) λτ d=>?_;exact ((a0 τ d).2.2.mono (by omega)).trans (JG (W:=w) (w':=V9 w TO l dl p2 p3 (Vz ag b.bs.length cg)) (AbZ ..).1 (AbZ ..).2 (by rw[Vb];exact A3 _) (λb hb=>SI (by omega) (by omega) (by omega) (by omega)) (λ_ _=>Iff.rfl) τ d)
 | succ m ih =>
  intro gone T w gs sl t hm hI hh;obtain⟨ag,cg,ts,s4,a1,hG,a0⟩:=hI.tab;have b9:=hI.le;have a3:gone.length<b.bs.length:=by omega
  have bk:∀k,k<l+1->¬X k->w.heap[k]?=V0.heap[k]?:=λk hk hx=>Hu (a0 (λ_ _=>0) 0).2.2 hk hx;have hz:V0.heap.size<=w.heap.size:=by have:=(a0 (λ_ _=>0) 0).2.2.size;rwa [I5,I5] at this
  have a8:=(bk l (by omega) hxl).trans hl0;have a9:At w bx 1 (Vz a2 b.bs.length c2):=(C2 (bk bx (by omega) hxb)).trans hc1;refine P5 (D:=DE (EvL Shun w.heap.size)) (B0:=w.heap.size) (λ_ _ _ h=>h) hh (Alj hX (by omega) hI.size hTO hI.s0 hI.s3 s4 o1 a8 a9 hxb) λgs1 g1 w1 sl1 t1 hh1 hst=>?_;obtain⟨⟨T1,rfl,b3,u0,u3,u4⟩,d1,rfl⟩:=hst;obtain⟨v0,v1,v2,v3,v4,v5,v6,v7,v8,v9,c4,c5,c6,c7,c8,c9,d2,d4,d5,d6,d7,d8,d9,e0,e9,f0,f1,f2,f3,f4,f5,f6,f7,rfl⟩:=OQ T1 b3;simp only[List.getElem?_toArray,List.getElem?_cons_succ,List.getElem?_cons_zero,Option.some.injEq] at u0 u3 u4;subst u0 u3 u4;rcases Ad1 b.bs gone with hnx|⟨k,hnx⟩
  ·refine Y5 hX hh1 (KJ R4 okB frF rfl func69 (hI.base.at d1) (R:=λ_ u=>∃τ d,True/\Below w.heap.size (E0 X w τ d) u) (λτ d=>AW (hI.base.at d1) (λτ d=>Ady b tb ts gone ag cg _ _ _ _ _ _ _ _ _ _ _ _ _ _ _ _ _ _ _ _ _ _ _ _ _ _ _ _ _ _ _ (E0 X w τ d) (a0 τ d).2.1 hok a1 hG hnx (show Hid _ from λv u hu=>⟨τ,d,trivial,by (try unfold Up at hu);rw[I5] at hu;exact hu⟩)) τ d) _ _ _) λgs2 g2 w2 sl2 t2 hh2 hst2=>?_;obtain⟨v,rfl,a7,b4⟩:=hst2;have a4:∀τ d,Below w.heap.size (E0 X w τ d) (E0 X w2 τ d):=λτ d=>(S8 (Q:=λ_=>True) (λ_ _ _ h=>h) (b4 τ d)).2;have g5:w.heap.size<=w2.heap.size:=by have:=(a4 (λ_ _=>0) 0).size;rwa [I5,I5] at this
   have g6:=(D2.1 hl0).1;have b1:∀τ d,Below (l+1) (E0 X V0 τ d) (E0 X w2 τ d):=λτ d=>(a0 τ d).2.2.trans ((a4 τ d).mono (by omega));have a6:∀k,k<l+1->¬X k->w2.heap[k]?=V0.heap[k]?:=λk hk hx=>Hu (b1 (λ_ _=>0) 0) hk hx;rw[PT] at hh2;have k2:=KN k20 (a6 p2 (by omega) hx2) (by omega);have k3:=KN k30 (a6 p3 (by omega) hx3) (by omega);refine P5 (D:=DE (EvL Shun w2.heap.size)) (B0:=w2.heap.size) (λ_ _ _ h=>h) hh2 (Alk hX hTO o2 o3 ((a6 l (by omega) hxl).trans hl0) ((a6 dl (by omega) hxd).trans hd0) k2 k3 hne hx2 hx3) λgs3 g3 w3 sl3 t3 hh3 hst3=>?_;obtain⟨rfl,d3,rfl⟩:=hst3;refine kk gs3 _ sl3 t3 _ false [] (.inr ⟨rfl,rfl,.inr ⟨gone.length,gone,a3,hI.goes,hnx⟩⟩) hh3 ((Adv a7 hxl hxd hx2 hx3).at d3) λτ d=>?_;exact ((b1 τ d).mono (by omega)).trans (JG (W:=w2) (w':=V8 w2 TO l dl p2 p3) (AbY ..).1 (AbY ..).2 (by rw[UX];exact A3 _) (λb hb=>SG (by omega) (by omega) (by omega) (by omega)) (λ_ _=>Iff.rfl) τ d)
  ·obtain⟨k',f8,b0,⟨x,hx,b5,-⟩,-⟩:∃k':Nat,(k:Int)=(k':Int)/\k'<b.bs.length/\Good b.bs gone k'/\∀j,j<k'->¬Good b.bs gone j:=by
    rcases hnx with⟨h,-⟩|h
    ·omega
    ·exact h
   obtain rfl:k=k':=by omega
   obtain⟨p,a5,b6⟩:=Afa a1 b0
   obtain rfl:x=p.1:=by
    rw[A0 b0] at hx;rw[b6];exact (A5 hx).symm
   have c3:p.2=false:=by rw[hG k p a5];exact b5
   refine Y5 hX hh1 (Gb R4 okB frF rfl (hI.base.at d1) (Q:=λa u=>∃τ d,AtB b (.func (.yield l) #[] #[]) tb (l+1) gone p.1 (ts.set k (p.1,true)) (E0 X w τ d) a u) (λτ d=>AW (hI.base.at d1) (λτ d=>wp_mono (Adz b tb (l+1) hlt ts gone ag cg (.func (.yield l) #[] #[]) _ _ _ _ _ _ _ _ _ _ _ _ _ _ _ _ _ _ _ _ _ _ _ _ _ _ _ _ _ _ (E0 X w τ d) (a0 τ d).2.1 (a0 τ d).1 hok a1 hG a3 hnx a5 c3) ?_) τ d) _ _) λgs2 g2 w2 sl2 t2 hh2 hst2=>?_
   ·intro e a' u' hq;cases e with
    | normal=>exact⟨rfl,τ,d,hq.2⟩
    | _=>exact absurd hq.1 (by simp)
   obtain⟨a',rfl,f9,a7,hQ⟩:=hst2
   have b2:∀τ d,∃T ag cg,a'=⟨T,[]⟩/\T.size=33/\T[0]?=some (.func (.yield l) #[] #[])/\T[3]?=some (Pz tb 0)/\T[4]?=some (Vz ag (gone.length+1) cg)/\G3 (E0 X w2 τ d) (tb+1) (Vz ag (gone.length+1) cg) (gone++[p.1.nm])/\Bo (E0 X w2 τ d) tb b.tg (ts.set k (p.1,true))/\Below (l+1) (E0 X w τ d) (E0 X w2 τ d):=λτ d=>by
    have h1:=S8 (X:=X) (X':=X) (W:=w) (w':=w2) (B:=l+1) (τ:=τ) (d:=d) (Q:=λu=>∃T ag cg,a'=⟨T,[]⟩/\T.size=33/\T[0]?=some (.func (.yield l) #[] #[])/\T[3]?=some (Pz tb 0)/\T[4]?=some (Vz ag (gone.length+1) cg)/\G3 u (tb+1) (Vz ag (gone.length+1) cg) (gone++[p.1.nm])/\Bo u tb b.tg (ts.set k (p.1,true))) (λ_ _ _ h=>h)
     ((hQ τ d).imp λu h=>let ⟨τ0,d0,T,ag,cg,e1,e2,e3,e4,e5,e6,e7,e8⟩:=h;⟨τ0,d0,⟨T,ag,cg,e1,e2,e3,e4,e5,e6,e7⟩,e8⟩)
    obtain⟨⟨T,ag,cg,e1,e2,e3,e4,e5,e6,e7⟩,e8⟩:=h1;exact⟨T,ag,cg,e1,e2,e3,e4,e5,e6,e7,e8⟩
   obtain⟨T2,b7,b8,rfl,y1,y2,y3,y4,-⟩:=b2 (λ_ _=>0) 0;refine D9 hh2 rfl (λw=>stepG_inLoop) λgs3 sl3 t3 d3 hh3=>?_;refine ih (gone++[p.1.nm]) T2 _ gs3 sl3 t3 (by simp;omega) ⟨y1,y2,y3,a7.at d3,by rw[A9];exact .more hI.goes hnx hx,by simp;omega,b7,b8,ts.set k (p.1,true),by rw[A9];exact y4,Adh a1 a5,YI hok.2.2.2.1 a1 hG a5,λτ d=>?_⟩ hh3;obtain⟨T3,g0,g4,e1,e2,e3,e4,e5,e6,e7,e8⟩:=b2 τ d;cases e1
   rw[y4] at e5;cases e5
   exact⟨by rw[A9];exact e6,e7,(a0 τ d).2.2.trans e8⟩
theorem Af6:BT=Bz [KL] (.seq Kd (.seq (.seq Nt FE) KM)):=by simp only[Bz,KL,Kd,Nt,FE,KM,BT,Tryz.f40,Option.getD_some]
theorem Ny{X:Nat->Prop}{Shun:Loc->Prop}{W:World}{b:Bk}{bv:Value}(hX:Y9 Shun X)(hbW:M1 X W)(hB:∀τ d,K6 (E0 X W τ d) bv b):
  AB prog 15 #[bv] X Shun W λv _=>∃ss ok,v=.bool ok/\Y3 b ss ok:=by
 intro Post c cs gs sl t hh k;rw[Afk,Afw] at hh;have hR:∀(V:World)(τ:Nat->Question->Nat)(d:Nat),Hid (∀u,Below (E0 X V τ d).heap.size (E0 X V τ d) u->∃τ d,True/\Below V.heap.size (E0 X V τ d) u):=λV τ d u hu=>⟨τ,d,trivial,by (try unfold Up at hu);rw[I5] at hu;exact hu⟩;refine Y5 hX hh (EE R4 frA PR [] (c::cs) [UR] (λr hr=>UY r (by simp at hr;simp[hr])) rfl hbW (λτ d=>AW hbW (λτ d=>Afj b bv _ (hB τ d) (hR W τ d)) τ d)) λgs1 g1 w1 sl1 t1 hh1 hst=>?_;obtain⟨a,rfl,hd,b1,hQ⟩:=hst;have a5:∀τ d,Below W.heap.size (E0 X W τ d) (E0 X w1 τ d):=λτ d=>(S8 (Q:=λ_=>True) (λ_ _ _ h=>h) ((hQ τ d).imp λu h=>let ⟨_,_,_,_,_,_,_,_,_,_,_,h⟩:=h;h)).2;obtain⟨T1,g7,a1,c1,a2,c2,rfl,d1,s1,b8,b9,-⟩:=AG.out (Afu b a) ((hQ (λ_ _=>0) 0).imp λu h=>let ⟨T,bx,a1,c1,a2,c2,h1,h2,h3,h4,h5,_⟩:=h;⟨T,bx,a1,c1,a2,c2,h1,h2,h3,h4,h5,trivial⟩);have b6:W.heap.size<=w1.heap.size:=by have:=(a5 (λ_ _=>0) 0).size;rwa [I5,I5] at this
 clear hQ hd;refine P5 (D:=DE (EvL Shun w1.heap.size)) (B0:=w1.heap.size) (λ_ _ _ h=>h) hh1 (Afs hX d1 s1 (b8.1 0 _ rfl) (b8.1 1 _ rfl)) λgs2 g2 w2 sl2 t2 hh2 hst2=>?_;obtain⟨⟨T2,rfl,d3⟩,d2,rfl⟩:=hst2
 have a8:∀gs' w' sl' t' u ok ss,Y3 b ss ok->G6 prog Shun gs' (G ((bA.at ⟨T2,[]⟩ (.inRegion Ns [1,2,3,4,5,6]::[.code YZ])).finish (.tuple #[u,.bool ok])) (c::cs)) t'->M1 X w'->(∀τ d,Below w1.heap.size (E0 X w1 τ d) (E0 X w' τ d))->E7 prog Post (crowd gs' w' sl') t':=λgs' w' sl' t' u ok ss ho hh' hb' hbel'=>by
  refine P5 (D:=DE λ_=>False) (B0:=0) (λ_ _ _ h e he=>(h e he).elim) hh' (AhA (w:=w') d3) λgs9 g9 w9 sl9 t9 hh9 hst9=>?_;obtain⟨rfl,d9,rfl⟩:=hst9;exact k X Shun gs9 _ sl9 t9 _ hX (λb hb=>.inl hb) hh9 (hb'.at d9) λτ d=>⟨⟨ss,ok,rfl,ho⟩,(a5 τ d).trans ((hbel' τ d).mono b6)⟩
 rw[Afl] at hh2;cases hbk:J6 b with
 | false =>
  rw[Af6] at hh2;refine Y5 hX hh2 (EE R4 frO (.seq Kd (.seq (.seq Nt FE) KM)) [] _ [KL] (λr hr=>UY r (by simp at hr;simp[hr])) rfl (b1.at d2) (λτ d=>AW (b1.at d2) (λτ d=>Af4 b _ _ (show K6 (E0 X (w1.at d2) τ d) _ b from b9) (lo:=w1.heap.size) (by (try unfold Up);rw[I5];exact A3 _) (hR (w1.at d2) τ d)) τ d)) λgs3 g3 w3 sl3 t3 hh3 hst3=>?_;obtain⟨a,rfl,hd,a7,hQ⟩:=hst3;have a0:∀τ d,Below w1.heap.size (E0 X w1 τ d) (E0 X w3 τ d):=λτ d=>(S8 (Q:=λ_=>True) (λ_ _ _ h=>h) ((hQ τ d).imp λu h=>let ⟨_,_,_,_,_,_,_,_,_,_,_,_,_,_,_,_,_,_,_,_,_,_,h⟩:=h;h)).2;have a9:=λτ d=>AG.out (Ad0 b w1.heap.size a) ((hQ τ d).imp λu h=>let ⟨T,bx,p2,p3,a1,c1,a2,c2,h1,h2,h3,h4,h5,h6,h7,h8,h9,h10,h11,h12,h13,h14,_⟩:=h;⟨T,bx,p2,p3,a1,c1,a2,c2,h1,h2,h3,h4,h5,h6,h7,h8,h9,h10,h11,h12,h13,h14,trivial⟩);have a4:w1.heap.size<=w3.heap.size:=by have:=(a0 (λ_ _=>0) 0).size;rwa [I5,I5] at this
  refine D9 hh3 rfl (λw=>stepG_seq) λgs4 sl4 t4 d4 hh4=>?_;refine Y5 hX hh4 (KJ R4 (UY Kd (by simp)) frO hd func40 (a7.at d4) (R:=λv u=>∃τ d,v=.tuple #[Nz,.bool false]/\Below w1.heap.size (E0 X w1 τ d) u) (λτ d=>AW (a7.at d4) (λτ d=>?_) τ d) _ _ _) λgs5 g5 w5 sl5 t5 hh5 hst5=>?_
  ·obtain⟨T,bx,p2,p3,a1,c1,a2,c2,rfl,hT,e1,e2,e3,kA,k2,k3,b3,b4,-,-,l2,l3,-⟩:=a9 τ d;obtain⟨u0,u1,u2,u3,u4,u5,u6,u7,u8,u9,g8,h0,i0,i1,i2,i3,i4,i5,rfl⟩:=Lu T hT;simp only[List.getElem?_toArray,List.getElem?_cons_succ,List.getElem?_cons_zero,Option.some.injEq] at e1 e2 e3;subst e1 e2 e3;exact All b w1.heap.size bx p2 p3 a1 a2 c1 c2 _ _ _ _ _ _ _ _ _ _ _ _ _ _ _ (E0 X w3 τ d) b3 hbk kA k2 k3 b4 l2 l3 (by (try unfold Up);rw[I5];exact a4) (show Hid _ from λu hu=>⟨τ,d,rfl,(a0 τ d).trans hu⟩)
  obtain⟨v,rfl,b5,d5⟩:=hst5;have b0:=λτ d=>S8 (Q:=λ_=>v=.tuple #[Nz,.bool false]) (λ_ _ _ h=>h) (d5 τ d);obtain rfl:=(b0 (λ_ _=>0) 0).1;exact a8 gs5 _ sl5 t5 _ false [] (.inr ⟨rfl,rfl,.inl (Cc.1 hbk)⟩) hh5 b5 λτ d=>(b0 τ d).2
 | true =>
  have c3:I8 b:=U9.1 hbk;rw[Afx] at hh2;refine Y5 hX hh2 (OI R4 frO Nt FE KM (UY _ (by simp)) [] _ [KL,Kd] (λr hr=>UY r (by simp at hr;rcases hr with rfl|rfl<;>simp)) rfl (b1.at d2) (λτ d=>AW (b1.at d2) (λτ d=>Ah8 b _ _ (show K6 (E0 X (w1.at d2) τ d) _ b from b9) hbk (lo:=w1.heap.size) (by (try unfold Up);rw[I5];exact A3 _) (hR (w1.at d2) τ d)) τ d)) λgs3 g3 w3 sl3 t3 hh3 hst3=>?_;obtain⟨a,rfl,hd,a7,hQ⟩:=hst3;have a0:∀τ d,Below w1.heap.size (E0 X w1 τ d) (E0 X w3 τ d):=λτ d=>(S8 (Q:=λ_=>True) (λ_ _ _ h=>h) ((hQ τ d).imp λu h=>let ⟨_,_,_,_,_,_,_,_,_,_,_,_,_,_,_,_,_,_,_,_,_,_,_,_,_,_,_,h⟩:=h;h)).2;obtain⟨TO,bx,p2,p3,q,a1,c1,a2,c2,x2,x3,rfl,d8,o1,o2,o3,o9,kB,k2,k3,kQ,e0,b4,i6,e4,e6,e7,-⟩:=AG.out (Afv b _ a) ((hQ (λ_ _=>0) 0).imp λu h=>let ⟨T,bx,p2,p3,q,a1,c1,a2,c2,x2,x3,h1,h2,h3,h4,h5,h6,h7,h8,h9,h10,h11,h12,h13,h14,h15,h16,_⟩:=h;⟨T,bx,p2,p3,q,a1,c1,a2,c2,x2,x3,h1,h2,h3,h4,h5,h6,h7,h8,h9,h10,h11,h12,h13,h14,h15,h16,trivial⟩);clear hQ hd;have a4:w1.heap.size<=w3.heap.size:=by have:=(a0 (λ_ _=>0) 0).size;rwa [I5,I5] at this
  have c4:∀b,X b->b<w3.heap.size:=a7.old;have c5:=(AA (k2.1 0 _ rfl)).2;have c6:=(AA (k3.1 0 _ rfl)).2;have e9:=(AA (kB.1 0 _ rfl)).2;have c7:¬X (w3.heap.size+1):=λh=>by have:=c4 _ h;omega
  have c8:¬X w3.heap.size:=λh=>by have:=c4 _ h;omega
  have zz:(E0 X w3 (λ_ _=>0) 0).heap.size=w3.heap.size:=I5 _ _ _;have zb:=kB.2.2;have z2:=k2.2.2;have z3:=k3.2.2;rw[zz] at zb z2 z3;refine P5 (D:=DE λ_=>False) (B0:=0) (λ_ _ _ h e he=>(h e he).elim) hh3 (Ah9 (V:=w3) o9) λgs4 g4 w4 sl4 t4 hh4 hst4=>?_;obtain⟨rfl,d4,rfl⟩:=hst4;have c9:=Adu a7 TO;have a6:∀τ d,Below w3.heap.size (E0 X w3 τ d) (E0 X (V1 w3 TO) τ d):=λτ d=>JG (W:=w3) (w':=V1 w3 TO) rfl rfl (by rw[OU];omega) (λb hb=>Zh w3 TO b hb) (λ_ _=>Iff.rfl) τ d;have d0:∀τ d,Below (E0 X w3 τ d).heap.size (E0 X w3 τ d) (E0 X (V1 w3 TO) τ d):=λτ d=>by (try unfold Up);rw[I5];exact a6 τ d
  have f1:∀τ d,CB (E0 X (V1 w3 TO) τ d) q [Vz a1 b.tg.length c1,Vz a2 b.bs.length c2]:=λτ d=>CB.up (w:=E0 X w3 τ d) kQ (d0 τ d) kQ.2.2;have f2:∀τ d,K6 (E0 X (V1 w3 TO) τ d) (.agg #[Vz a1 b.tg.length c1,Vz a2 b.bs.length c2]) b:=λτ d=>K6.up (w:=E0 X w3 τ d) e0 (d0 τ d);have f5:=OU w3 TO;rw[Afm,Afy] at hh4;refine Y5 hX hh4 (EE R4 frF LF [] _ [UT,UU] (λr hr=>UY r (by simp at hr;rcases hr with rfl|rfl<;>simp)) rfl (c9.at d4) (λτ d=>AW (c9.at d4) (λτ d=>Af2 b _ a1 a2 c1 c2 q _ (show CB (E0 X ((V1 w3 TO).at d4) τ d) _ _ from f1 τ d) (f2 τ d) c3 (lo:=w3.heap.size+2) (by (try unfold Up);rw[I5];exact Nat.le_of_eq f5.symm) (hR ((V1 w3 TO).at d4) τ d)) τ d)) λgs5 g5 w5 sl5 t5 hh5 hst5=>?_;obtain⟨a,rfl,hd,b5,hQ⟩:=hst5;have a3:∀τ d,Below (V1 w3 TO).heap.size (E0 X (V1 w3 TO) τ d) (E0 X w5 τ d):=λτ d=>(S8 (Q:=λ_=>True) (λ_ _ _ h=>h) ((hQ τ d).imp λu h=>let ⟨_,_,_,_,_,_,_,_,_,h⟩:=h;h)).2;have a9:=λτ d=>AG.out (Adx b _ (w3.heap.size+2) a) ((hQ τ d).imp λu h=>let ⟨T,tb,h1,h2,h3,h4,h5,h6,h7,_⟩:=h;⟨T,tb,h1,h2,h3,h4,h5,h6,h7,trivial⟩);obtain⟨T5,tb,rfl,e8,f0,f3,f4,-,i7,-⟩:=a9 (λ_ _=>0) 0
  have b7:∀τ d,Bo (E0 X w5 τ d) tb b.tg (Z4 b.bs b.bs.length):=λτ d=>by
   obtain⟨T',i8,e1,-,-,e3,-,e5,-⟩:=a9 τ d;cases e1
   rw[f3] at e3;cases e3
   exact e5
  clear hQ hd a9;have f6:(V1 w3 TO).heap.size<=w5.heap.size:=by have:=(a3 (λ_ _=>0) 0).size;rwa [I5,I5] at this
  have f7:w5.heap[w3.heap.size+1]?=some (.loop (Ab TO w3.heap.size)):=(Hu (a3 (λ_ _=>0) 0) (by omega) c7).trans (Adt w3 TO);have f8:w5.heap[w3.heap.size]?=some (.deferred (some [])):=(Hu (a3 (λ_ _=>0) 0) (by omega) c8).trans (Afr w3 TO);have b2:∀τ d,Below (E0 X w3 τ d).heap.size (E0 X w3 τ d) (E0 X w5 τ d):=λτ d=>by (try unfold Up);rw[I5];exact (a6 τ d).trans ((a3 τ d).mono (by omega))
  have f9:=CB.up (w:=E0 X w3 (λ_ _=>0) 0) kB (b2 _ _) kB.2.2;have g0:=UZ (CB.up (w:=E0 X w3 (λ_ _=>0) 0) k2 (b2 _ _) k2.2.2) c5;have g6:=UZ (CB.up (w:=E0 X w3 (λ_ _=>0) 0) k3 (b2 _ _) k3.2.2) c6;rw[AhB] at hh5;refine D9 hh5 rfl (λw=>stepG_block) λgs6 sl6 t6 d6 hh6=>?_;refine D9 hh6 rfl (λw=>stepG_loop) λgs7 sl7 t7 d7 hh7=>?_;refine Af5 hX c3 (V0:=w5) (lo:=w1.heap.size) d8 o1 o2 o3 f7 f8 (AA (f9.1 1 _ rfl)).1 g0 g6 b4 e9 c5 c6 c7 c8 (by omega) (by omega) (by omega) (by omega) (by omega) e6 e7 a4 (λgs' w' sl' t' u ok ss ho hh' hb' hbel'=>?_) _ [] T5 _ gs7 sl7 t7 rfl ⟨e8,f0,f3,(b5.at d6).at d7,.none,by simp,none,0,_,f4,by rw[OJ,List.take_length],YJ _ _,λτ d=>⟨⟨by simp,.inl ⟨rfl,rfl⟩⟩,b7 τ d,A4 _ _⟩⟩ hh7;refine a8 gs' w' sl' t' u ok ss ho hh' hb' λτ d=>?_;have e5:Below w1.heap.size (E0 X w3 τ d) (E0 X w5 τ d):=(b2 τ d).mono (by (try unfold Up);rw[I5];exact a4);exact (a0 τ d).trans (e5.trans (hbel' τ d))
end Go.Proofs.YtcgkgmmclfeohaaGreatDoor
